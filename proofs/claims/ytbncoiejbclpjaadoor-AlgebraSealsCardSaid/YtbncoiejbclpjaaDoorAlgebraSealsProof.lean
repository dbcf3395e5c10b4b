/-
  AlgebraSeals holds: for every c and with the law returns true and turns nothing that was there, where the table of places holds what the program's text lays.
-/
import Derived.Test.YtbncoiejbclpjaaDoorTabLaid03
import Derived.Test.YtbncoiejbclpjaaDoorAlgRef2
import Derived.Deep.DeepCutAuto
namespace Go.Proofs.YtbncoiejbclpjaaDoor.AlgebraSeals
open Go.RowKit Words FieldMath BoundsMath

theorem eq_same (q : Bool) (M A : Int) (W : World) : (binOp .eql 25 (.agg #[.bool q, .int .u64 M, .int .u64 A]) (.agg #[.bool q, .int .u64 M, .int .u64 A])).run Tryd.prog W = .ok (.bool true) W := by
  simp [go_sem]

set_option maxRecDepth 100000 in
set_option maxHeartbeats 8000000 in
theorem walk_let (q r Q1 Q2 Q3 Q5 : Bool) (M A N B M1 M2 M3 M4 : Int) (p1 : ∀ W, Tab W → Calls Tryd.prog 20 #[.agg #[.bool q, .int .u64 M, .int .u64 A], .agg #[.bool r, .int .u64 N, .int .u64 B]] W (Makes (.agg #[.bool Q1, .int .u64 M1, .int .u64 A]) W)) (r1 : ∀ W, Tab W → Calls Tryd.prog 21 #[.agg #[.bool q, .int .u64 M, .int .u64 A], .agg #[.bool r, .int .u64 N, .int .u64 B]] W (Makes (.agg #[.bool Q1, .int .u64 M1, .int .u64 A]) W)) (p2 : ∀ W, Tab W → Calls Tryd.prog 22 #[.agg #[.bool q, .int .u64 M, .int .u64 A], .agg #[.bool r, .int .u64 N, .int .u64 B]] W (Makes (.agg #[.bool Q2, .int .u64 M2, .int .u64 A]) W)) (r2 : ∀ W, Tab W → Calls Tryd.prog 23 #[.agg #[.bool q, .int .u64 M, .int .u64 A], .agg #[.bool r, .int .u64 N, .int .u64 B]] W (Makes (.agg #[.bool Q2, .int .u64 M2, .int .u64 A]) W)) (p3 : ∀ W, Tab W → Calls Tryd.prog 24 #[.agg #[.bool q, .int .u64 M, .int .u64 A]] W (Makes (.agg #[.bool Q3, .int .u64 M3, .int .u64 A]) W)) (r3 : ∀ W, Tab W → Calls Tryd.prog 25 #[.agg #[.bool q, .int .u64 M, .int .u64 A]] W (Makes (.agg #[.bool Q3, .int .u64 M3, .int .u64 A]) W)) (p4 : ∀ W, Tab W → Calls Tryd.prog 26 #[.agg #[.bool q, .int .u64 M, .int .u64 A]] W (Makes (.agg #[.bool q, .int .u64 M4, .int .u64 A]) W)) (r4 : ∀ W, Tab W → Calls Tryd.prog 27 #[.agg #[.bool q, .int .u64 M, .int .u64 A]] W (Makes (.agg #[.bool q, .int .u64 M4, .int .u64 A]) W)) (p5 : ∀ W, Tab W → Calls Tryd.prog 28 #[.agg #[.bool q, .int .u64 M, .int .u64 A], .agg #[.bool r, .int .u64 N, .int .u64 B]] W (Makes (.agg #[.bool Q5, .int .u64 M, .int .u64 A]) W)) (r5 : ∀ W, Tab W → Calls Tryd.prog 29 #[.agg #[.bool q, .int .u64 M, .int .u64 A], .agg #[.bool r, .int .u64 N, .int .u64 B]] W (Makes (.agg #[.bool Q5, .int .u64 M, .int .u64 A]) W)) (cO : ∀ W, Tab W → Calls Tryd.prog 19 #[] W (Makes (.bool true) W)) (w : World) (hT : Tab w) :
    Calls Tryd.prog 4 #[.agg #[.bool q, .int .u64 M, .int .u64 A], .agg #[.bool r, .int .u64 N, .int .u64 B]] w (Makes (.bool true) w) := by
  have Cp1 := hide p1
  have Cr1 := hide r1
  have Cp2 := hide p2
  have Cr2 := hide r2
  have Cp3 := hide p3
  have Cr3 := hide r3
  have Cp4 := hide p4
  have Cr4 := hide r4
  have Cp5 := hide p5
  have Cr5 := hide r5
  have CcO := hide cO
  clear p1 r1 p2 r2 p3 r3 p4 r4 p5 r5 cO
  have EQ := eq_same
  have SS := cell_same
  have LB' := ltB_add
  have LS := ltB_self
  have LA' := alloc_reads
  have LH := alloc_holds
  go_enter Tryd.func4, Tryd.ntmps4
  go_upto_region 1 with fail
  go_cut [5, 6] (fun s5 s6 wx => ∃ n5 n6 : Nat, s5 = .pointer (some ⟨n5, 0, none⟩) ∧ s6 = .pointer (some ⟨n6, 0, none⟩) ∧ wx.cell? ⟨w.heap.size, 0, none⟩ = some (.bool q) ∧ wx.cell? ⟨w.heap.size, 1, none⟩ = some (.int .u64 M) ∧ wx.cell? ⟨w.heap.size, 2, none⟩ = some (.int .u64 A) ∧ wx.cell? ⟨w.heap.size + 1, 0, none⟩ = some (.bool r) ∧ wx.cell? ⟨w.heap.size + 1, 1, none⟩ = some (.int .u64 N) ∧ wx.cell? ⟨w.heap.size + 1, 2, none⟩ = some (.int .u64 B) ∧ wx.cell? ⟨n5, 0, none⟩ = some (.bool q) ∧ wx.cell? ⟨n5, 1, none⟩ = some (.int .u64 M) ∧ wx.cell? ⟨n5, 2, none⟩ = some (.int .u64 A) ∧ wx.cell? ⟨n6, 0, none⟩ = some (.bool r) ∧ wx.cell? ⟨n6, 1, none⟩ = some (.int .u64 N) ∧ wx.cell? ⟨n6, 2, none⟩ = some (.int .u64 B) ∧ Tab wx ∧ Below w.heap.size w wx)
  case first =>
    go_region
    all_goals
      go_wp2_with fail
      go_meet
      refine ⟨_, _, rfl, rfl, ?_, ?_, ?_, ?_, ?_, ?_, ?_, ?_, ?_, ?_, ?_, ?_, ?_, ?_⟩
    all_goals (first | with_reducible assumption | ((repeat (first | with_reducible assumption | with_reducible refine c_dr _ ?_ | with_reducible refine c_d1 ?_ | with_reducible refine c_al _ ?_ | (with_reducible refine c_set ?_ ?_; focus (dsimp only; omega)) | (with_reducible apply c_be; with_reducible assumption))); done) | ((repeat (first | with_reducible assumption | with_reducible refine o_dr _ ?_ | with_reducible refine o_d1 ?_ | with_reducible refine o_set ?_ | (with_reducible refine o_new ?_ ?_; (focus (simp)); (focus (simp))) | with_reducible refine o_al _ ?_ | (with_reducible apply o_be; with_reducible assumption))); done) | ((repeat (first | with_reducible assumption | with_reducible exact Below.refl _ _ | with_reducible refine Below.drew ?_ | with_reducible refine below_drewN ?_ _ | with_reducible refine bw_alloc ?_ _ | (with_reducible refine bw_set ?_ ?_ _; focus (dsimp only; omega)) | (with_reducible apply bw_behind; with_reducible assumption))); done) | (refine hT.behind ?_; (repeat (first | with_reducible assumption | with_reducible exact Below.refl _ _ | with_reducible refine Below.drew ?_ | with_reducible refine below_drewN ?_ _ | with_reducible refine bw_alloc ?_ _ | (with_reducible refine bw_set ?_ ?_ _; focus (dsimp only; omega)) | (with_reducible apply bw_behind; with_reducible assumption))); done) | (simp [go_sem, *]; omega) | (simp (maxDischargeDepth := 4) [go_sem, *]; done))
  case rest =>
    obtain ⟨n5, n6, rfl, rfl, g0, g1, g2, g3, g4, g5, g6, g7, g8, g9, g10, g11, hT2, hB2⟩ := hcut
    go_upto_region 2 with fail

    refine wp_abs (fun W => Tab W ∧ Below w.heap.size w W ∧ W.cell? ⟨w.heap.size, 0, none⟩ = some (.bool q) ∧ W.cell? ⟨w.heap.size, 1, none⟩ = some (.int .u64 M) ∧ W.cell? ⟨w.heap.size, 2, none⟩ = some (.int .u64 A) ∧ W.cell? ⟨w.heap.size + 1, 0, none⟩ = some (.bool r) ∧ W.cell? ⟨w.heap.size + 1, 1, none⟩ = some (.int .u64 N) ∧ W.cell? ⟨w.heap.size + 1, 2, none⟩ = some (.int .u64 B) ∧ W.cell? ⟨n5, 0, none⟩ = some (.bool q) ∧ W.cell? ⟨n5, 1, none⟩ = some (.int .u64 M) ∧ W.cell? ⟨n5, 2, none⟩ = some (.int .u64 A) ∧ W.cell? ⟨n6, 0, none⟩ = some (.bool r) ∧ W.cell? ⟨n6, 1, none⟩ = some (.int .u64 N) ∧ W.cell? ⟨n6, 2, none⟩ = some (.int .u64 B)) ?_ ?_
    · refine ⟨?_, ?_, ?_, ?_, ?_, ?_, ?_, ?_, ?_, ?_, ?_, ?_, ?_, ?_⟩
      all_goals (first | with_reducible assumption | ((repeat (first | with_reducible assumption | with_reducible refine c_dr _ ?_ | with_reducible refine c_d1 ?_ | with_reducible refine c_al _ ?_ | (with_reducible refine c_set ?_ ?_; focus (dsimp only; omega)) | (with_reducible apply c_be; with_reducible assumption))); done) | ((repeat (first | with_reducible assumption | with_reducible refine o_dr _ ?_ | with_reducible refine o_d1 ?_ | with_reducible refine o_set ?_ | (with_reducible refine o_new ?_ ?_; (focus (simp)); (focus (simp))) | with_reducible refine o_al _ ?_ | (with_reducible apply o_be; with_reducible assumption))); done) | ((repeat (first | with_reducible assumption | with_reducible exact Below.refl _ _ | with_reducible refine Below.drew ?_ | with_reducible refine below_drewN ?_ _ | with_reducible refine bw_alloc ?_ _ | (with_reducible refine bw_set ?_ ?_ _; focus (dsimp only; omega)) | (with_reducible apply bw_behind; with_reducible assumption))); done) | (refine hT2.behind ?_; (repeat (first | with_reducible assumption | with_reducible exact Below.refl _ _ | with_reducible refine Below.drew ?_ | with_reducible refine below_drewN ?_ _ | with_reducible refine bw_alloc ?_ _ | (with_reducible refine bw_set ?_ ?_ _; focus (dsimp only; omega)) | (with_reducible apply bw_behind; with_reducible assumption))); done) | (simp [go_sem, *]; omega) | (simp (maxDischargeDepth := 4) [go_sem, *]; done))
    rintro w0 ⟨hT0, hB0, c0, c1, c2, c3, c4, c5, c6, c7, c8, c9, c10, c11⟩
    have y0 := behind_cell0 c0
    have y1 := behind_cell0 c1
    have y2 := behind_cell0 c2
    have y3 := behind_cell0 c3
    have y4 := behind_cell0 c4
    have y5 := behind_cell0 c5
    have y6 := behind_cell0 c6
    have y7 := behind_cell0 c7
    have y8 := behind_cell0 c8
    have y9 := behind_cell0 c9
    have y10 := behind_cell0 c10
    have y11 := behind_cell0 c11
    have hsome := Behind.any w0
    clear c0 c1 c2 c3 c4 c5 c6 c7 c8 c9 c10 c11
    refine wp_region_behind w0 (by kernel_rfl) (by kernel_rfl) (Below.refl _ _) ?_
    repeat (go_big_quiet_step (first | (go_at_call 20; with_reducible first | exact behind_call Cp1.out hT0 _) | (go_at_call 21; with_reducible first | exact behind_call Cr1.out hT0 _) | (go_at_call 22; with_reducible first | exact behind_call Cp2.out hT0 _) | (go_at_call 23; with_reducible first | exact behind_call Cr2.out hT0 _) | (go_at_call 24; with_reducible first | exact behind_call Cp3.out hT0 _) | (go_at_call 25; with_reducible first | exact behind_call Cr3.out hT0 _) | (go_at_call 26; with_reducible first | exact behind_call Cp4.out hT0 _) | (go_at_call 27; with_reducible first | exact behind_call Cr4.out hT0 _) | (go_at_call 28; with_reducible first | exact behind_call Cp5.out hT0 _) | (go_at_call 29; with_reducible first | exact behind_call Cr5.out hT0 _) | (go_at_call 19; with_reducible first | exact behind_call CcO.out hT0 _)))
    refine wpQuiet_nil ?_
    rintro _ ⟨y, rfl⟩
    have hTy := hT0.behind y.below
    have hBy := bw_behind y.below hB0
    have x0 := y0 y
    have x1 := y1 y
    have x2 := y2 y
    have x3 := y3 y
    have x4 := y4 y
    have x5 := y5 y
    have x6 := y6 y
    have x7 := y7 y
    have x8 := y8 y
    have x9 := y9 y
    have x10 := y10 y
    have x11 := y11 y
    clear hsome y0 y1 y2 y3 y4 y5 y6 y7 y8 y9 y10 y11
    obtain ⟨w1, hw1⟩ : ∃ W, W = y.world := ⟨_, rfl⟩
    rw [← hw1] at hTy hBy x0 x1 x2 x3 x4 x5 x6 x7 x8 x9 x10 x11 ⊢
    clear hw1 y hT0 hB0
    go_wp2
    refine bodyPost_ret (v := .bool true) (by simp (maxDischargeDepth := 4) [results, Tryd.results4, go_sem, *]) rfl ?_
    refine ⟨rfl, ?_⟩
    repeat (first | with_reducible assumption | with_reducible exact Below.refl _ _ | with_reducible refine Below.drew ?_ | with_reducible refine below_drewN ?_ _ | with_reducible refine bw_alloc ?_ _ | (with_reducible refine bw_set ?_ ?_ _; focus (dsimp only; omega)) | (with_reducible apply bw_behind; with_reducible assumption))

theorem walk (q : Bool) (m a : BitVec 64) (r : Bool) (n b : BitVec 64) (w : World) (hT : Tab w) : Calls Tryd.prog 4 #[.agg #[.bool q, .int .u64 (m.toNat : Int), .int .u64 (a.toNat : Int)], .agg #[.bool r, .int .u64 (n.toNat : Int), .int .u64 (b.toNat : Int)]] w fun e w' => e = .returned (.bool true) ∧ Below w.heap.size w w' := by
  have hm := toNat_lt m
  have hn := toNat_lt n
  have hb := toNat_lt b
  generalize m.toNat = m at *
  generalize a.toNat = a at *
  generalize n.toNat = n at *
  generalize b.toNat = b at *
  exact walk_let _ _ _ _ _ _ _ _ _ _ _ _ _ _ (fun W hW => seal_any q r m a n b hm hn hb W hW) (fun W hW => rseal_any q r m a n b hm hn W hW) (fun W hW => unseal_any q r m a n b hm hn hb W hW) (fun W hW => runseal_any q r m a n b hm hn W hW)
    (fun W hW => enter_any q m a hm W hW) (fun W hW => renter_any q m a hm W hW) (fun W hW => opened_any q m a hm W hW) (fun W hW => ropened_any q m a hm W hW) (fun W hW => build_any q r m a n b hm hn W hW) (fun W hW => rbuild_any q r m a n b hm hn W hW) (fun W hW => one_any W hW) w hT
open Go.ChangeShapes Go.WideShapes Go.ChangeAt
set_option maxRecDepth 100000 in
theorem walks : Frame.WalksLaid [("mintmark/bounds.places", Rows.laid_mintmark_bounds_places)] 4 Tryd.f4 := by
  intro H enc W base args ds ps hL hval hA
  rw [Tryd.params4] at hA hval
  obtain ⟨v0, v1, d0, d1, p0, p1, hargs, rfl, rfl, h0, h1⟩ := trodAll_two hA
  obtain rfl : args = #[v0, v1] := by cases args; simp_all
  obtain ⟨cs0, rfl, hf0⟩ := Frame.open_struct (F := 4) (ks := [.inr false, .inl .u64, .inl .u64]) Tryd.underlying24 (by kernel_rfl) (hval 0 24 v0 rfl rfl) h0
  match cs0, hf0 with
  | [_, _, _], ⟨⟨z0_0, rfl⟩, ⟨z0_1, rfl, wz0_1⟩, ⟨z0_2, rfl, wz0_2⟩, _⟩ =>
  obtain ⟨Z0_1, rfl⟩ := Frame.wf_u64 wz0_1
  obtain ⟨Z0_2, rfl⟩ := Frame.wf_u64 wz0_2
  obtain ⟨cs1, rfl, hf1⟩ := Frame.open_struct (F := 4) (ks := [.inr false, .inl .u64, .inl .u64]) Tryd.underlying24 (by kernel_rfl) (hval 1 24 v1 rfl rfl) h1
  match cs1, hf1 with
  | [_, _, _], ⟨⟨z1_0, rfl⟩, ⟨z1_1, rfl, wz1_1⟩, ⟨z1_2, rfl, wz1_2⟩, _⟩ =>
  obtain ⟨Z1_1, rfl⟩ := Frame.wf_u64 wz1_1
  obtain ⟨Z1_2, rfl⟩ := Frame.wf_u64 wz1_2
  exact walk z0_0 Z0_1 Z0_2 z1_0 Z1_1 Z1_2 W (tab_of_laid hL)
set_option maxRecDepth 100000 in
theorem said : Rows.AlgebraSealsSaid :=
  OpenClaim.holds_of_wide 4 Tryd.f4 rfl rfl rfl rfl rfl rfl rfl ⟨rfl, rfl, rfl, rfl, rfl⟩ rfl rfl rfl rfl rfl (by kernel_rfl) Tryd.func4 (by kernel_rfl)
    (of_decide_eq_true (by kernel_rfl)) (by unfold Func.isWrapper; first | (rw [if_pos (by decide +kernel)]; kernel_rfl) | (rw [if_neg (by decide +kernel)]; exact ⟨rfl, rfl⟩))
    (fun os started H enc _ => Frame.liftLaid [("mintmark/bounds.places", Rows.laid_mintmark_bounds_places)] os started H enc _ _ Rows.algebraSealsSpec 4 (by kernel_rfl) Tryd.func4 Tryd.underlying4 (by kernel_rfl) rfl (by kernel_rfl)
      (fun ds h => by match ds, h with | [_, _], _ => exact ⟨rfl, rfl, rfl⟩)
      (ChangeSpec.witness_shaped (enc := enc) (C := Tryd.checked) (os := os) (X := fun w _ => laidMetH Tryd.prog [("mintmark/bounds.places", Rows.laid_mintmark_bounds_places)] w) false (World.doorLaid Tryd.prog 400 os) #[.agg #[.bool false, .int .u64 0, .int .u64 0], .agg #[.bool false, .int .u64 0, .int .u64 0]] 8 rfl (World.shaped_of_RefB (by kernel_rfl) (by kernel_rfl)) (by kernel_rfl) (by kernel_rfl) (by kernel_rfl) (door_met os _)) walks)
set_option maxRecDepth 100000 in
theorem proved : Rows.AlgebraSealsCardSaid :=
  Claim7.holds_tied_plain_at .later [] [.data] true _ false said (fun _ h => by cases h) (by kernel_rfl) (fun _ h => by cases h) algebraSeals_row_tie rfl ⟨rfl, rfl⟩ (by kernel_rfl) rfl
    (fun f fn hf hfn => by
      obtain rfl : f = 4 := Option.some.inj ((show Tryd.prog.funcNamed "mintmark/mintmarklaw06.AlgebraSeals" = some 4 by kernel_rfl).symm.trans hf) |>.symm
      obtain rfl : fn = Tryd.f4 := (Option.some.inj (Tryd.func4.symm.trans hfn)).symm
      exact ⟨by kernel_rfl, fun j t ht => by
        rw [Tryd.params4] at ht
        have hm : t ∈ [24] := by have := Array.mem_of_getElem? ht; simp at this; simp; first | omega | grind
        have hall : ([24].all fun u => !Tryd.prog.wantsStandIn u) = true := by kernel_rfl
        exact (show Tryd.prog.wantsStandIn t = false by simpa using List.all_eq_true.1 hall t hm)⟩)
    (by kernel_rfl)
end Go.Proofs.YtbncoiejbclpjaaDoor.AlgebraSeals
