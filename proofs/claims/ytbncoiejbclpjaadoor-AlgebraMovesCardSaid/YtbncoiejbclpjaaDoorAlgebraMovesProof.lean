/-
  AlgebraMoves holds: for every c, n and exact the law returns true and turns nothing that was there, where the table of places holds what the program's text lays.
-/
import Derived.Test.YtbncoiejbclpjaaDoorTabLaid03
import Derived.Test.YtbncoiejbclpjaaDoorAlgRef2
namespace Go.Proofs.YtbncoiejbclpjaaDoor.AlgebraMoves
open Go.RowKit Words FieldMath BoundsMath

theorem eq_same (q : Bool) (M A : Int) (W : World) : (binOp .eql 25 (.agg #[.bool q, .int .u64 M, .int .u64 A]) (.agg #[.bool q, .int .u64 M, .int .u64 A])).run Tryd.prog W = .ok (.bool true) W := by
  simp [go_sem]

set_option maxRecDepth 100000 in
set_option maxHeartbeats 8000000 in
theorem walk_let (q x Q1 Q2 Q3 Q4 : Bool) (M A N X M3 M4 : Int) (p1 : ∀ W, Tab W → Calls Tryd.prog 10 #[.agg #[.bool q, .int .u64 M, .int .u64 A]] W (Makes (.agg #[.bool false, .int .u64 M, .int .u64 A]) W)) (r1 : ∀ W, Tab W → Calls Tryd.prog 11 #[.agg #[.bool q, .int .u64 M, .int .u64 A]] W (Makes (.agg #[.bool false, .int .u64 M, .int .u64 A]) W)) (p2 : ∀ W, Tab W → Calls Tryd.prog 12 #[.agg #[.bool q, .int .u64 M, .int .u64 A], .int .u64 N] W (Makes (.agg #[.bool Q1, .int .u64 M, .int .u64 N]) W)) (r2 : ∀ W, Tab W → Calls Tryd.prog 13 #[.agg #[.bool q, .int .u64 M, .int .u64 A], .int .u64 N] W (Makes (.agg #[.bool Q1, .int .u64 M, .int .u64 N]) W)) (p3 : ∀ W, Tab W → Calls Tryd.prog 14 #[.agg #[.bool q, .int .u64 M, .int .u64 A], .int .u64 N] W (Makes (.agg #[.bool Q2, .int .u64 M, .int .u64 X]) W)) (r3 : ∀ W, Tab W → Calls Tryd.prog 13 #[.agg #[.bool q, .int .u64 M, .int .u64 A], .int .u64 X] W (Makes (.agg #[.bool Q2, .int .u64 M, .int .u64 X]) W)) (p4 : ∀ W, Tab W → Calls Tryd.prog 15 #[.agg #[.bool q, .int .u64 M, .int .u64 A], .int .u64 N, .bool x] W (Makes (.agg #[.bool Q3, .int .u64 M3, .int .u64 A]) W)) (r4 : ∀ W, Tab W → Calls Tryd.prog 16 #[.agg #[.bool q, .int .u64 M, .int .u64 A], .int .u64 N, .bool x] W (Makes (.agg #[.bool Q3, .int .u64 M3, .int .u64 A]) W)) (p5 : ∀ W, Tab W → Calls Tryd.prog 17 #[.agg #[.bool q, .int .u64 M, .int .u64 A], .int .u64 N] W (Makes (.agg #[.bool Q4, .int .u64 M4, .int .u64 A]) W)) (r5 : ∀ W, Tab W → Calls Tryd.prog 18 #[.agg #[.bool q, .int .u64 M, .int .u64 A], .int .u64 N] W (Makes (.agg #[.bool Q4, .int .u64 M4, .int .u64 A]) W)) (cO : ∀ W, Tab W → Calls Tryd.prog 19 #[] W (Makes (.bool true) W)) (hX : IntKind.u64.wrap (A + N) = X) (w : World) (hT : Tab w) :
    Calls Tryd.prog 3 #[.agg #[.bool q, .int .u64 M, .int .u64 A], .int .u64 N, .bool x] w (Makes (.bool true) w) := by
  have Cp1 := hide p1
  have Cr1 := hide r1
  have Cp2 := hide p2
  have Cr2 := hide r2
  have Cp3 := hide p3
  have Cr3 := hide r3
  have Cp4 := hide p4
  have Cr4 := hide r4
  have Cp5 := hide p5
  have Cr5 := hide r5
  have CcO := hide cO
  clear p1 r1 p2 r2 p3 r3 p4 r4 p5 r5 cO
  have EQ := eq_same
  have SS := cell_same
  have LB' := ltB_add
  have LS := ltB_self
  have LA' := alloc_reads
  have LH := alloc_holds
  go_enter Tryd.func3, Tryd.ntmps3
  go_upto_region 2 with fail
  refine wp_abs (fun W => Tab W ∧ Below w.heap.size w W ∧ W.cell? ⟨w.heap.size, 0, none⟩ = some (.bool q) ∧ W.cell? ⟨w.heap.size, 1, none⟩ = some (.int .u64 M) ∧ W.cell? ⟨w.heap.size, 2, none⟩ = some (.int .u64 A) ∧ W.cell? ⟨w.heap.size + 1, 0, none⟩ = some (.bool q) ∧ W.cell? ⟨w.heap.size + 1, 1, none⟩ = some (.int .u64 M) ∧ W.cell? ⟨w.heap.size + 1, 2, none⟩ = some (.int .u64 A)) ?_ ?_
  · refine ⟨?_, ?_, ?_, ?_, ?_, ?_, ?_, ?_⟩
    all_goals (first | with_reducible assumption | ((repeat (first | with_reducible assumption | with_reducible refine c_dr _ ?_ | with_reducible refine c_d1 ?_ | with_reducible refine c_al _ ?_ | (with_reducible refine c_set ?_ ?_; focus (dsimp only; omega)) | (with_reducible apply c_be; with_reducible assumption))); done) | ((repeat (first | with_reducible assumption | with_reducible refine o_dr _ ?_ | with_reducible refine o_d1 ?_ | with_reducible refine o_set ?_ | (with_reducible refine o_new ?_ ?_; (focus (simp)); (focus (simp))) | with_reducible refine o_al _ ?_ | (with_reducible apply o_be; with_reducible assumption))); done) | ((repeat (first | with_reducible assumption | with_reducible exact Below.refl _ _ | with_reducible refine Below.drew ?_ | with_reducible refine below_drewN ?_ _ | with_reducible refine bw_alloc ?_ _ | (with_reducible refine bw_set ?_ ?_ _; focus (dsimp only; omega)) | (with_reducible apply bw_behind; with_reducible assumption))); done) | (refine hT.behind ?_; (repeat (first | with_reducible assumption | with_reducible exact Below.refl _ _ | with_reducible refine Below.drew ?_ | with_reducible refine below_drewN ?_ _ | with_reducible refine bw_alloc ?_ _ | (with_reducible refine bw_set ?_ ?_ _; focus (dsimp only; omega)) | (with_reducible apply bw_behind; with_reducible assumption))); done) | (simp [go_sem, *]; omega) | (simp (maxDischargeDepth := 4) [go_sem, *]; done))
  rintro w0 ⟨hT0, hB0, c0, c1, c2, c3, c4, c5⟩
  have y0 := behind_cell0 c0
  have y1 := behind_cell0 c1
  have y2 := behind_cell0 c2
  have y3 := behind_cell0 c3
  have y4 := behind_cell0 c4
  have y5 := behind_cell0 c5
  have hsome := Behind.any w0
  clear c0 c1 c2 c3 c4 c5
  refine wp_region_behind w0 (by kernel_rfl) (by kernel_rfl) (Below.refl _ _) ?_
  repeat (go_big_quiet_step (first | (go_at_call 10; with_reducible first | exact behind_call Cp1.out hT0 _) | (go_at_call 11; with_reducible first | exact behind_call Cr1.out hT0 _) | (go_at_call 12; with_reducible first | exact behind_call Cp2.out hT0 _) | (go_at_call 13; with_reducible first | exact behind_call Cr2.out hT0 _ | exact behind_call Cr3.out hT0 _) | (go_at_call 14; with_reducible first | exact behind_call Cp3.out hT0 _) | (go_at_call 15; with_reducible first | exact behind_call Cp4.out hT0 _) | (go_at_call 16; with_reducible first | exact behind_call Cr4.out hT0 _) | (go_at_call 17; with_reducible first | exact behind_call Cp5.out hT0 _) | (go_at_call 18; with_reducible first | exact behind_call Cr5.out hT0 _) | (go_at_call 19; with_reducible first | exact behind_call CcO.out hT0 _)))
  refine wpQuiet_nil ?_
  rintro _ ⟨y, rfl⟩
  have hTy := hT0.behind y.below
  have hBy := bw_behind y.below hB0
  have x0 := y0 y
  have x1 := y1 y
  have x2 := y2 y
  have x3 := y3 y
  have x4 := y4 y
  have x5 := y5 y
  clear hsome y0 y1 y2 y3 y4 y5
  obtain ⟨w1, hw1⟩ : ∃ W, W = y.world := ⟨_, rfl⟩
  rw [← hw1] at hTy hBy x0 x1 x2 x3 x4 x5 ⊢
  clear hw1 y hT0 hB0
  go_wp2
  refine bodyPost_ret (v := .bool true) (by simp (maxDischargeDepth := 4) [results, Tryd.results3, go_sem, *]) rfl ?_
  refine ⟨rfl, ?_⟩
  repeat (first | with_reducible assumption | with_reducible exact Below.refl _ _ | with_reducible refine Below.drew ?_ | with_reducible refine below_drewN ?_ _ | with_reducible refine bw_alloc ?_ _ | (with_reducible refine bw_set ?_ ?_ _; focus (dsimp only; omega)) | (with_reducible apply bw_behind; with_reducible assumption))

theorem walk (q : Bool) (m a n : BitVec 64) (x : Bool) (w : World) (hT : Tab w) : Calls Tryd.prog 3 #[.agg #[.bool q, .int .u64 (m.toNat : Int), .int .u64 (a.toNat : Int)], .int .u64 (n.toNat : Int), .bool x] w fun e w' => e = .returned (.bool true) ∧ Below w.heap.size w w' := by
  have hm := toNat_lt m
  have ha := toNat_lt a
  have hn := toNat_lt n
  generalize m.toNat = m at *
  generalize a.toNat = a at *
  generalize n.toNat = n at *
  have p1 := fun W hW => clear_any q (m : Int) (a : Int) W hW
  have r1 := fun W hW => rclear_any q (m : Int) (a : Int) W hW
  have p2 := fun W hW => address_any q m a n hm W hW
  have r2 := fun W hW => raddress_any q m a n hm W hW
  have p3 := fun W hW => move_any q m a n hm W hW
  have r3 := fun W hW => raddress_any q m a ((a + n) % 18446744073709551616) hm W hW
  have p5 := fun W hW => and_any q m a n hm hn W hW
  have r5 := fun W hW => rand_any q m a n hm hn W hW
  have cO := fun W hW => one_any W hW
  have hX : IntKind.u64.wrap ((a : Int) + (n : Int)) = (((a + n) % 18446744073709551616 : Nat) : Int) := wrap_int (by omega)
  by_cases h : a < 281474976710656 ∧ a + n ≤ 281474976710656
  · obtain ⟨e, D, U, M, hb⟩ := bnd_ex m a n h
    have p4 := fun W hW => bound_yes q x m a n e D U M hm hb W hW
    have r4 := fun W hW => rbound_yes q x m a n e D U M hm hb W hW
    exact walk_let _ _ _ _ _ _ _ _ _ _ _ _ p1 r1 p2 r2 p3 r3 p4 r4 p5 r5 cO hX w hT
  · have p4 := fun W hW => bound_no q x m a n hm ha hn h W hW
    have r4 := fun W hW => rbound_no q x m a n h W hW
    exact walk_let _ _ _ _ _ _ _ _ _ _ _ _ p1 r1 p2 r2 p3 r3 p4 r4 p5 r5 cO hX w hT
open Go.ChangeShapes Go.WideShapes Go.ChangeAt
set_option maxRecDepth 100000 in
theorem walks : Frame.WalksLaid [("mintmark/bounds.places", Rows.laid_mintmark_bounds_places)] 3 Tryd.f3 := by
  intro H enc W base args ds ps hL hval hA
  rw [Tryd.params3] at hA hval
  obtain ⟨v0, v1, v2, d0, d1, d2, p0, p1, p2, hargs, rfl, rfl, h0, h1, h2⟩ := trodAll_three hA
  obtain rfl : args = #[v0, v1, v2] := by cases args; simp_all
  obtain ⟨cs0, rfl, hf0⟩ := Frame.open_struct (F := 4) (ks := [.inr false, .inl .u64, .inl .u64]) Tryd.underlying24 (by kernel_rfl) (hval 0 24 v0 rfl rfl) h0
  match cs0, hf0 with
  | [_, _, _], ⟨⟨z0_0, rfl⟩, ⟨z0_1, rfl, wz0_1⟩, ⟨z0_2, rfl, wz0_2⟩, _⟩ =>
  obtain ⟨Z0_1, rfl⟩ := Frame.wf_u64 wz0_1
  obtain ⟨Z0_2, rfl⟩ := Frame.wf_u64 wz0_2
  obtain ⟨x1, rfl, rfl, rfl, w1⟩ := open_int Tryd.underlying22 (hval 1 22 v1 rfl rfl) h1
  obtain ⟨x2, rfl, rfl, rfl⟩ := open_bool Tryd.underlying4 (hval 2 4 v2 rfl rfl) h2
  obtain ⟨X1, rfl⟩ := Frame.wf_u64 w1
  exact walk z0_0 Z0_1 Z0_2 X1 x2 W (tab_of_laid hL)
set_option maxRecDepth 100000 in
theorem said : Rows.AlgebraMovesSaid :=
  OpenClaim.holds_of_wide 3 Tryd.f3 rfl rfl rfl rfl rfl rfl rfl ⟨rfl, rfl, rfl, rfl, rfl⟩ rfl rfl rfl rfl rfl (by kernel_rfl) Tryd.func3 (by kernel_rfl)
    (of_decide_eq_true (by kernel_rfl)) (by unfold Func.isWrapper; first | (rw [if_pos (by decide +kernel)]; kernel_rfl) | (rw [if_neg (by decide +kernel)]; exact ⟨rfl, rfl⟩))
    (fun os started H enc _ => Frame.liftLaid [("mintmark/bounds.places", Rows.laid_mintmark_bounds_places)] os started H enc _ _ Rows.algebraMovesSpec 4 (by kernel_rfl) Tryd.func3 Tryd.underlying4 (by kernel_rfl) rfl (by kernel_rfl)
      (fun ds h => by match ds, h with | [_, _, _], _ => exact ⟨rfl, rfl, rfl⟩)
      (ChangeSpec.witness_shaped (enc := enc) (C := Tryd.checked) (os := os) (X := fun w _ => laidMetH Tryd.prog [("mintmark/bounds.places", Rows.laid_mintmark_bounds_places)] w) false (World.doorLaid Tryd.prog 400 os) #[.agg #[.bool false, .int .u64 0, .int .u64 0], .int .u64 0, .bool false] 8 rfl (World.shaped_of_RefB (by kernel_rfl) (by kernel_rfl)) (by kernel_rfl) (by kernel_rfl) (by kernel_rfl) (door_met os _)) walks)
set_option maxRecDepth 100000 in
theorem proved : Rows.AlgebraMovesCardSaid :=
  Claim7.holds_tied_plain_at .later [] [.data] true _ false said (fun _ h => by cases h) (by kernel_rfl) (fun _ h => by cases h) algebraMoves_row_tie rfl ⟨rfl, rfl⟩ (by kernel_rfl) rfl
    (fun f fn hf hfn => by
      obtain rfl : f = 3 := Option.some.inj ((show Tryd.prog.funcNamed "mintmark/mintmarklaw06.AlgebraMoves" = some 3 by kernel_rfl).symm.trans hf) |>.symm
      obtain rfl : fn = Tryd.f3 := (Option.some.inj (Tryd.func3.symm.trans hfn)).symm
      exact ⟨by kernel_rfl, fun j t ht => by
        rw [Tryd.params3] at ht
        have hm : t ∈ [24, 22, 4] := by have := Array.mem_of_getElem? ht; simp at this; simp; first | omega | grind
        have hall : ([24, 22, 4].all fun u => !Tryd.prog.wantsStandIn u) = true := by kernel_rfl
        exact (show Tryd.prog.wantsStandIn t = false by simpa using List.all_eq_true.1 hall t hm)⟩)
    (by kernel_rfl)
end Go.Proofs.YtbncoiejbclpjaaDoor.AlgebraMoves
