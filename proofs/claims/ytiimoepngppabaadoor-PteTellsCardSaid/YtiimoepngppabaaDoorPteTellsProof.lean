/-
  PteTells holds: for every entry and word the law returns true and turns nothing that was there, where the table of places holds what the program's text lays.
-/
import Derived.Test.YtiimoepngppabaaDoorPteRight
import Derived.Test.YtiimoepngppabaaDoorPteRef2
import Derived.Test.YtiimoepngppabaaDoorPteLaid
namespace Go.Proofs.YtiimoepngppabaaDoor.PteTells
open Go.RowKit Words FieldMath PteMath

set_option maxRecDepth 100000 in
set_option maxHeartbeats 8000000 in
theorem main (b0 b1 b2 b3 b4 b5 b6 b7 b8 b9 b10 b11 d0 d1 d2 d3 d4 d5 d6 d7 d8 d9 d10 d11 L R : Bool) (N X A G : Int) (c1 : ∀ W, Tab W → Calls Tryd.prog 6 #[.agg #[.bool b0, .bool b1, .bool b2, .bool b3, .bool b4, .bool b5, .bool b6, .bool b7, .bool b8, .bool b9, .bool b10, .bool b11, .int .u64 N]] W (Makes (.int .u64 A) W)) (c2 : ∀ W, Tab W → Calls Tryd.prog 7 #[.agg #[.bool b0, .bool b1, .bool b2, .bool b3, .bool b4, .bool b5, .bool b6, .bool b7, .bool b8, .bool b9, .bool b10, .bool b11, .int .u64 N]] W (Makes (.int .u64 A) W)) (c3 : ∀ W, Tab W → Calls Tryd.prog 8 #[.int .u64 X] W (Makes (.agg #[.bool d0, .bool d1, .bool d2, .bool d3, .bool d4, .bool d5, .bool d6, .bool d7, .bool d8, .bool d9, .bool d10, .bool d11, .int .u64 G]) W)) (c4 : ∀ W, Tab W → Calls Tryd.prog 9 #[.int .u64 X] W (Makes (.agg #[.bool d0, .bool d1, .bool d2, .bool d3, .bool d4, .bool d5, .bool d6, .bool d7, .bool d8, .bool d9, .bool d10, .bool d11, .int .u64 G]) W)) (c5 : ∀ W, Tab W → Calls Tryd.prog 10 #[.agg #[.bool b0, .bool b1, .bool b2, .bool b3, .bool b4, .bool b5, .bool b6, .bool b7, .bool b8, .bool b9, .bool b10, .bool b11, .int .u64 N]] W (Makes (.bool L) W)) (c6 : ∀ W, Tab W → Calls Tryd.prog 11 #[.agg #[.bool b0, .bool b1, .bool b2, .bool b3, .bool b4, .bool b5, .bool b6, .bool b7, .bool b8, .bool b9, .bool b10, .bool b11, .int .u64 N]] W (Makes (.bool L) W)) (c7 : ∀ W, Tab W → Calls Tryd.prog 12 #[.agg #[.bool b0, .bool b1, .bool b2, .bool b3, .bool b4, .bool b5, .bool b6, .bool b7, .bool b8, .bool b9, .bool b10, .bool b11, .int .u64 N]] W (Makes (.bool R) W)) (c8 : ∀ W, Tab W → Calls Tryd.prog 13 #[.agg #[.bool b0, .bool b1, .bool b2, .bool b3, .bool b4, .bool b5, .bool b6, .bool b7, .bool b8, .bool b9, .bool b10, .bool b11, .int .u64 N]] W (Makes (.bool R) W)) (c9 : ∀ W, Tab W → Calls Tryd.prog 6 #[.agg #[.bool true, .bool true, .bool false, .bool false, .bool false, .bool false, .bool false, .bool false, .bool false, .bool false, .bool false, .bool false, .int .u64 5]] W (Makes (.int .u64 5123) W)) (w : World) (hT : Tab w) : Calls Tryd.prog 3 #[.agg #[.bool b0, .bool b1, .bool b2, .bool b3, .bool b4, .bool b5, .bool b6, .bool b7, .bool b8, .bool b9, .bool b10, .bool b11, .int .u64 N], .int .u64 X] w (Makes (.bool true) w) := by
  have Cc1 := hide c1
  have Cc2 := hide c2
  have Cc3 := hide c3
  have Cc4 := hide c4
  have Cc5 := hide c5
  have Cc6 := hide c6
  have Cc7 := hide c7
  have Cc8 := hide c8
  have Cc9 := hide c9
  clear c1 c2 c3 c4 c5 c6 c7 c8 c9
  have SS := cell_same
  have LB' := ltB_add
  have LS := ltB_self
  have LA' := alloc_reads
  have LH := alloc_holds
  have EI : ∀ W, (Op.equalIn 10000 27 (.agg #[.bool d0, .bool d1, .bool d2, .bool d3, .bool d4, .bool d5, .bool d6, .bool d7, .bool d8, .bool d9, .bool d10, .bool d11, .int .u64 G]) (.agg #[.bool d0, .bool d1, .bool d2, .bool d3, .bool d4, .bool d5, .bool d6, .bool d7, .bool d8, .bool d9, .bool d10, .bool d11, .int .u64 G])).run Tryd.prog W = .ok true W := fun W => by rw [eqi_r, decide_eq_true rfl]
  have EQ : ∀ W, (binOp .eql 27 (.agg #[.bool d0, .bool d1, .bool d2, .bool d3, .bool d4, .bool d5, .bool d6, .bool d7, .bool d8, .bool d9, .bool d10, .bool d11, .int .u64 G]) (.agg #[.bool d0, .bool d1, .bool d2, .bool d3, .bool d4, .bool d5, .bool d6, .bool d7, .bool d8, .bool d9, .bool d10, .bool d11, .int .u64 G])).run Tryd.prog W = .ok (.bool true) W := fun W => by rw [eq_r, decide_eq_true rfl]
  go_enter Tryd.func3, Tryd.ntmps3
  go_upto_region 1 with fail
  refine wp_abs (fun W => Tab W ∧ Below w.heap.size w W ∧ W.cell? ⟨w.heap.size, 0, none⟩ = some (.bool b0) ∧ W.cell? ⟨w.heap.size, 1, none⟩ = some (.bool b1) ∧ W.cell? ⟨w.heap.size, 2, none⟩ = some (.bool b2) ∧ W.cell? ⟨w.heap.size, 3, none⟩ = some (.bool b3) ∧ W.cell? ⟨w.heap.size, 4, none⟩ = some (.bool b4) ∧ W.cell? ⟨w.heap.size, 5, none⟩ = some (.bool b5) ∧ W.cell? ⟨w.heap.size, 6, none⟩ = some (.bool b6) ∧ W.cell? ⟨w.heap.size, 7, none⟩ = some (.bool b7) ∧ W.cell? ⟨w.heap.size, 8, none⟩ = some (.bool b8) ∧ W.cell? ⟨w.heap.size, 9, none⟩ = some (.bool b9) ∧ W.cell? ⟨w.heap.size, 10, none⟩ = some (.bool b10) ∧ W.cell? ⟨w.heap.size, 11, none⟩ = some (.bool b11) ∧ W.cell? ⟨w.heap.size, 12, none⟩ = some (.int .u64 N)) ?_ ?_
  · refine ⟨?_, ?_, ?_, ?_, ?_, ?_, ?_, ?_, ?_, ?_, ?_, ?_, ?_, ?_, ?_⟩
    all_goals (first | with_reducible assumption | ((repeat (first | with_reducible assumption | with_reducible refine c_dr _ ?_ | with_reducible refine c_d1 ?_ | with_reducible refine c_al _ ?_ | (with_reducible refine c_set ?_ ?_; focus (dsimp only; omega)) | (with_reducible apply c_be; with_reducible assumption))); done) | ((repeat (first | with_reducible assumption | with_reducible refine o_dr _ ?_ | with_reducible refine o_d1 ?_ | with_reducible refine o_set ?_ | (with_reducible refine o_new ?_ ?_; (focus (simp)); (focus (simp))) | with_reducible refine o_al _ ?_ | (with_reducible apply o_be; with_reducible assumption))); done) | ((repeat (first | with_reducible assumption | with_reducible exact Below.refl _ _ | with_reducible refine Below.drew ?_ | with_reducible refine below_drewN ?_ _ | with_reducible refine bw_alloc ?_ _ | (with_reducible refine bw_set ?_ ?_ _; focus (dsimp only; omega)) | (with_reducible apply bw_behind; with_reducible assumption))); done) | (refine hT.behind ?_; (repeat (first | with_reducible assumption | with_reducible exact Below.refl _ _ | with_reducible refine Below.drew ?_ | with_reducible refine below_drewN ?_ _ | with_reducible refine bw_alloc ?_ _ | (with_reducible refine bw_set ?_ ?_ _; focus (dsimp only; omega)) | (with_reducible apply bw_behind; with_reducible assumption))); done) | (simp [go_sem, *]; omega) | (simp (maxDischargeDepth := 4) [go_sem, *]; done))
  rintro w0 ⟨hT0, hB0, c0, c1, c2, c3, c4, c5, c6, c7, c8, c9, c10, c11, c12⟩
  have y0 := behind_cell0 c0
  have y1 := behind_cell0 c1
  have y2 := behind_cell0 c2
  have y3 := behind_cell0 c3
  have y4 := behind_cell0 c4
  have y5 := behind_cell0 c5
  have y6 := behind_cell0 c6
  have y7 := behind_cell0 c7
  have y8 := behind_cell0 c8
  have y9 := behind_cell0 c9
  have y10 := behind_cell0 c10
  have y11 := behind_cell0 c11
  have y12 := behind_cell0 c12
  have hsome := Behind.any w0
  clear c0 c1 c2 c3 c4 c5 c6 c7 c8 c9 c10 c11 c12
  refine wp_region_behind w0 (by kernel_rfl) (by kernel_rfl) (Below.refl _ _) ?_
  repeat (go_big_quiet_step (first | (go_at_call 6; with_reducible first | exact behind_call Cc1.out hT0 _ | exact behind_call Cc9.out hT0 _) | (go_at_call 7; with_reducible first | exact behind_call Cc2.out hT0 _) | (go_at_call 8; with_reducible first | exact behind_call Cc3.out hT0 _) | (go_at_call 9; with_reducible first | exact behind_call Cc4.out hT0 _) | (go_at_call 10; with_reducible first | exact behind_call Cc5.out hT0 _) | (go_at_call 11; with_reducible first | exact behind_call Cc6.out hT0 _) | (go_at_call 12; with_reducible first | exact behind_call Cc7.out hT0 _) | (go_at_call 13; with_reducible first | exact behind_call Cc8.out hT0 _)))
  refine wpQuiet_nil ?_
  rintro _ ⟨y, rfl⟩
  have hTy := hT0.behind y.below
  have hBy := bw_behind y.below hB0
  have x0 := y0 y
  have x1 := y1 y
  have x2 := y2 y
  have x3 := y3 y
  have x4 := y4 y
  have x5 := y5 y
  have x6 := y6 y
  have x7 := y7 y
  have x8 := y8 y
  have x9 := y9 y
  have x10 := y10 y
  have x11 := y11 y
  have x12 := y12 y
  clear hsome y0 y1 y2 y3 y4 y5 y6 y7 y8 y9 y10 y11 y12
  obtain ⟨w1, hw1⟩ : ∃ W, W = y.world := ⟨_, rfl⟩
  rw [← hw1] at hTy hBy x0 x1 x2 x3 x4 x5 x6 x7 x8 x9 x10 x11 x12 ⊢
  clear hw1 y hT0 hB0
  go_wp2_with fail
  go_ret
  refine ⟨rfl, ?_⟩
  repeat (first | with_reducible assumption | with_reducible exact Below.refl _ _ | with_reducible refine Below.drew ?_ | with_reducible refine below_drewN ?_ _ | with_reducible refine bw_alloc ?_ _ | (with_reducible refine bw_set ?_ ?_ _; focus (dsimp only; omega)) | (with_reducible apply bw_behind; with_reducible assumption))

theorem five : ((wk (bs true true false false false false false false false false false false) 5 12).toNat : Int) = 5123 := by decide +kernel
theorem walk (b0 b1 b2 b3 b4 b5 b6 b7 b8 b9 b10 b11 : Bool) (F x : BitVec 64) (w : World) (hT : Tab w) : Calls Tryd.prog 3 #[.agg #[.bool b0, .bool b1, .bool b2, .bool b3, .bool b4, .bool b5, .bool b6, .bool b7, .bool b8, .bool b9, .bool b10, .bool b11, .int .u64 (F.toNat : Int)], .int .u64 (x.toNat : Int)] w (Makes (.bool true) w) := by
  refine main b0 b1 b2 b3 b4 b5 b6 b7 b8 b9 b10 b11 (x.getLsbD 0) (x.getLsbD 1) (x.getLsbD 2) (x.getLsbD 3) (x.getLsbD 4) (x.getLsbD 5) (x.getLsbD 6) (x.getLsbD 7) (x.getLsbD 58) (x.getLsbD 59) (x.getLsbD 60) (x.getLsbD 61) (b0 && (b1 || b2 || b3)) (rightQ b0 b1 b2 b3 b4 b5 b6 b7 b8 b9 b10 b11 (F.toNat : Int)) (F.toNat : Int) (x.toNat : Int) ((wordN b0 b1 b2 b3 b4 b5 b6 b7 b8 b9 b10 b11 F.toNat : Nat) : Int) ((getB x 10 44).toNat : Int) ?_ (fun W _ => rword_any b0 b1 b2 b3 b4 b5 b6 b7 b8 b9 b10 b11 F W) (fun W h => of_any x W h) (fun W _ => rof_any x W)
    (fun W _ => leaf_any b0 b1 b2 b3 b4 b5 b6 b7 b8 b9 b10 b11 F W) (fun W _ => rleaf_any b0 b1 b2 b3 b4 b5 b6 b7 b8 b9 b10 b11 F W) (fun W h => right_any b0 b1 b2 b3 b4 b5 b6 b7 b8 b9 b10 b11 F W h) (fun W _ => rright_any b0 b1 b2 b3 b4 b5 b6 b7 b8 b9 b10 b11 F W) ?_ w hT
  · intro W h
    have := word_any b0 b1 b2 b3 b4 b5 b6 b7 b8 b9 b10 b11 F W h
    rwa [word_is] at this
  · intro W h
    have := word_any true true false false false false false false false false false false 5 W h
    rwa [five] at this

open Go.ChangeShapes Go.WideShapes Go.ChangeAt
set_option maxRecDepth 100000 in
theorem walks : Frame.WalksLaid [("mintmark/pte.places", Rows.laid_mintmark_pte_places)] 3 Tryd.f3 := by
  intro H enc W base args ds ps hL hval hA
  rw [Tryd.params3] at hA hval
  obtain ⟨v0, v1, d0, d1, p0, p1, hargs, rfl, rfl, h0, h1⟩ := trodAll_two hA
  obtain rfl : args = #[v0, v1] := by cases args; simp_all
  obtain ⟨cs0, rfl, hf0⟩ := Frame.open_struct (F := 4) (ks := [.inr false, .inr false, .inr false, .inr false, .inr false, .inr false, .inr false, .inr false, .inr false, .inr false, .inr false, .inr false, .inl .u64]) Tryd.underlying24 (by kernel_rfl) (hval 0 24 v0 rfl rfl) h0
  obtain ⟨z0_0, z0_1, z0_2, z0_3, z0_4, z0_5, z0_6, z0_7, z0_8, z0_9, z0_10, z0_11, Z0_12, rfl⟩ := open_ent hf0
  obtain ⟨x1, rfl, rfl, rfl, w1⟩ := open_int Tryd.underlying22 (hval 1 22 v1 rfl rfl) h1
  obtain ⟨X1, rfl⟩ := Frame.wf_u64 w1
  exact walk z0_0 z0_1 z0_2 z0_3 z0_4 z0_5 z0_6 z0_7 z0_8 z0_9 z0_10 z0_11 Z0_12 X1 W (tab_of_laid hL)
set_option maxRecDepth 100000 in
theorem said : Rows.PteTellsSaid :=
  OpenClaim.holds_of_wide 3 Tryd.f3 rfl rfl rfl rfl rfl rfl rfl ⟨rfl, rfl, rfl, rfl, rfl⟩ rfl rfl rfl rfl rfl (by kernel_rfl) Tryd.func3 (by kernel_rfl)
    (of_decide_eq_true (by kernel_rfl)) (by unfold Func.isWrapper; first | (rw [if_pos (by decide +kernel)]; kernel_rfl) | (rw [if_neg (by decide +kernel)]; exact ⟨rfl, rfl⟩))
    (fun os started H enc _ => Frame.liftLaid [("mintmark/pte.places", Rows.laid_mintmark_pte_places)] os started H enc _ _ Rows.pteTellsSpec 4 (by kernel_rfl) Tryd.func3 Tryd.underlying4 (by kernel_rfl) rfl (by kernel_rfl)
      (fun ds h => by match ds, h with | [_, _], _ => exact ⟨rfl, rfl, rfl⟩)
      (ChangeSpec.witness_shaped (enc := enc) (C := Tryd.checked) (os := os) (X := fun w _ => laidMetH Tryd.prog [("mintmark/pte.places", Rows.laid_mintmark_pte_places)] w) false (World.doorLaid Tryd.prog 400 os) #[.agg #[.bool false, .bool false, .bool false, .bool false, .bool false, .bool false, .bool false, .bool false, .bool false, .bool false, .bool false, .bool false, .int .u64 0], .int .u64 0] 8 rfl (World.shaped_of_RefB (by kernel_rfl) (by kernel_rfl)) (by kernel_rfl) (by kernel_rfl) (by kernel_rfl) (door_met os _)) walks)
set_option maxRecDepth 100000 in
theorem proved : Rows.PteTellsCardSaid :=
  Claim7.holds_tied_plain_at .later [] [.data] true _ false said (fun _ h => by cases h) (by kernel_rfl) (fun _ h => by cases h) pteTells_row_tie rfl ⟨rfl, rfl⟩ (by kernel_rfl) rfl
    (fun f fn hf hfn => by
      obtain rfl : f = 3 := Option.some.inj ((show Tryd.prog.funcNamed "mintmark/mintmarklaw09.PteTells" = some 3 by kernel_rfl).symm.trans hf) |>.symm
      obtain rfl : fn = Tryd.f3 := (Option.some.inj (Tryd.func3.symm.trans hfn)).symm
      exact ⟨by kernel_rfl, fun j t ht => by
        rw [Tryd.params3] at ht
        have hm : t ∈ [24, 22] := by have := Array.mem_of_getElem? ht; simp at this; simp; first | omega | grind
        have hall : ([24, 22].all fun u => !Tryd.prog.wantsStandIn u) = true := by kernel_rfl
        exact (show Tryd.prog.wantsStandIn t = false by simpa using List.all_eq_true.1 hall t hm)⟩)
    (by kernel_rfl)
end Go.Proofs.YtiimoepngppabaaDoor.PteTells
