/-
  WalkChecks holds: for every entry, kind and how the law returns true and turns nothing that was there, where the table of places holds what the program's text lays.
-/
import Derived.Test.YtnookalplejneaaDoorWalkOne
import Derived.Test.YtnookalplejneaaDoorWalkMarked
import Derived.Test.YtnookalplejneaaDoorWalkRCheck
import Derived.Test.YtnookalplejneaaDoorPteLaid
import Derived.Test.YtnookalplejneaaDoorPteEq
namespace Go.Proofs.YtnookalplejneaaDoor.WalkChecks
open Go.RowKit Words FieldMath PteMath

set_option maxRecDepth 100000 in
set_option maxHeartbeats 8000000 in
theorem main (b0 b1 b2 b3 b4 b5 b6 b7 b8 b9 b10 b11 h0 h1 d0 d1 d2 d3 d4 d5 d6 d7 d8 d9 d10 d11 z : Bool) (N k K : Int) (c1 : ∀ W, Tab W → Calls Tryd.prog 12 #[.agg #[.bool b0, .bool b1, .bool b2, .bool b3, .bool b4, .bool b5, .bool b6, .bool b7, .bool b8, .bool b9, .bool b10, .bool b11, .int .u64 N], .int .i64 k, .bool h0, .bool h1] W (Makes (.int .i64 K) W)) (c2 : ∀ W, Tab W → Calls Tryd.prog 13 #[.agg #[.bool b0, .bool b1, .bool b2, .bool b3, .bool b4, .bool b5, .bool b6, .bool b7, .bool b8, .bool b9, .bool b10, .bool b11, .int .u64 N], .int .i64 k, .bool h0, .bool h1] W (Makes (.int .i64 K) W)) (c3 : ∀ W, Tab W → Calls Tryd.prog 14 #[.agg #[.bool b0, .bool b1, .bool b2, .bool b3, .bool b4, .bool b5, .bool b6, .bool b7, .bool b8, .bool b9, .bool b10, .bool b11, .int .u64 N], .int .i64 k, .bool h0] W (Makes (.agg #[.bool d0, .bool d1, .bool d2, .bool d3, .bool d4, .bool d5, .bool d6, .bool d7, .bool d8, .bool d9, .bool d10, .bool d11, .int .u64 N]) W)) (c4 : ∀ W, Tab W → Calls Tryd.prog 15 #[.agg #[.bool b0, .bool b1, .bool b2, .bool b3, .bool b4, .bool b5, .bool b6, .bool b7, .bool b8, .bool b9, .bool b10, .bool b11, .int .u64 N], .int .i64 k, .bool h0] W (Makes (.agg #[.bool d0, .bool d1, .bool d2, .bool d3, .bool d4, .bool d5, .bool d6, .bool d7, .bool d8, .bool d9, .bool d10, .bool d11, .int .u64 N]) W)) (c5 : ∀ W, Tab W → Calls Tryd.prog 16 #[.agg #[.bool b0, .bool b1, .bool b2, .bool b3, .bool b4, .bool b5, .bool b6, .bool b7, .bool b8, .bool b9, .bool b10, .bool b11, .int .u64 N], .int .i64 k] W (Makes (.bool (z && !b9)) W)) (c6 : ∀ W, Tab W → Calls Tryd.prog 11 #[] W (Makes (.bool true) W)) (hz : (k == 3) = z) (w : World) (hT : Tab w) : Calls Tryd.prog 4 #[.agg #[.bool b0, .bool b1, .bool b2, .bool b3, .bool b4, .bool b5, .bool b6, .bool b7, .bool b8, .bool b9, .bool b10, .bool b11, .int .u64 N], .int .i64 k, .agg #[.bool h0, .bool h1]] w (Makes (.bool true) w) := by
  have Cc1 := hide c1
  have Cc2 := hide c2
  have Cc3 := hide c3
  have Cc4 := hide c4
  have Cc5 := hide c5
  have Cc6 := hide c6
  clear c1 c2 c3 c4 c5 c6
  have SS := cell_same
  have LB' := ltB_add
  have LS := ltB_self
  have LA' := alloc_reads
  have LH := alloc_holds
  have EI : ∀ W, (Op.equalIn 10000 37 (.agg #[.bool d0, .bool d1, .bool d2, .bool d3, .bool d4, .bool d5, .bool d6, .bool d7, .bool d8, .bool d9, .bool d10, .bool d11, .int .u64 N]) (.agg #[.bool d0, .bool d1, .bool d2, .bool d3, .bool d4, .bool d5, .bool d6, .bool d7, .bool d8, .bool d9, .bool d10, .bool d11, .int .u64 N])).run Tryd.prog W = .ok true W := fun W => by rw [eqi_r, decide_eq_true rfl]
  have EQ : ∀ W, (binOp .eql 37 (.agg #[.bool d0, .bool d1, .bool d2, .bool d3, .bool d4, .bool d5, .bool d6, .bool d7, .bool d8, .bool d9, .bool d10, .bool d11, .int .u64 N]) (.agg #[.bool d0, .bool d1, .bool d2, .bool d3, .bool d4, .bool d5, .bool d6, .bool d7, .bool d8, .bool d9, .bool d10, .bool d11, .int .u64 N])).run Tryd.prog W = .ok (.bool true) W := fun W => by rw [eq_r, decide_eq_true rfl]
  cases z
  all_goals
    go_enter Tryd.func4, Tryd.ntmps4
    go_upto_region 2 with fail
    refine wp_abs (fun W => Tab W ∧ Below w.heap.size w W ∧ W.cell? ⟨w.heap.size, 0, none⟩ = some (.bool b0) ∧ W.cell? ⟨w.heap.size, 1, none⟩ = some (.bool b1) ∧ W.cell? ⟨w.heap.size, 2, none⟩ = some (.bool b2) ∧ W.cell? ⟨w.heap.size, 3, none⟩ = some (.bool b3) ∧ W.cell? ⟨w.heap.size, 4, none⟩ = some (.bool b4) ∧ W.cell? ⟨w.heap.size, 5, none⟩ = some (.bool b5) ∧ W.cell? ⟨w.heap.size, 6, none⟩ = some (.bool b6) ∧ W.cell? ⟨w.heap.size, 7, none⟩ = some (.bool b7) ∧ W.cell? ⟨w.heap.size, 8, none⟩ = some (.bool b8) ∧ W.cell? ⟨w.heap.size, 9, none⟩ = some (.bool b9) ∧ W.cell? ⟨w.heap.size, 10, none⟩ = some (.bool b10) ∧ W.cell? ⟨w.heap.size, 11, none⟩ = some (.bool b11) ∧ W.cell? ⟨w.heap.size, 12, none⟩ = some (.int .u64 N) ∧ W.cell? ⟨w.heap.size + 1, 0, none⟩ = some (.bool h0) ∧ W.cell? ⟨w.heap.size + 1, 1, none⟩ = some (.bool h1) ∧ W.cell? ⟨w.heap.size + 1 + 1, 0, none⟩ = some (.bool b0) ∧ W.cell? ⟨w.heap.size + 1 + 1, 1, none⟩ = some (.bool b1) ∧ W.cell? ⟨w.heap.size + 1 + 1, 2, none⟩ = some (.bool b2) ∧ W.cell? ⟨w.heap.size + 1 + 1, 3, none⟩ = some (.bool b3) ∧ W.cell? ⟨w.heap.size + 1 + 1, 4, none⟩ = some (.bool b4) ∧ W.cell? ⟨w.heap.size + 1 + 1, 5, none⟩ = some (.bool b5) ∧ W.cell? ⟨w.heap.size + 1 + 1, 6, none⟩ = some (.bool b6) ∧ W.cell? ⟨w.heap.size + 1 + 1, 7, none⟩ = some (.bool b7) ∧ W.cell? ⟨w.heap.size + 1 + 1, 8, none⟩ = some (.bool b8) ∧ W.cell? ⟨w.heap.size + 1 + 1, 9, none⟩ = some (.bool b9) ∧ W.cell? ⟨w.heap.size + 1 + 1, 10, none⟩ = some (.bool b10) ∧ W.cell? ⟨w.heap.size + 1 + 1, 11, none⟩ = some (.bool b11) ∧ W.cell? ⟨w.heap.size + 1 + 1, 12, none⟩ = some (.int .u64 N)) ?_ ?_
    · refine ⟨?_, ?_, ?_, ?_, ?_, ?_, ?_, ?_, ?_, ?_, ?_, ?_, ?_, ?_, ?_, ?_, ?_, ?_, ?_, ?_, ?_, ?_, ?_, ?_, ?_, ?_, ?_, ?_, ?_, ?_⟩
      all_goals (first | with_reducible assumption | ((repeat (first | with_reducible assumption | with_reducible refine c_dr _ ?_ | with_reducible refine c_d1 ?_ | with_reducible refine c_al _ ?_ | (with_reducible refine c_set ?_ ?_; focus (dsimp only; omega)) | (with_reducible apply c_be; with_reducible assumption))); done) | ((repeat (first | with_reducible assumption | with_reducible refine o_dr _ ?_ | with_reducible refine o_d1 ?_ | with_reducible refine o_set ?_ | (with_reducible refine o_new ?_ ?_; (focus (simp)); (focus (simp))) | with_reducible refine o_al _ ?_ | (with_reducible apply o_be; with_reducible assumption))); done) | ((repeat (first | with_reducible assumption | with_reducible exact Below.refl _ _ | with_reducible refine Below.drew ?_ | with_reducible refine below_drewN ?_ _ | with_reducible refine bw_alloc ?_ _ | (with_reducible refine bw_set ?_ ?_ _; focus (dsimp only; omega)) | (with_reducible apply bw_behind; with_reducible assumption))); done) | (refine hT.behind ?_; (repeat (first | with_reducible assumption | with_reducible exact Below.refl _ _ | with_reducible refine Below.drew ?_ | with_reducible refine below_drewN ?_ _ | with_reducible refine bw_alloc ?_ _ | (with_reducible refine bw_set ?_ ?_ _; focus (dsimp only; omega)) | (with_reducible apply bw_behind; with_reducible assumption))); done) | (simp [go_sem, *]; omega) | (simp (maxDischargeDepth := 4) [go_sem, *]; done))
    rintro w0 ⟨hT0, hB0, c0, c1, c2, c3, c4, c5, c6, c7, c8, c9, c10, c11, c12, c13, c14, c15, c16, c17, c18, c19, c20, c21, c22, c23, c24, c25, c26, c27⟩
    have y0 := behind_cell0 c0
    have y1 := behind_cell0 c1
    have y2 := behind_cell0 c2
    have y3 := behind_cell0 c3
    have y4 := behind_cell0 c4
    have y5 := behind_cell0 c5
    have y6 := behind_cell0 c6
    have y7 := behind_cell0 c7
    have y8 := behind_cell0 c8
    have y9 := behind_cell0 c9
    have y10 := behind_cell0 c10
    have y11 := behind_cell0 c11
    have y12 := behind_cell0 c12
    have y13 := behind_cell0 c13
    have y14 := behind_cell0 c14
    have y15 := behind_cell0 c15
    have y16 := behind_cell0 c16
    have y17 := behind_cell0 c17
    have y18 := behind_cell0 c18
    have y19 := behind_cell0 c19
    have y20 := behind_cell0 c20
    have y21 := behind_cell0 c21
    have y22 := behind_cell0 c22
    have y23 := behind_cell0 c23
    have y24 := behind_cell0 c24
    have y25 := behind_cell0 c25
    have y26 := behind_cell0 c26
    have y27 := behind_cell0 c27
    have hsome := Behind.any w0
    clear c0 c1 c2 c3 c4 c5 c6 c7 c8 c9 c10 c11 c12 c13 c14 c15 c16 c17 c18 c19 c20 c21 c22 c23 c24 c25 c26 c27
    refine wp_region_behind w0 (by kernel_rfl) (by kernel_rfl) (Below.refl _ _) ?_
    repeat (go_big_quiet_step (first | (go_at_call 12; with_reducible first | exact behind_call Cc1.out hT0 _) | (go_at_call 13; with_reducible first | exact behind_call Cc2.out hT0 _) | (go_at_call 14; with_reducible first | exact behind_call Cc3.out hT0 _) | (go_at_call 15; with_reducible first | exact behind_call Cc4.out hT0 _) | (go_at_call 16; with_reducible first | exact behind_call Cc5.out hT0 _) | (go_at_call 11; with_reducible first | exact behind_call Cc6.out hT0 _)))
    refine wpQuiet_nil ?_
    rintro _ ⟨y, rfl⟩
    have hTy := hT0.behind y.below
    have hBy := bw_behind y.below hB0
    have x0 := y0 y
    have x1 := y1 y
    have x2 := y2 y
    have x3 := y3 y
    have x4 := y4 y
    have x5 := y5 y
    have x6 := y6 y
    have x7 := y7 y
    have x8 := y8 y
    have x9 := y9 y
    have x10 := y10 y
    have x11 := y11 y
    have x12 := y12 y
    have x13 := y13 y
    have x14 := y14 y
    have x15 := y15 y
    have x16 := y16 y
    have x17 := y17 y
    have x18 := y18 y
    have x19 := y19 y
    have x20 := y20 y
    have x21 := y21 y
    have x22 := y22 y
    have x23 := y23 y
    have x24 := y24 y
    have x25 := y25 y
    have x26 := y26 y
    have x27 := y27 y
    clear hsome y0 y1 y2 y3 y4 y5 y6 y7 y8 y9 y10 y11 y12 y13 y14 y15 y16 y17 y18 y19 y20 y21 y22 y23 y24 y25 y26 y27
    obtain ⟨w1, hw1⟩ : ∃ W, W = y.world := ⟨_, rfl⟩
    rw [← hw1] at hTy hBy x0 x1 x2 x3 x4 x5 x6 x7 x8 x9 x10 x11 x12 x13 x14 x15 x16 x17 x18 x19 x20 x21 x22 x23 x24 x25 x26 x27 ⊢
    clear hw1 y hT0 hB0
    go_wp2_with fail
    go_ret
    refine ⟨rfl, ?_⟩
    repeat (first | with_reducible assumption | with_reducible exact Below.refl _ _ | with_reducible refine Below.drew ?_ | with_reducible refine below_drewN ?_ _ | with_reducible refine bw_alloc ?_ _ | (with_reducible refine bw_set ?_ ?_ _; focus (dsimp only; omega)) | (with_reducible apply bw_behind; with_reducible assumption))

theorem walk (b0 b1 b2 b3 b4 b5 b6 b7 b8 b9 b10 b11 : Bool) (F : BitVec 64) (k : Int) (h0 h1 : Bool) (w : World) (hT : Tab w) : Calls Tryd.prog 4 #[.agg #[.bool b0, .bool b1, .bool b2, .bool b3, .bool b4, .bool b5, .bool b6, .bool b7, .bool b8, .bool b9, .bool b10, .bool b11, .int .u64 (F.toNat : Int)], .int .i64 k, .agg #[.bool h0, .bool h1]] w (Makes (.bool true) w) :=
  main b0 b1 b2 b3 b4 b5 b6 b7 b8 b9 b10 b11 h0 h1 b0 b1 b2 b3 b4 b5 true (markD b7 k) b8 b9 (markC b10 k h0) b11 _ _ k _ (fun W _ => check_any b0 b1 b2 b3 b4 b5 b6 b7 b8 b9 b10 b11 h0 h1 F k W) (fun W _ => rcheck_any b0 b1 b2 b3 b4 b5 b6 b7 b8 b9 b10 b11 h0 h1 F k W) (fun W _ => marked_any b0 b1 b2 b3 b4 b5 b6 b7 b8 b9 b10 b11 h0 _ k W) (fun W _ => rmarked_any b0 b1 b2 b3 b4 b5 b6 b7 b8 b9 b10 b11 h0 _ k W) (fun W _ => strip_any b0 b1 b2 b3 b4 b5 b6 b7 b8 b9 b10 b11 _ k W) (fun W h => one_any W h) rfl w hT

open Go.ChangeShapes Go.WideShapes Go.ChangeAt
set_option maxRecDepth 100000 in
theorem walks : Frame.WalksLaid [("mintmark/pte.places", Rows.laid_mintmark_pte_places)] 4 Tryd.f4 := by
  intro H enc W base args ds ps hL hval hA
  rw [Tryd.params4] at hA hval
  obtain ⟨v0, v1, v2, d0, d1, d2, p0, p1, p2, hargs, rfl, rfl, h0, h1, h2⟩ := trodAll_three hA
  obtain rfl : args = #[v0, v1, v2] := by cases args; simp_all
  obtain ⟨cs0, rfl, hf0⟩ := Frame.open_struct (F := 4) (ks := [.inr false, .inr false, .inr false, .inr false, .inr false, .inr false, .inr false, .inr false, .inr false, .inr false, .inr false, .inr false, .inl .u64]) Tryd.underlying32 (by kernel_rfl) (hval 0 32 v0 rfl rfl) h0
  obtain ⟨z0_0, z0_1, z0_2, z0_3, z0_4, z0_5, z0_6, z0_7, z0_8, z0_9, z0_10, z0_11, Z0_12, rfl⟩ := open_ent hf0
  obtain ⟨x1, rfl, rfl, rfl, w1⟩ := open_int Tryd.underlying3 (hval 1 3 v1 rfl rfl) h1
  obtain ⟨cs2, rfl, hf2⟩ := open_flat (F := 4) (ks := [.inr false, .inr false]) Tryd.underlying42 (by kernel_rfl) (hval 2 42 v2 rfl rfl) h2
  match cs2, hf2 with
  | [_, _], ⟨⟨z2_0, rfl⟩, ⟨z2_1, rfl⟩, _⟩ =>
  exact walk z0_0 z0_1 z0_2 z0_3 z0_4 z0_5 z0_6 z0_7 z0_8 z0_9 z0_10 z0_11 Z0_12 x1 z2_0 z2_1 W (tab_of_laid hL)
set_option maxRecDepth 100000 in
theorem said : Rows.WalkChecksSaid :=
  OpenClaim.holds_of_wide 4 Tryd.f4 rfl rfl rfl rfl rfl rfl rfl ⟨rfl, rfl, rfl, rfl, rfl⟩ rfl rfl rfl rfl rfl (by kernel_rfl) Tryd.func4 (by kernel_rfl)
    (of_decide_eq_true (by kernel_rfl)) (by unfold Func.isWrapper; first | (rw [if_pos (by decide +kernel)]; kernel_rfl) | (rw [if_neg (by decide +kernel)]; exact ⟨rfl, rfl⟩))
    (fun os started H enc _ => Frame.liftLaid [("mintmark/pte.places", Rows.laid_mintmark_pte_places)] os started H enc _ _ Rows.walkChecksSpec 4 (by kernel_rfl) Tryd.func4 Tryd.underlying4 (by kernel_rfl) rfl (by kernel_rfl)
      (fun ds h => by match ds, h with | [_, _, _], _ => exact ⟨rfl, rfl, rfl⟩)
      (ChangeSpec.witness_shaped (enc := enc) (C := Tryd.checked) (os := os) (X := fun w _ => laidMetH Tryd.prog [("mintmark/pte.places", Rows.laid_mintmark_pte_places)] w) false (World.doorLaid Tryd.prog 400 os) #[.agg #[.bool false, .bool false, .bool false, .bool false, .bool false, .bool false, .bool false, .bool false, .bool false, .bool false, .bool false, .bool false, .int .u64 0], .int .i64 0, .agg #[.bool false, .bool false]] 8 rfl (World.shaped_of_RefB (by kernel_rfl) (by kernel_rfl)) (by kernel_rfl) (by kernel_rfl) (by kernel_rfl) (door_met os _)) walks)
set_option maxRecDepth 100000 in
theorem proved : Rows.WalkChecksCardSaid :=
  Claim7.holds_tied_plain_at .later [] [.data] true _ false said (fun _ h => by cases h) (by kernel_rfl) (fun _ h => by cases h) walkChecks_row_tie rfl ⟨rfl, rfl⟩ (by kernel_rfl) rfl
    (fun f fn hf hfn => by
      obtain rfl : f = 4 := Option.some.inj ((show Tryd.prog.funcNamed "mintmark/mintmarklaw10.WalkChecks" = some 4 by kernel_rfl).symm.trans hf) |>.symm
      obtain rfl : fn = Tryd.f4 := (Option.some.inj (Tryd.func4.symm.trans hfn)).symm
      exact ⟨by kernel_rfl, fun j t ht => by
        rw [Tryd.params4] at ht
        have hm : t ∈ [32, 3, 42] := by have := Array.mem_of_getElem? ht; simp at this; simp; first | omega | grind
        have hall : ([32, 3, 42].all fun u => !Tryd.prog.wantsStandIn u) = true := by kernel_rfl
        exact (show Tryd.prog.wantsStandIn t = false by simpa using List.all_eq_true.1 hall t hm)⟩)
    (by kernel_rfl)
end Go.Proofs.YtnookalplejneaaDoor.WalkChecks
