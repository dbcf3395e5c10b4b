/-
  InstFields holds: for every i and j the law returns true and turns nothing that was there, where the tables of words hold what the program's text lays.
-/
import Derived.Test.YtdgkadoebcdmeaaDoorInstLaw
namespace Go.Proofs.YtdgkadoebcdmeaaDoor.InstFields
open Go.RowKit Words FieldMath InstMath

set_option maxRecDepth 100000 in
set_option maxHeartbeats 4000000 in
theorem walk_a (OB OC : Bool) (K a b c m K2 a2 b2 c2 m2 X Y Z : Int)  (g1 : ∀ W, TabW W → Calls Tryd.prog 7 #[.agg #[.int .i64 K, .int .i64 a, .int .i64 b, .int .i64 c, .int .i64 m]] W (Makes (.tuple #[.int .u32 X, .bool false]) W)) (g2 : ∀ W, TabW W → Calls Tryd.prog 7 #[.agg #[.int .i64 K, .int .i64 a2, .int .i64 b, .int .i64 c, .int .i64 m]] W (Makes (.tuple #[.int .u32 Y, .bool OB]) W)) (g3 : ∀ W, TabW W → Calls Tryd.prog 7 #[.agg #[.int .i64 K, .int .i64 a, .int .i64 b2, .int .i64 c, .int .i64 m]] W (Makes (.tuple #[.int .u32 Z, .bool OC]) W)) (g9 : ∀ W, TabW W → Calls Tryd.prog 11 #[] W (Makes (.bool true) W)) (w : World) (hT : TabW w) :
    Calls Tryd.prog 6 #[.agg #[.int .i64 K, .int .i64 a, .int .i64 b, .int .i64 c, .int .i64 m], .agg #[.int .i64 K2, .int .i64 a2, .int .i64 b2, .int .i64 c2, .int .i64 m2]] w (Makes (.bool true) w) := by
  have Cg1 := hide g1
  have Cg2 := hide g2
  have Cg3 := hide g3
  have Cg9 := hide g9
  clear g1 g2 g3 g9
  have SS := cell_same
  have LB' := ltB_add
  have LS := ltB_self
  have LA' := alloc_reads
  have LH := alloc_holds
  go_enter Tryd.func6, Tryd.ntmps6
  go_upto_region 5 with (first | (go_at_call 7; (first | ((with_reducible refine (Cg1.out _ ?_).mono ?_); (refine hT.behind ?_; repeat (first | with_reducible assumption | with_reducible exact Below.refl _ _ | with_reducible refine Below.drew ?_ | with_reducible refine below_drewN ?_ _ | with_reducible refine bw_alloc ?_ _ | (with_reducible refine bw_set ?_ ?_ _; focus (dsimp only; omega)) | (with_reducible apply bw_behind; with_reducible assumption))))); rintro e wA ⟨rfl, hbA⟩; have hrA := below_reads hbA; have hhA := below_holds hbA; obtain ⟨mA, hsA⟩ := below_grew hbA) | (go_at_call 7; (first | ((with_reducible refine (Cg2.out _ ?_).mono ?_); (refine hT.behind ?_; repeat (first | with_reducible assumption | with_reducible exact Below.refl _ _ | with_reducible refine Below.drew ?_ | with_reducible refine below_drewN ?_ _ | with_reducible refine bw_alloc ?_ _ | (with_reducible refine bw_set ?_ ?_ _; focus (dsimp only; omega)) | (with_reducible apply bw_behind; with_reducible assumption))))); rintro e wB ⟨rfl, hbB⟩; have hrB := below_reads hbB; have hhB := below_holds hbB; obtain ⟨mB, hsB⟩ := below_grew hbB))
  refine wp_abs (fun W => TabW W ∧ Below w.heap.size w W ∧ W.cell? ⟨w.heap.size, 0, none⟩ = some (.int .i64 K) ∧ W.cell? ⟨w.heap.size, 1, none⟩ = some (.int .i64 a) ∧ W.cell? ⟨w.heap.size, 2, none⟩ = some (.int .i64 b) ∧ W.cell? ⟨w.heap.size, 3, none⟩ = some (.int .i64 c) ∧ W.cell? ⟨w.heap.size, 4, none⟩ = some (.int .i64 m) ∧ W.cell? ⟨w.heap.size + 1, 1, none⟩ = some (.int .i64 a2) ∧ W.cell? ⟨w.heap.size + 1, 2, none⟩ = some (.int .i64 b2) ∧ Own W (w.heap.size + 1 + 1 + mA) 5) ?_ ?_
  · refine ⟨?_, ?_, ?_, ?_, ?_, ?_, ?_, ?_, ?_, ?_⟩
    rotate_right 1
    · repeat (first | with_reducible assumption | with_reducible refine o_dr _ ?_ | with_reducible refine o_d1 ?_ | with_reducible refine o_set ?_ | (with_reducible refine o_new ?_ ?_; (focus (simp [*])); (focus (simp))) | with_reducible refine o_al _ ?_ | (with_reducible apply o_be; with_reducible assumption))
    all_goals (first | with_reducible assumption | ((repeat (first | with_reducible assumption | with_reducible refine c_dr _ ?_ | with_reducible refine c_d1 ?_ | with_reducible refine c_al _ ?_ | (with_reducible refine c_set ?_ ?_; focus (dsimp only; omega)) | (with_reducible apply c_be; with_reducible assumption))); done) | ((repeat (first | with_reducible assumption | with_reducible refine o_dr _ ?_ | with_reducible refine o_d1 ?_ | with_reducible refine o_set ?_ | (with_reducible refine o_new ?_ ?_; (focus (simp)); (focus (simp))) | with_reducible refine o_al _ ?_ | (with_reducible apply o_be; with_reducible assumption))); done) | ((repeat (first | with_reducible assumption | with_reducible exact Below.refl _ _ | with_reducible refine Below.drew ?_ | with_reducible refine below_drewN ?_ _ | with_reducible refine bw_alloc ?_ _ | (with_reducible refine bw_set ?_ ?_ _; focus (dsimp only; omega)) | (with_reducible apply bw_behind; with_reducible assumption))); done) | (refine hT.behind ?_; (repeat (first | with_reducible assumption | with_reducible exact Below.refl _ _ | with_reducible refine Below.drew ?_ | with_reducible refine below_drewN ?_ _ | with_reducible refine bw_alloc ?_ _ | (with_reducible refine bw_set ?_ ?_ _; focus (dsimp only; omega)) | (with_reducible apply bw_behind; with_reducible assumption))); done) | (simp [go_sem, *]; omega) | (simp (maxDischargeDepth := 4) [go_sem, *]; done))
  rintro w2 ⟨hT2, hB2, x0, x1, x2, x3, x4, x5, x6, o2⟩
  obtain ⟨v0, e0⟩ := o2.val 0 (by omega)
  have d0 := o2.free 0 (by omega)
  obtain ⟨v1, e1⟩ := o2.val 1 (by omega)
  have d1 := o2.free 1 (by omega)
  obtain ⟨v2, e2⟩ := o2.val 2 (by omega)
  have d2 := o2.free 2 (by omega)
  obtain ⟨v3, e3⟩ := o2.val 3 (by omega)
  have d3 := o2.free 3 (by omega)
  obtain ⟨v4, e4⟩ := o2.val 4 (by omega)
  have d4 := o2.free 4 (by omega)
  go_upto_region 7 with fail
  refine wp_abs (fun W => TabW W ∧ Below w.heap.size w W ∧ W.cell? ⟨w.heap.size, 0, none⟩ = some (.int .i64 K) ∧ W.cell? ⟨w.heap.size, 1, none⟩ = some (.int .i64 a) ∧ W.cell? ⟨w.heap.size, 2, none⟩ = some (.int .i64 b) ∧ W.cell? ⟨w.heap.size, 3, none⟩ = some (.int .i64 c) ∧ W.cell? ⟨w.heap.size, 4, none⟩ = some (.int .i64 m) ∧ W.cell? ⟨w.heap.size + 1, 1, none⟩ = some (.int .i64 a2) ∧ W.cell? ⟨w.heap.size + 1, 2, none⟩ = some (.int .i64 b2) ∧ W.cell? ⟨w.heap.size + 1 + 1 + mA, 0, none⟩ = some (.int .i64 K) ∧ W.cell? ⟨w.heap.size + 1 + 1 + mA, 1, none⟩ = some (.int .i64 a) ∧ W.cell? ⟨w.heap.size + 1 + 1 + mA, 2, none⟩ = some (.int .i64 b2) ∧ W.cell? ⟨w.heap.size + 1 + 1 + mA, 3, none⟩ = some (.int .i64 c) ∧ W.cell? ⟨w.heap.size + 1 + 1 + mA, 4, none⟩ = some (.int .i64 m)) ?_ ?_
  · refine ⟨?_, ?_, ?_, ?_, ?_, ?_, ?_, ?_, ?_, ?_, ?_, ?_, ?_, ?_⟩
    · intro k hk
      have hne := World.block_lt_of_cell? _ _ (hT2 0 (by decide))
      have hx := hT2 k hk
      have hg : 0 < w.heap.size := hT.pos
      repeat (first | with_reducible assumption | with_reducible refine c_dr _ ?_ | with_reducible refine c_d1 ?_ | with_reducible refine c_al _ ?_ | (with_reducible refine c_set ?_ ?_; focus (dsimp only; omega)) | (with_reducible apply c_be; with_reducible assumption))
    · repeat (first | with_reducible assumption | with_reducible exact Below.refl _ _ | with_reducible refine Below.drew ?_ | with_reducible refine below_drewN ?_ _ | with_reducible refine bw_alloc ?_ _ | (with_reducible refine bw_set ?_ ?_ _; focus (dsimp only; omega)) | (with_reducible apply bw_behind; with_reducible assumption))
    · repeat (first | with_reducible assumption | with_reducible refine c_dr _ ?_ | with_reducible refine c_d1 ?_ | with_reducible refine c_al _ ?_ | (with_reducible refine c_set ?_ ?_; focus (dsimp only; omega)) | (with_reducible apply c_be; with_reducible assumption))
    · repeat (first | with_reducible assumption | with_reducible refine c_dr _ ?_ | with_reducible refine c_d1 ?_ | with_reducible refine c_al _ ?_ | (with_reducible refine c_set ?_ ?_; focus (dsimp only; omega)) | (with_reducible apply c_be; with_reducible assumption))
    · repeat (first | with_reducible assumption | with_reducible refine c_dr _ ?_ | with_reducible refine c_d1 ?_ | with_reducible refine c_al _ ?_ | (with_reducible refine c_set ?_ ?_; focus (dsimp only; omega)) | (with_reducible apply c_be; with_reducible assumption))
    · repeat (first | with_reducible assumption | with_reducible refine c_dr _ ?_ | with_reducible refine c_d1 ?_ | with_reducible refine c_al _ ?_ | (with_reducible refine c_set ?_ ?_; focus (dsimp only; omega)) | (with_reducible apply c_be; with_reducible assumption))
    · repeat (first | with_reducible assumption | with_reducible refine c_dr _ ?_ | with_reducible refine c_d1 ?_ | with_reducible refine c_al _ ?_ | (with_reducible refine c_set ?_ ?_; focus (dsimp only; omega)) | (with_reducible apply c_be; with_reducible assumption))
    · repeat (first | with_reducible assumption | with_reducible refine c_dr _ ?_ | with_reducible refine c_d1 ?_ | with_reducible refine c_al _ ?_ | (with_reducible refine c_set ?_ ?_; focus (dsimp only; omega)) | (with_reducible apply c_be; with_reducible assumption))
    · repeat (first | with_reducible assumption | with_reducible refine c_dr _ ?_ | with_reducible refine c_d1 ?_ | with_reducible refine c_al _ ?_ | (with_reducible refine c_set ?_ ?_; focus (dsimp only; omega)) | (with_reducible apply c_be; with_reducible assumption))
    · refine set_at (o_set (o_set (o_set (o_set (o_set o2))))) (by omega) ?_
      rw [if_neg (by omega)]
      refine set_at (o_set (o_set (o_set (o_set o2)))) (by omega) ?_
      rw [if_neg (by omega)]
      refine set_at (o_set (o_set (o_set o2))) (by omega) ?_
      rw [if_neg (by omega)]
      refine set_at (o_set (o_set o2)) (by omega) ?_
      rw [if_neg (by omega)]
      refine set_at (o_set o2) (by omega) ?_
      rw [if_neg (by omega)]
      refine set_at o2 (by omega) ?_
      rw [if_pos (by omega)]
    · refine set_at (o_set (o_set (o_set (o_set (o_set o2))))) (by omega) ?_
      rw [if_neg (by omega)]
      refine set_at (o_set (o_set (o_set (o_set o2)))) (by omega) ?_
      rw [if_neg (by omega)]
      refine set_at (o_set (o_set (o_set o2))) (by omega) ?_
      rw [if_neg (by omega)]
      refine set_at (o_set (o_set o2)) (by omega) ?_
      rw [if_neg (by omega)]
      refine set_at (o_set o2) (by omega) ?_
      rw [if_pos (by omega)]
    · refine set_at (o_set (o_set (o_set (o_set (o_set o2))))) (by omega) ?_
      rw [if_pos (by omega)]
    · refine set_at (o_set (o_set (o_set (o_set (o_set o2))))) (by omega) ?_
      rw [if_neg (by omega)]
      refine set_at (o_set (o_set (o_set (o_set o2)))) (by omega) ?_
      rw [if_neg (by omega)]
      refine set_at (o_set (o_set (o_set o2))) (by omega) ?_
      rw [if_pos (by omega)]
    · refine set_at (o_set (o_set (o_set (o_set (o_set o2))))) (by omega) ?_
      rw [if_neg (by omega)]
      refine set_at (o_set (o_set (o_set (o_set o2)))) (by omega) ?_
      rw [if_pos (by omega)]
  clear hT2 hB2 o2 x0 x1 x2 x3 x4 x5 x6
  rintro w3 ⟨hT3, hB3, y0, y1, y2, y3, y4, y5, y6, y7, y8, y9, y10, y11⟩
  have z1 : ltB w.heap.size w3.heap.size = true := by unfold ltB; simpa using World.block_lt_of_cell? _ _ y0
  have z2 : ltB (w.heap.size + 1) w3.heap.size = true := by unfold ltB; simpa using World.block_lt_of_cell? _ _ y5
  clear e0 e1 e2 e3 e4 d0 d1 d2 d3 d4
  go_wp2_with (first | (go_at_call 7; (first | ((with_reducible refine (Cg3.out _ ?_).mono ?_); (refine hT.behind ?_; repeat (first | with_reducible assumption | with_reducible exact Below.refl _ _ | with_reducible refine Below.drew ?_ | with_reducible refine below_drewN ?_ _ | with_reducible refine bw_alloc ?_ _ | (with_reducible refine bw_set ?_ ?_ _; focus (dsimp only; omega)) | (with_reducible apply bw_behind; with_reducible assumption))))); rintro e wC ⟨rfl, hbC⟩; have hrC := below_reads hbC; have hhC := below_holds hbC; obtain ⟨mC, hsC⟩ := below_grew hbC) | (go_at_call 11; (first | ((with_reducible refine (Cg9.out _ ?_).mono ?_); (refine hT.behind ?_; repeat (first | with_reducible assumption | with_reducible exact Below.refl _ _ | with_reducible refine Below.drew ?_ | with_reducible refine below_drewN ?_ _ | with_reducible refine bw_alloc ?_ _ | (with_reducible refine bw_set ?_ ?_ _; focus (dsimp only; omega)) | (with_reducible apply bw_behind; with_reducible assumption))))); rintro e wD ⟨rfl, hbD⟩; have hrD := below_reads hbD; have hhD := below_holds hbD; obtain ⟨mD, hsD⟩ := below_grew hbD))
  all_goals (go_ret; refine ⟨rfl, ?_⟩; repeat (first | with_reducible assumption | with_reducible exact Below.refl _ _ | with_reducible refine Below.drew ?_ | with_reducible refine below_drewN ?_ _ | with_reducible refine bw_alloc ?_ _ | (with_reducible refine bw_set ?_ ?_ _; focus (dsimp only; omega)) | (with_reducible apply bw_behind; with_reducible assumption)))

set_option maxRecDepth 100000 in
set_option maxHeartbeats 4000000 in
theorem walk_b (OC : Bool) (K a b c m K2 a2 b2 c2 m2 X Y Z : Int)  (g1 : ∀ W, TabW W → Calls Tryd.prog 7 #[.agg #[.int .i64 K, .int .i64 a, .int .i64 b, .int .i64 c, .int .i64 m]] W (Makes (.tuple #[.int .u32 X, .bool true]) W)) (g2 : ∀ W, TabW W → Calls Tryd.prog 7 #[.agg #[.int .i64 K, .int .i64 a2, .int .i64 b, .int .i64 c, .int .i64 m]] W (Makes (.tuple #[.int .u32 Y, .bool false]) W)) (g3 : ∀ W, TabW W → Calls Tryd.prog 7 #[.agg #[.int .i64 K, .int .i64 a, .int .i64 b2, .int .i64 c, .int .i64 m]] W (Makes (.tuple #[.int .u32 Z, .bool OC]) W)) (g9 : ∀ W, TabW W → Calls Tryd.prog 11 #[] W (Makes (.bool true) W)) (w : World) (hT : TabW w) :
    Calls Tryd.prog 6 #[.agg #[.int .i64 K, .int .i64 a, .int .i64 b, .int .i64 c, .int .i64 m], .agg #[.int .i64 K2, .int .i64 a2, .int .i64 b2, .int .i64 c2, .int .i64 m2]] w (Makes (.bool true) w) := by
  have Cg1 := hide g1
  have Cg2 := hide g2
  have Cg3 := hide g3
  have Cg9 := hide g9
  clear g1 g2 g3 g9
  have SS := cell_same
  have LB' := ltB_add
  have LS := ltB_self
  have LA' := alloc_reads
  have LH := alloc_holds
  go_enter Tryd.func6, Tryd.ntmps6
  go_upto_region 5 with (first | (go_at_call 7; (first | ((with_reducible refine (Cg1.out _ ?_).mono ?_); (refine hT.behind ?_; repeat (first | with_reducible assumption | with_reducible exact Below.refl _ _ | with_reducible refine Below.drew ?_ | with_reducible refine below_drewN ?_ _ | with_reducible refine bw_alloc ?_ _ | (with_reducible refine bw_set ?_ ?_ _; focus (dsimp only; omega)) | (with_reducible apply bw_behind; with_reducible assumption))))); rintro e wA ⟨rfl, hbA⟩; have hrA := below_reads hbA; have hhA := below_holds hbA; obtain ⟨mA, hsA⟩ := below_grew hbA) | (go_at_call 7; (first | ((with_reducible refine (Cg2.out _ ?_).mono ?_); (refine hT.behind ?_; repeat (first | with_reducible assumption | with_reducible exact Below.refl _ _ | with_reducible refine Below.drew ?_ | with_reducible refine below_drewN ?_ _ | with_reducible refine bw_alloc ?_ _ | (with_reducible refine bw_set ?_ ?_ _; focus (dsimp only; omega)) | (with_reducible apply bw_behind; with_reducible assumption))))); rintro e wB ⟨rfl, hbB⟩; have hrB := below_reads hbB; have hhB := below_holds hbB; obtain ⟨mB, hsB⟩ := below_grew hbB))
  refine wp_abs (fun W => TabW W ∧ Below w.heap.size w W ∧ W.cell? ⟨w.heap.size, 0, none⟩ = some (.int .i64 K) ∧ W.cell? ⟨w.heap.size, 1, none⟩ = some (.int .i64 a) ∧ W.cell? ⟨w.heap.size, 2, none⟩ = some (.int .i64 b) ∧ W.cell? ⟨w.heap.size, 3, none⟩ = some (.int .i64 c) ∧ W.cell? ⟨w.heap.size, 4, none⟩ = some (.int .i64 m) ∧ W.cell? ⟨w.heap.size + 1, 1, none⟩ = some (.int .i64 a2) ∧ W.cell? ⟨w.heap.size + 1, 2, none⟩ = some (.int .i64 b2) ∧ Own W (w.heap.size + 1 + 1 + mA) 5) ?_ ?_
  · refine ⟨?_, ?_, ?_, ?_, ?_, ?_, ?_, ?_, ?_, ?_⟩
    rotate_right 1
    · repeat (first | with_reducible assumption | with_reducible refine o_dr _ ?_ | with_reducible refine o_d1 ?_ | with_reducible refine o_set ?_ | (with_reducible refine o_new ?_ ?_; (focus (simp [*])); (focus (simp))) | with_reducible refine o_al _ ?_ | (with_reducible apply o_be; with_reducible assumption))
    all_goals (first | with_reducible assumption | ((repeat (first | with_reducible assumption | with_reducible refine c_dr _ ?_ | with_reducible refine c_d1 ?_ | with_reducible refine c_al _ ?_ | (with_reducible refine c_set ?_ ?_; focus (dsimp only; omega)) | (with_reducible apply c_be; with_reducible assumption))); done) | ((repeat (first | with_reducible assumption | with_reducible refine o_dr _ ?_ | with_reducible refine o_d1 ?_ | with_reducible refine o_set ?_ | (with_reducible refine o_new ?_ ?_; (focus (simp)); (focus (simp))) | with_reducible refine o_al _ ?_ | (with_reducible apply o_be; with_reducible assumption))); done) | ((repeat (first | with_reducible assumption | with_reducible exact Below.refl _ _ | with_reducible refine Below.drew ?_ | with_reducible refine below_drewN ?_ _ | with_reducible refine bw_alloc ?_ _ | (with_reducible refine bw_set ?_ ?_ _; focus (dsimp only; omega)) | (with_reducible apply bw_behind; with_reducible assumption))); done) | (refine hT.behind ?_; (repeat (first | with_reducible assumption | with_reducible exact Below.refl _ _ | with_reducible refine Below.drew ?_ | with_reducible refine below_drewN ?_ _ | with_reducible refine bw_alloc ?_ _ | (with_reducible refine bw_set ?_ ?_ _; focus (dsimp only; omega)) | (with_reducible apply bw_behind; with_reducible assumption))); done) | (simp [go_sem, *]; omega) | (simp (maxDischargeDepth := 4) [go_sem, *]; done))
  rintro w2 ⟨hT2, hB2, x0, x1, x2, x3, x4, x5, x6, o2⟩
  obtain ⟨v0, e0⟩ := o2.val 0 (by omega)
  have d0 := o2.free 0 (by omega)
  obtain ⟨v1, e1⟩ := o2.val 1 (by omega)
  have d1 := o2.free 1 (by omega)
  obtain ⟨v2, e2⟩ := o2.val 2 (by omega)
  have d2 := o2.free 2 (by omega)
  obtain ⟨v3, e3⟩ := o2.val 3 (by omega)
  have d3 := o2.free 3 (by omega)
  obtain ⟨v4, e4⟩ := o2.val 4 (by omega)
  have d4 := o2.free 4 (by omega)
  go_upto_region 7 with fail
  refine wp_abs (fun W => TabW W ∧ Below w.heap.size w W ∧ W.cell? ⟨w.heap.size, 0, none⟩ = some (.int .i64 K) ∧ W.cell? ⟨w.heap.size, 1, none⟩ = some (.int .i64 a) ∧ W.cell? ⟨w.heap.size, 2, none⟩ = some (.int .i64 b) ∧ W.cell? ⟨w.heap.size, 3, none⟩ = some (.int .i64 c) ∧ W.cell? ⟨w.heap.size, 4, none⟩ = some (.int .i64 m) ∧ W.cell? ⟨w.heap.size + 1, 1, none⟩ = some (.int .i64 a2) ∧ W.cell? ⟨w.heap.size + 1, 2, none⟩ = some (.int .i64 b2) ∧ W.cell? ⟨w.heap.size + 1 + 1 + mA, 0, none⟩ = some (.int .i64 K) ∧ W.cell? ⟨w.heap.size + 1 + 1 + mA, 1, none⟩ = some (.int .i64 a) ∧ W.cell? ⟨w.heap.size + 1 + 1 + mA, 2, none⟩ = some (.int .i64 b2) ∧ W.cell? ⟨w.heap.size + 1 + 1 + mA, 3, none⟩ = some (.int .i64 c) ∧ W.cell? ⟨w.heap.size + 1 + 1 + mA, 4, none⟩ = some (.int .i64 m)) ?_ ?_
  · refine ⟨?_, ?_, ?_, ?_, ?_, ?_, ?_, ?_, ?_, ?_, ?_, ?_, ?_, ?_⟩
    · intro k hk
      have hne := World.block_lt_of_cell? _ _ (hT2 0 (by decide))
      have hx := hT2 k hk
      have hg : 0 < w.heap.size := hT.pos
      repeat (first | with_reducible assumption | with_reducible refine c_dr _ ?_ | with_reducible refine c_d1 ?_ | with_reducible refine c_al _ ?_ | (with_reducible refine c_set ?_ ?_; focus (dsimp only; omega)) | (with_reducible apply c_be; with_reducible assumption))
    · repeat (first | with_reducible assumption | with_reducible exact Below.refl _ _ | with_reducible refine Below.drew ?_ | with_reducible refine below_drewN ?_ _ | with_reducible refine bw_alloc ?_ _ | (with_reducible refine bw_set ?_ ?_ _; focus (dsimp only; omega)) | (with_reducible apply bw_behind; with_reducible assumption))
    · repeat (first | with_reducible assumption | with_reducible refine c_dr _ ?_ | with_reducible refine c_d1 ?_ | with_reducible refine c_al _ ?_ | (with_reducible refine c_set ?_ ?_; focus (dsimp only; omega)) | (with_reducible apply c_be; with_reducible assumption))
    · repeat (first | with_reducible assumption | with_reducible refine c_dr _ ?_ | with_reducible refine c_d1 ?_ | with_reducible refine c_al _ ?_ | (with_reducible refine c_set ?_ ?_; focus (dsimp only; omega)) | (with_reducible apply c_be; with_reducible assumption))
    · repeat (first | with_reducible assumption | with_reducible refine c_dr _ ?_ | with_reducible refine c_d1 ?_ | with_reducible refine c_al _ ?_ | (with_reducible refine c_set ?_ ?_; focus (dsimp only; omega)) | (with_reducible apply c_be; with_reducible assumption))
    · repeat (first | with_reducible assumption | with_reducible refine c_dr _ ?_ | with_reducible refine c_d1 ?_ | with_reducible refine c_al _ ?_ | (with_reducible refine c_set ?_ ?_; focus (dsimp only; omega)) | (with_reducible apply c_be; with_reducible assumption))
    · repeat (first | with_reducible assumption | with_reducible refine c_dr _ ?_ | with_reducible refine c_d1 ?_ | with_reducible refine c_al _ ?_ | (with_reducible refine c_set ?_ ?_; focus (dsimp only; omega)) | (with_reducible apply c_be; with_reducible assumption))
    · repeat (first | with_reducible assumption | with_reducible refine c_dr _ ?_ | with_reducible refine c_d1 ?_ | with_reducible refine c_al _ ?_ | (with_reducible refine c_set ?_ ?_; focus (dsimp only; omega)) | (with_reducible apply c_be; with_reducible assumption))
    · repeat (first | with_reducible assumption | with_reducible refine c_dr _ ?_ | with_reducible refine c_d1 ?_ | with_reducible refine c_al _ ?_ | (with_reducible refine c_set ?_ ?_; focus (dsimp only; omega)) | (with_reducible apply c_be; with_reducible assumption))
    · refine set_at (o_set (o_set (o_set (o_set (o_set o2))))) (by omega) ?_
      rw [if_neg (by omega)]
      refine set_at (o_set (o_set (o_set (o_set o2)))) (by omega) ?_
      rw [if_neg (by omega)]
      refine set_at (o_set (o_set (o_set o2))) (by omega) ?_
      rw [if_neg (by omega)]
      refine set_at (o_set (o_set o2)) (by omega) ?_
      rw [if_neg (by omega)]
      refine set_at (o_set o2) (by omega) ?_
      rw [if_neg (by omega)]
      refine set_at o2 (by omega) ?_
      rw [if_pos (by omega)]
    · refine set_at (o_set (o_set (o_set (o_set (o_set o2))))) (by omega) ?_
      rw [if_neg (by omega)]
      refine set_at (o_set (o_set (o_set (o_set o2)))) (by omega) ?_
      rw [if_neg (by omega)]
      refine set_at (o_set (o_set (o_set o2))) (by omega) ?_
      rw [if_neg (by omega)]
      refine set_at (o_set (o_set o2)) (by omega) ?_
      rw [if_neg (by omega)]
      refine set_at (o_set o2) (by omega) ?_
      rw [if_pos (by omega)]
    · refine set_at (o_set (o_set (o_set (o_set (o_set o2))))) (by omega) ?_
      rw [if_pos (by omega)]
    · refine set_at (o_set (o_set (o_set (o_set (o_set o2))))) (by omega) ?_
      rw [if_neg (by omega)]
      refine set_at (o_set (o_set (o_set (o_set o2)))) (by omega) ?_
      rw [if_neg (by omega)]
      refine set_at (o_set (o_set (o_set o2))) (by omega) ?_
      rw [if_pos (by omega)]
    · refine set_at (o_set (o_set (o_set (o_set (o_set o2))))) (by omega) ?_
      rw [if_neg (by omega)]
      refine set_at (o_set (o_set (o_set (o_set o2)))) (by omega) ?_
      rw [if_pos (by omega)]
  clear hT2 hB2 o2 x0 x1 x2 x3 x4 x5 x6
  rintro w3 ⟨hT3, hB3, y0, y1, y2, y3, y4, y5, y6, y7, y8, y9, y10, y11⟩
  have z1 : ltB w.heap.size w3.heap.size = true := by unfold ltB; simpa using World.block_lt_of_cell? _ _ y0
  have z2 : ltB (w.heap.size + 1) w3.heap.size = true := by unfold ltB; simpa using World.block_lt_of_cell? _ _ y5
  clear e0 e1 e2 e3 e4 d0 d1 d2 d3 d4
  go_wp2_with (first | (go_at_call 7; (first | ((with_reducible refine (Cg3.out _ ?_).mono ?_); (refine hT.behind ?_; repeat (first | with_reducible assumption | with_reducible exact Below.refl _ _ | with_reducible refine Below.drew ?_ | with_reducible refine below_drewN ?_ _ | with_reducible refine bw_alloc ?_ _ | (with_reducible refine bw_set ?_ ?_ _; focus (dsimp only; omega)) | (with_reducible apply bw_behind; with_reducible assumption))))); rintro e wC ⟨rfl, hbC⟩; have hrC := below_reads hbC; have hhC := below_holds hbC; obtain ⟨mC, hsC⟩ := below_grew hbC) | (go_at_call 11; (first | ((with_reducible refine (Cg9.out _ ?_).mono ?_); (refine hT.behind ?_; repeat (first | with_reducible assumption | with_reducible exact Below.refl _ _ | with_reducible refine Below.drew ?_ | with_reducible refine below_drewN ?_ _ | with_reducible refine bw_alloc ?_ _ | (with_reducible refine bw_set ?_ ?_ _; focus (dsimp only; omega)) | (with_reducible apply bw_behind; with_reducible assumption))))); rintro e wD ⟨rfl, hbD⟩; have hrD := below_reads hbD; have hhD := below_holds hbD; obtain ⟨mD, hsD⟩ := below_grew hbD))
  all_goals (go_ret; refine ⟨rfl, ?_⟩; repeat (first | with_reducible assumption | with_reducible exact Below.refl _ _ | with_reducible refine Below.drew ?_ | with_reducible refine below_drewN ?_ _ | with_reducible refine bw_alloc ?_ _ | (with_reducible refine bw_set ?_ ?_ _; focus (dsimp only; omega)) | (with_reducible apply bw_behind; with_reducible assumption)))

set_option maxRecDepth 100000 in
set_option maxHeartbeats 4000000 in
theorem walk_c (K a b c m K2 a2 b2 c2 m2 X Y Z : Int)  (g1 : ∀ W, TabW W → Calls Tryd.prog 7 #[.agg #[.int .i64 K, .int .i64 a, .int .i64 b, .int .i64 c, .int .i64 m]] W (Makes (.tuple #[.int .u32 X, .bool true]) W)) (g2 : ∀ W, TabW W → Calls Tryd.prog 7 #[.agg #[.int .i64 K, .int .i64 a2, .int .i64 b, .int .i64 c, .int .i64 m]] W (Makes (.tuple #[.int .u32 Y, .bool true]) W)) (g3 : ∀ W, TabW W → Calls Tryd.prog 7 #[.agg #[.int .i64 K, .int .i64 a, .int .i64 b2, .int .i64 c, .int .i64 m]] W (Makes (.tuple #[.int .u32 Z, .bool false]) W)) (g9 : ∀ W, TabW W → Calls Tryd.prog 11 #[] W (Makes (.bool true) W)) (w : World) (hT : TabW w) :
    Calls Tryd.prog 6 #[.agg #[.int .i64 K, .int .i64 a, .int .i64 b, .int .i64 c, .int .i64 m], .agg #[.int .i64 K2, .int .i64 a2, .int .i64 b2, .int .i64 c2, .int .i64 m2]] w (Makes (.bool true) w) := by
  have Cg1 := hide g1
  have Cg2 := hide g2
  have Cg3 := hide g3
  have Cg9 := hide g9
  clear g1 g2 g3 g9
  have SS := cell_same
  have LB' := ltB_add
  have LS := ltB_self
  have LA' := alloc_reads
  have LH := alloc_holds
  go_enter Tryd.func6, Tryd.ntmps6
  go_upto_region 5 with (first | (go_at_call 7; (first | ((with_reducible refine (Cg1.out _ ?_).mono ?_); (refine hT.behind ?_; repeat (first | with_reducible assumption | with_reducible exact Below.refl _ _ | with_reducible refine Below.drew ?_ | with_reducible refine below_drewN ?_ _ | with_reducible refine bw_alloc ?_ _ | (with_reducible refine bw_set ?_ ?_ _; focus (dsimp only; omega)) | (with_reducible apply bw_behind; with_reducible assumption))))); rintro e wA ⟨rfl, hbA⟩; have hrA := below_reads hbA; have hhA := below_holds hbA; obtain ⟨mA, hsA⟩ := below_grew hbA) | (go_at_call 7; (first | ((with_reducible refine (Cg2.out _ ?_).mono ?_); (refine hT.behind ?_; repeat (first | with_reducible assumption | with_reducible exact Below.refl _ _ | with_reducible refine Below.drew ?_ | with_reducible refine below_drewN ?_ _ | with_reducible refine bw_alloc ?_ _ | (with_reducible refine bw_set ?_ ?_ _; focus (dsimp only; omega)) | (with_reducible apply bw_behind; with_reducible assumption))))); rintro e wB ⟨rfl, hbB⟩; have hrB := below_reads hbB; have hhB := below_holds hbB; obtain ⟨mB, hsB⟩ := below_grew hbB))
  refine wp_abs (fun W => TabW W ∧ Below w.heap.size w W ∧ W.cell? ⟨w.heap.size, 0, none⟩ = some (.int .i64 K) ∧ W.cell? ⟨w.heap.size, 1, none⟩ = some (.int .i64 a) ∧ W.cell? ⟨w.heap.size, 2, none⟩ = some (.int .i64 b) ∧ W.cell? ⟨w.heap.size, 3, none⟩ = some (.int .i64 c) ∧ W.cell? ⟨w.heap.size, 4, none⟩ = some (.int .i64 m) ∧ W.cell? ⟨w.heap.size + 1, 1, none⟩ = some (.int .i64 a2) ∧ W.cell? ⟨w.heap.size + 1, 2, none⟩ = some (.int .i64 b2) ∧ Own W (w.heap.size + 1 + 1 + mA) 5) ?_ ?_
  · refine ⟨?_, ?_, ?_, ?_, ?_, ?_, ?_, ?_, ?_, ?_⟩
    rotate_right 1
    · repeat (first | with_reducible assumption | with_reducible refine o_dr _ ?_ | with_reducible refine o_d1 ?_ | with_reducible refine o_set ?_ | (with_reducible refine o_new ?_ ?_; (focus (simp [*])); (focus (simp))) | with_reducible refine o_al _ ?_ | (with_reducible apply o_be; with_reducible assumption))
    all_goals (first | with_reducible assumption | ((repeat (first | with_reducible assumption | with_reducible refine c_dr _ ?_ | with_reducible refine c_d1 ?_ | with_reducible refine c_al _ ?_ | (with_reducible refine c_set ?_ ?_; focus (dsimp only; omega)) | (with_reducible apply c_be; with_reducible assumption))); done) | ((repeat (first | with_reducible assumption | with_reducible refine o_dr _ ?_ | with_reducible refine o_d1 ?_ | with_reducible refine o_set ?_ | (with_reducible refine o_new ?_ ?_; (focus (simp)); (focus (simp))) | with_reducible refine o_al _ ?_ | (with_reducible apply o_be; with_reducible assumption))); done) | ((repeat (first | with_reducible assumption | with_reducible exact Below.refl _ _ | with_reducible refine Below.drew ?_ | with_reducible refine below_drewN ?_ _ | with_reducible refine bw_alloc ?_ _ | (with_reducible refine bw_set ?_ ?_ _; focus (dsimp only; omega)) | (with_reducible apply bw_behind; with_reducible assumption))); done) | (refine hT.behind ?_; (repeat (first | with_reducible assumption | with_reducible exact Below.refl _ _ | with_reducible refine Below.drew ?_ | with_reducible refine below_drewN ?_ _ | with_reducible refine bw_alloc ?_ _ | (with_reducible refine bw_set ?_ ?_ _; focus (dsimp only; omega)) | (with_reducible apply bw_behind; with_reducible assumption))); done) | (simp [go_sem, *]; omega) | (simp (maxDischargeDepth := 4) [go_sem, *]; done))
  rintro w2 ⟨hT2, hB2, x0, x1, x2, x3, x4, x5, x6, o2⟩
  obtain ⟨v0, e0⟩ := o2.val 0 (by omega)
  have d0 := o2.free 0 (by omega)
  obtain ⟨v1, e1⟩ := o2.val 1 (by omega)
  have d1 := o2.free 1 (by omega)
  obtain ⟨v2, e2⟩ := o2.val 2 (by omega)
  have d2 := o2.free 2 (by omega)
  obtain ⟨v3, e3⟩ := o2.val 3 (by omega)
  have d3 := o2.free 3 (by omega)
  obtain ⟨v4, e4⟩ := o2.val 4 (by omega)
  have d4 := o2.free 4 (by omega)
  go_upto_region 7 with fail
  refine wp_abs (fun W => TabW W ∧ Below w.heap.size w W ∧ W.cell? ⟨w.heap.size, 0, none⟩ = some (.int .i64 K) ∧ W.cell? ⟨w.heap.size, 1, none⟩ = some (.int .i64 a) ∧ W.cell? ⟨w.heap.size, 2, none⟩ = some (.int .i64 b) ∧ W.cell? ⟨w.heap.size, 3, none⟩ = some (.int .i64 c) ∧ W.cell? ⟨w.heap.size, 4, none⟩ = some (.int .i64 m) ∧ W.cell? ⟨w.heap.size + 1, 1, none⟩ = some (.int .i64 a2) ∧ W.cell? ⟨w.heap.size + 1, 2, none⟩ = some (.int .i64 b2) ∧ W.cell? ⟨w.heap.size + 1 + 1 + mA, 0, none⟩ = some (.int .i64 K) ∧ W.cell? ⟨w.heap.size + 1 + 1 + mA, 1, none⟩ = some (.int .i64 a) ∧ W.cell? ⟨w.heap.size + 1 + 1 + mA, 2, none⟩ = some (.int .i64 b2) ∧ W.cell? ⟨w.heap.size + 1 + 1 + mA, 3, none⟩ = some (.int .i64 c) ∧ W.cell? ⟨w.heap.size + 1 + 1 + mA, 4, none⟩ = some (.int .i64 m)) ?_ ?_
  · refine ⟨?_, ?_, ?_, ?_, ?_, ?_, ?_, ?_, ?_, ?_, ?_, ?_, ?_, ?_⟩
    · intro k hk
      have hne := World.block_lt_of_cell? _ _ (hT2 0 (by decide))
      have hx := hT2 k hk
      have hg : 0 < w.heap.size := hT.pos
      repeat (first | with_reducible assumption | with_reducible refine c_dr _ ?_ | with_reducible refine c_d1 ?_ | with_reducible refine c_al _ ?_ | (with_reducible refine c_set ?_ ?_; focus (dsimp only; omega)) | (with_reducible apply c_be; with_reducible assumption))
    · repeat (first | with_reducible assumption | with_reducible exact Below.refl _ _ | with_reducible refine Below.drew ?_ | with_reducible refine below_drewN ?_ _ | with_reducible refine bw_alloc ?_ _ | (with_reducible refine bw_set ?_ ?_ _; focus (dsimp only; omega)) | (with_reducible apply bw_behind; with_reducible assumption))
    · repeat (first | with_reducible assumption | with_reducible refine c_dr _ ?_ | with_reducible refine c_d1 ?_ | with_reducible refine c_al _ ?_ | (with_reducible refine c_set ?_ ?_; focus (dsimp only; omega)) | (with_reducible apply c_be; with_reducible assumption))
    · repeat (first | with_reducible assumption | with_reducible refine c_dr _ ?_ | with_reducible refine c_d1 ?_ | with_reducible refine c_al _ ?_ | (with_reducible refine c_set ?_ ?_; focus (dsimp only; omega)) | (with_reducible apply c_be; with_reducible assumption))
    · repeat (first | with_reducible assumption | with_reducible refine c_dr _ ?_ | with_reducible refine c_d1 ?_ | with_reducible refine c_al _ ?_ | (with_reducible refine c_set ?_ ?_; focus (dsimp only; omega)) | (with_reducible apply c_be; with_reducible assumption))
    · repeat (first | with_reducible assumption | with_reducible refine c_dr _ ?_ | with_reducible refine c_d1 ?_ | with_reducible refine c_al _ ?_ | (with_reducible refine c_set ?_ ?_; focus (dsimp only; omega)) | (with_reducible apply c_be; with_reducible assumption))
    · repeat (first | with_reducible assumption | with_reducible refine c_dr _ ?_ | with_reducible refine c_d1 ?_ | with_reducible refine c_al _ ?_ | (with_reducible refine c_set ?_ ?_; focus (dsimp only; omega)) | (with_reducible apply c_be; with_reducible assumption))
    · repeat (first | with_reducible assumption | with_reducible refine c_dr _ ?_ | with_reducible refine c_d1 ?_ | with_reducible refine c_al _ ?_ | (with_reducible refine c_set ?_ ?_; focus (dsimp only; omega)) | (with_reducible apply c_be; with_reducible assumption))
    · repeat (first | with_reducible assumption | with_reducible refine c_dr _ ?_ | with_reducible refine c_d1 ?_ | with_reducible refine c_al _ ?_ | (with_reducible refine c_set ?_ ?_; focus (dsimp only; omega)) | (with_reducible apply c_be; with_reducible assumption))
    · refine set_at (o_set (o_set (o_set (o_set (o_set o2))))) (by omega) ?_
      rw [if_neg (by omega)]
      refine set_at (o_set (o_set (o_set (o_set o2)))) (by omega) ?_
      rw [if_neg (by omega)]
      refine set_at (o_set (o_set (o_set o2))) (by omega) ?_
      rw [if_neg (by omega)]
      refine set_at (o_set (o_set o2)) (by omega) ?_
      rw [if_neg (by omega)]
      refine set_at (o_set o2) (by omega) ?_
      rw [if_neg (by omega)]
      refine set_at o2 (by omega) ?_
      rw [if_pos (by omega)]
    · refine set_at (o_set (o_set (o_set (o_set (o_set o2))))) (by omega) ?_
      rw [if_neg (by omega)]
      refine set_at (o_set (o_set (o_set (o_set o2)))) (by omega) ?_
      rw [if_neg (by omega)]
      refine set_at (o_set (o_set (o_set o2))) (by omega) ?_
      rw [if_neg (by omega)]
      refine set_at (o_set (o_set o2)) (by omega) ?_
      rw [if_neg (by omega)]
      refine set_at (o_set o2) (by omega) ?_
      rw [if_pos (by omega)]
    · refine set_at (o_set (o_set (o_set (o_set (o_set o2))))) (by omega) ?_
      rw [if_pos (by omega)]
    · refine set_at (o_set (o_set (o_set (o_set (o_set o2))))) (by omega) ?_
      rw [if_neg (by omega)]
      refine set_at (o_set (o_set (o_set (o_set o2)))) (by omega) ?_
      rw [if_neg (by omega)]
      refine set_at (o_set (o_set (o_set o2))) (by omega) ?_
      rw [if_pos (by omega)]
    · refine set_at (o_set (o_set (o_set (o_set (o_set o2))))) (by omega) ?_
      rw [if_neg (by omega)]
      refine set_at (o_set (o_set (o_set (o_set o2)))) (by omega) ?_
      rw [if_pos (by omega)]
  clear hT2 hB2 o2 x0 x1 x2 x3 x4 x5 x6
  rintro w3 ⟨hT3, hB3, y0, y1, y2, y3, y4, y5, y6, y7, y8, y9, y10, y11⟩
  have z1 : ltB w.heap.size w3.heap.size = true := by unfold ltB; simpa using World.block_lt_of_cell? _ _ y0
  have z2 : ltB (w.heap.size + 1) w3.heap.size = true := by unfold ltB; simpa using World.block_lt_of_cell? _ _ y5
  clear e0 e1 e2 e3 e4 d0 d1 d2 d3 d4
  go_wp2_with (first | (go_at_call 7; (first | ((with_reducible refine (Cg3.out _ ?_).mono ?_); (refine hT.behind ?_; repeat (first | with_reducible assumption | with_reducible exact Below.refl _ _ | with_reducible refine Below.drew ?_ | with_reducible refine below_drewN ?_ _ | with_reducible refine bw_alloc ?_ _ | (with_reducible refine bw_set ?_ ?_ _; focus (dsimp only; omega)) | (with_reducible apply bw_behind; with_reducible assumption))))); rintro e wC ⟨rfl, hbC⟩; have hrC := below_reads hbC; have hhC := below_holds hbC; obtain ⟨mC, hsC⟩ := below_grew hbC) | (go_at_call 11; (first | ((with_reducible refine (Cg9.out _ ?_).mono ?_); (refine hT.behind ?_; repeat (first | with_reducible assumption | with_reducible exact Below.refl _ _ | with_reducible refine Below.drew ?_ | with_reducible refine below_drewN ?_ _ | with_reducible refine bw_alloc ?_ _ | (with_reducible refine bw_set ?_ ?_ _; focus (dsimp only; omega)) | (with_reducible apply bw_behind; with_reducible assumption))))); rintro e wD ⟨rfl, hbD⟩; have hrD := below_reads hbD; have hhD := below_holds hbD; obtain ⟨mD, hsD⟩ := below_grew hbD))
  all_goals (go_ret; refine ⟨rfl, ?_⟩; repeat (first | with_reducible assumption | with_reducible exact Below.refl _ _ | with_reducible refine Below.drew ?_ | with_reducible refine below_drewN ?_ _ | with_reducible refine bw_alloc ?_ _ | (with_reducible refine bw_set ?_ ?_ _; focus (dsimp only; omega)) | (with_reducible apply bw_behind; with_reducible assumption)))

set_option maxRecDepth 100000 in
set_option maxHeartbeats 4000000 in
theorem walk_P (K a b c m K2 a2 b2 c2 m2 X Y Z S Q1 Q2 Q3 Q4 Q5 Q6 Q7 Q8 : Int)  (g1 : ∀ W, TabW W → Calls Tryd.prog 7 #[.agg #[.int .i64 K, .int .i64 a, .int .i64 b, .int .i64 c, .int .i64 m]] W (Makes (.tuple #[.int .u32 X, .bool true]) W)) (g2 : ∀ W, TabW W → Calls Tryd.prog 7 #[.agg #[.int .i64 K, .int .i64 a2, .int .i64 b, .int .i64 c, .int .i64 m]] W (Makes (.tuple #[.int .u32 Y, .bool true]) W)) (g3 : ∀ W, TabW W → Calls Tryd.prog 7 #[.agg #[.int .i64 K, .int .i64 a, .int .i64 b2, .int .i64 c, .int .i64 m]] W (Makes (.tuple #[.int .u32 Z, .bool true]) W)) (g9 : ∀ W, TabW W → Calls Tryd.prog 11 #[] W (Makes (.bool true) W)) (g4 : ∀ W, TabW W → Calls Tryd.prog 12 #[.int .i64 K] W (Makes (.int .u8 S) W)) (s1 : (S == 83) = false) (s2 : (S == 66) = false) (s3 : (S == 78) = false) (s4 : (S == 85) = false) (s5 : (S == 74) = false) (s6 : (S != 83) = true) (s7 : (S != 66) = true) (t1 : bits .xor .i64 a a2 = Q1) (t2 : IntKind.u32.wrap Q1 = Q2) (t3 : IntKind.u32.wrap (Q2 * 128) = Q3) (t4 : bits .and .u32 Q3 3968 = Q4) (t5 : bits .xor .u32 X Y = Q5) (t6 : (Q5 != Q4) = false) (v1 : bits .xor .i64 b b2 = Q6) (v2 : IntKind.u32.wrap Q6 = Q7) (v3 : IntKind.u32.wrap (Q7 * 32768) = Q8) (v4 : bits .xor .u32 X Z = Q8) (w : World) (hT : TabW w) :
    Calls Tryd.prog 6 #[.agg #[.int .i64 K, .int .i64 a, .int .i64 b, .int .i64 c, .int .i64 m], .agg #[.int .i64 K2, .int .i64 a2, .int .i64 b2, .int .i64 c2, .int .i64 m2]] w (Makes (.bool true) w) := by
  have Cg1 := hide g1
  have Cg2 := hide g2
  have Cg3 := hide g3
  have Cg9 := hide g9
  have Cg4 := hide g4
  clear g1 g2 g3 g9 g4
  have SS := cell_same
  have LB' := ltB_add
  have LS := ltB_self
  have LA' := alloc_reads
  have LH := alloc_holds
  go_enter Tryd.func6, Tryd.ntmps6
  go_upto_region 5 with (first | (go_at_call 7; (first | ((with_reducible refine (Cg1.out _ ?_).mono ?_); (refine hT.behind ?_; repeat (first | with_reducible assumption | with_reducible exact Below.refl _ _ | with_reducible refine Below.drew ?_ | with_reducible refine below_drewN ?_ _ | with_reducible refine bw_alloc ?_ _ | (with_reducible refine bw_set ?_ ?_ _; focus (dsimp only; omega)) | (with_reducible apply bw_behind; with_reducible assumption))))); rintro e wA ⟨rfl, hbA⟩; have hrA := below_reads hbA; have hhA := below_holds hbA; obtain ⟨mA, hsA⟩ := below_grew hbA) | (go_at_call 7; (first | ((with_reducible refine (Cg2.out _ ?_).mono ?_); (refine hT.behind ?_; repeat (first | with_reducible assumption | with_reducible exact Below.refl _ _ | with_reducible refine Below.drew ?_ | with_reducible refine below_drewN ?_ _ | with_reducible refine bw_alloc ?_ _ | (with_reducible refine bw_set ?_ ?_ _; focus (dsimp only; omega)) | (with_reducible apply bw_behind; with_reducible assumption))))); rintro e wB ⟨rfl, hbB⟩; have hrB := below_reads hbB; have hhB := below_holds hbB; obtain ⟨mB, hsB⟩ := below_grew hbB))
  refine wp_abs (fun W => TabW W ∧ Below w.heap.size w W ∧ W.cell? ⟨w.heap.size, 0, none⟩ = some (.int .i64 K) ∧ W.cell? ⟨w.heap.size, 1, none⟩ = some (.int .i64 a) ∧ W.cell? ⟨w.heap.size, 2, none⟩ = some (.int .i64 b) ∧ W.cell? ⟨w.heap.size, 3, none⟩ = some (.int .i64 c) ∧ W.cell? ⟨w.heap.size, 4, none⟩ = some (.int .i64 m) ∧ W.cell? ⟨w.heap.size + 1, 1, none⟩ = some (.int .i64 a2) ∧ W.cell? ⟨w.heap.size + 1, 2, none⟩ = some (.int .i64 b2) ∧ Own W (w.heap.size + 1 + 1 + mA) 5) ?_ ?_
  · refine ⟨?_, ?_, ?_, ?_, ?_, ?_, ?_, ?_, ?_, ?_⟩
    rotate_right 1
    · repeat (first | with_reducible assumption | with_reducible refine o_dr _ ?_ | with_reducible refine o_d1 ?_ | with_reducible refine o_set ?_ | (with_reducible refine o_new ?_ ?_; (focus (simp [*])); (focus (simp))) | with_reducible refine o_al _ ?_ | (with_reducible apply o_be; with_reducible assumption))
    all_goals (first | with_reducible assumption | ((repeat (first | with_reducible assumption | with_reducible refine c_dr _ ?_ | with_reducible refine c_d1 ?_ | with_reducible refine c_al _ ?_ | (with_reducible refine c_set ?_ ?_; focus (dsimp only; omega)) | (with_reducible apply c_be; with_reducible assumption))); done) | ((repeat (first | with_reducible assumption | with_reducible refine o_dr _ ?_ | with_reducible refine o_d1 ?_ | with_reducible refine o_set ?_ | (with_reducible refine o_new ?_ ?_; (focus (simp)); (focus (simp))) | with_reducible refine o_al _ ?_ | (with_reducible apply o_be; with_reducible assumption))); done) | ((repeat (first | with_reducible assumption | with_reducible exact Below.refl _ _ | with_reducible refine Below.drew ?_ | with_reducible refine below_drewN ?_ _ | with_reducible refine bw_alloc ?_ _ | (with_reducible refine bw_set ?_ ?_ _; focus (dsimp only; omega)) | (with_reducible apply bw_behind; with_reducible assumption))); done) | (refine hT.behind ?_; (repeat (first | with_reducible assumption | with_reducible exact Below.refl _ _ | with_reducible refine Below.drew ?_ | with_reducible refine below_drewN ?_ _ | with_reducible refine bw_alloc ?_ _ | (with_reducible refine bw_set ?_ ?_ _; focus (dsimp only; omega)) | (with_reducible apply bw_behind; with_reducible assumption))); done) | (simp [go_sem, *]; omega) | (simp (maxDischargeDepth := 4) [go_sem, *]; done))
  rintro w2 ⟨hT2, hB2, x0, x1, x2, x3, x4, x5, x6, o2⟩
  obtain ⟨v0, e0⟩ := o2.val 0 (by omega)
  have d0 := o2.free 0 (by omega)
  obtain ⟨v1, e1⟩ := o2.val 1 (by omega)
  have d1 := o2.free 1 (by omega)
  obtain ⟨v2, e2⟩ := o2.val 2 (by omega)
  have d2 := o2.free 2 (by omega)
  obtain ⟨v3, e3⟩ := o2.val 3 (by omega)
  have d3 := o2.free 3 (by omega)
  obtain ⟨v4, e4⟩ := o2.val 4 (by omega)
  have d4 := o2.free 4 (by omega)
  go_upto_region 7 with fail
  refine wp_abs (fun W => TabW W ∧ Below w.heap.size w W ∧ W.cell? ⟨w.heap.size, 0, none⟩ = some (.int .i64 K) ∧ W.cell? ⟨w.heap.size, 1, none⟩ = some (.int .i64 a) ∧ W.cell? ⟨w.heap.size, 2, none⟩ = some (.int .i64 b) ∧ W.cell? ⟨w.heap.size, 3, none⟩ = some (.int .i64 c) ∧ W.cell? ⟨w.heap.size, 4, none⟩ = some (.int .i64 m) ∧ W.cell? ⟨w.heap.size + 1, 1, none⟩ = some (.int .i64 a2) ∧ W.cell? ⟨w.heap.size + 1, 2, none⟩ = some (.int .i64 b2) ∧ W.cell? ⟨w.heap.size + 1 + 1 + mA, 0, none⟩ = some (.int .i64 K) ∧ W.cell? ⟨w.heap.size + 1 + 1 + mA, 1, none⟩ = some (.int .i64 a) ∧ W.cell? ⟨w.heap.size + 1 + 1 + mA, 2, none⟩ = some (.int .i64 b2) ∧ W.cell? ⟨w.heap.size + 1 + 1 + mA, 3, none⟩ = some (.int .i64 c) ∧ W.cell? ⟨w.heap.size + 1 + 1 + mA, 4, none⟩ = some (.int .i64 m)) ?_ ?_
  · refine ⟨?_, ?_, ?_, ?_, ?_, ?_, ?_, ?_, ?_, ?_, ?_, ?_, ?_, ?_⟩
    · intro k hk
      have hne := World.block_lt_of_cell? _ _ (hT2 0 (by decide))
      have hx := hT2 k hk
      have hg : 0 < w.heap.size := hT.pos
      repeat (first | with_reducible assumption | with_reducible refine c_dr _ ?_ | with_reducible refine c_d1 ?_ | with_reducible refine c_al _ ?_ | (with_reducible refine c_set ?_ ?_; focus (dsimp only; omega)) | (with_reducible apply c_be; with_reducible assumption))
    · repeat (first | with_reducible assumption | with_reducible exact Below.refl _ _ | with_reducible refine Below.drew ?_ | with_reducible refine below_drewN ?_ _ | with_reducible refine bw_alloc ?_ _ | (with_reducible refine bw_set ?_ ?_ _; focus (dsimp only; omega)) | (with_reducible apply bw_behind; with_reducible assumption))
    · repeat (first | with_reducible assumption | with_reducible refine c_dr _ ?_ | with_reducible refine c_d1 ?_ | with_reducible refine c_al _ ?_ | (with_reducible refine c_set ?_ ?_; focus (dsimp only; omega)) | (with_reducible apply c_be; with_reducible assumption))
    · repeat (first | with_reducible assumption | with_reducible refine c_dr _ ?_ | with_reducible refine c_d1 ?_ | with_reducible refine c_al _ ?_ | (with_reducible refine c_set ?_ ?_; focus (dsimp only; omega)) | (with_reducible apply c_be; with_reducible assumption))
    · repeat (first | with_reducible assumption | with_reducible refine c_dr _ ?_ | with_reducible refine c_d1 ?_ | with_reducible refine c_al _ ?_ | (with_reducible refine c_set ?_ ?_; focus (dsimp only; omega)) | (with_reducible apply c_be; with_reducible assumption))
    · repeat (first | with_reducible assumption | with_reducible refine c_dr _ ?_ | with_reducible refine c_d1 ?_ | with_reducible refine c_al _ ?_ | (with_reducible refine c_set ?_ ?_; focus (dsimp only; omega)) | (with_reducible apply c_be; with_reducible assumption))
    · repeat (first | with_reducible assumption | with_reducible refine c_dr _ ?_ | with_reducible refine c_d1 ?_ | with_reducible refine c_al _ ?_ | (with_reducible refine c_set ?_ ?_; focus (dsimp only; omega)) | (with_reducible apply c_be; with_reducible assumption))
    · repeat (first | with_reducible assumption | with_reducible refine c_dr _ ?_ | with_reducible refine c_d1 ?_ | with_reducible refine c_al _ ?_ | (with_reducible refine c_set ?_ ?_; focus (dsimp only; omega)) | (with_reducible apply c_be; with_reducible assumption))
    · repeat (first | with_reducible assumption | with_reducible refine c_dr _ ?_ | with_reducible refine c_d1 ?_ | with_reducible refine c_al _ ?_ | (with_reducible refine c_set ?_ ?_; focus (dsimp only; omega)) | (with_reducible apply c_be; with_reducible assumption))
    · refine set_at (o_set (o_set (o_set (o_set (o_set o2))))) (by omega) ?_
      rw [if_neg (by omega)]
      refine set_at (o_set (o_set (o_set (o_set o2)))) (by omega) ?_
      rw [if_neg (by omega)]
      refine set_at (o_set (o_set (o_set o2))) (by omega) ?_
      rw [if_neg (by omega)]
      refine set_at (o_set (o_set o2)) (by omega) ?_
      rw [if_neg (by omega)]
      refine set_at (o_set o2) (by omega) ?_
      rw [if_neg (by omega)]
      refine set_at o2 (by omega) ?_
      rw [if_pos (by omega)]
    · refine set_at (o_set (o_set (o_set (o_set (o_set o2))))) (by omega) ?_
      rw [if_neg (by omega)]
      refine set_at (o_set (o_set (o_set (o_set o2)))) (by omega) ?_
      rw [if_neg (by omega)]
      refine set_at (o_set (o_set (o_set o2))) (by omega) ?_
      rw [if_neg (by omega)]
      refine set_at (o_set (o_set o2)) (by omega) ?_
      rw [if_neg (by omega)]
      refine set_at (o_set o2) (by omega) ?_
      rw [if_pos (by omega)]
    · refine set_at (o_set (o_set (o_set (o_set (o_set o2))))) (by omega) ?_
      rw [if_pos (by omega)]
    · refine set_at (o_set (o_set (o_set (o_set (o_set o2))))) (by omega) ?_
      rw [if_neg (by omega)]
      refine set_at (o_set (o_set (o_set (o_set o2)))) (by omega) ?_
      rw [if_neg (by omega)]
      refine set_at (o_set (o_set (o_set o2))) (by omega) ?_
      rw [if_pos (by omega)]
    · refine set_at (o_set (o_set (o_set (o_set (o_set o2))))) (by omega) ?_
      rw [if_neg (by omega)]
      refine set_at (o_set (o_set (o_set (o_set o2)))) (by omega) ?_
      rw [if_pos (by omega)]
  clear hT2 hB2 o2 x0 x1 x2 x3 x4 x5 x6
  rintro w3 ⟨hT3, hB3, y0, y1, y2, y3, y4, y5, y6, y7, y8, y9, y10, y11⟩
  have z1 : ltB w.heap.size w3.heap.size = true := by unfold ltB; simpa using World.block_lt_of_cell? _ _ y0
  have z2 : ltB (w.heap.size + 1) w3.heap.size = true := by unfold ltB; simpa using World.block_lt_of_cell? _ _ y5
  clear e0 e1 e2 e3 e4 d0 d1 d2 d3 d4
  go_wp2_with (first | (go_at_call 7; (first | ((with_reducible refine (Cg3.out _ ?_).mono ?_); (refine hT.behind ?_; repeat (first | with_reducible assumption | with_reducible exact Below.refl _ _ | with_reducible refine Below.drew ?_ | with_reducible refine below_drewN ?_ _ | with_reducible refine bw_alloc ?_ _ | (with_reducible refine bw_set ?_ ?_ _; focus (dsimp only; omega)) | (with_reducible apply bw_behind; with_reducible assumption))))); rintro e wC ⟨rfl, hbC⟩; have hrC := below_reads hbC; have hhC := below_holds hbC; obtain ⟨mC, hsC⟩ := below_grew hbC) | (go_at_call 11; (first | ((with_reducible refine (Cg9.out _ ?_).mono ?_); (refine hT.behind ?_; repeat (first | with_reducible assumption | with_reducible exact Below.refl _ _ | with_reducible refine Below.drew ?_ | with_reducible refine below_drewN ?_ _ | with_reducible refine bw_alloc ?_ _ | (with_reducible refine bw_set ?_ ?_ _; focus (dsimp only; omega)) | (with_reducible apply bw_behind; with_reducible assumption))))); rintro e wD ⟨rfl, hbD⟩; have hrD := below_reads hbD; have hhD := below_holds hbD; obtain ⟨mD, hsD⟩ := below_grew hbD) | (go_at_call 12; (first | ((with_reducible refine (Cg4.out _ ?_).mono ?_); (refine hT.behind ?_; repeat (first | with_reducible assumption | with_reducible exact Below.refl _ _ | with_reducible refine Below.drew ?_ | with_reducible refine below_drewN ?_ _ | with_reducible refine bw_alloc ?_ _ | (with_reducible refine bw_set ?_ ?_ _; focus (dsimp only; omega)) | (with_reducible apply bw_behind; with_reducible assumption))))); rintro e wE ⟨rfl, hbE⟩; have hrE := below_reads hbE; have hhE := below_holds hbE; obtain ⟨mE, hsE⟩ := below_grew hbE))
  all_goals (go_ret; refine ⟨rfl, ?_⟩; repeat (first | with_reducible assumption | with_reducible exact Below.refl _ _ | with_reducible refine Below.drew ?_ | with_reducible refine below_drewN ?_ _ | with_reducible refine bw_alloc ?_ _ | (with_reducible refine bw_set ?_ ?_ _; focus (dsimp only; omega)) | (with_reducible apply bw_behind; with_reducible assumption)))

set_option maxRecDepth 100000 in
set_option maxHeartbeats 4000000 in
theorem walk_S (K a b c m K2 a2 b2 c2 m2 X Y Z Q6 Q7 Q8 : Int)  (g1 : ∀ W, TabW W → Calls Tryd.prog 7 #[.agg #[.int .i64 K, .int .i64 a, .int .i64 b, .int .i64 c, .int .i64 m]] W (Makes (.tuple #[.int .u32 X, .bool true]) W)) (g2 : ∀ W, TabW W → Calls Tryd.prog 7 #[.agg #[.int .i64 K, .int .i64 a2, .int .i64 b, .int .i64 c, .int .i64 m]] W (Makes (.tuple #[.int .u32 Y, .bool true]) W)) (g3 : ∀ W, TabW W → Calls Tryd.prog 7 #[.agg #[.int .i64 K, .int .i64 a, .int .i64 b2, .int .i64 c, .int .i64 m]] W (Makes (.tuple #[.int .u32 Z, .bool true]) W)) (g9 : ∀ W, TabW W → Calls Tryd.prog 11 #[] W (Makes (.bool true) W)) (g4 : ∀ W, TabW W → Calls Tryd.prog 12 #[.int .i64 K] W (Makes (.int .u8 83) W)) (u1 : (X != Y) = false) (v1 : bits .xor .i64 b b2 = Q6) (v2 : IntKind.u32.wrap Q6 = Q7) (v3 : IntKind.u32.wrap (Q7 * 32768) = Q8) (v4 : bits .xor .u32 X Z = Q8) (w : World) (hT : TabW w) :
    Calls Tryd.prog 6 #[.agg #[.int .i64 K, .int .i64 a, .int .i64 b, .int .i64 c, .int .i64 m], .agg #[.int .i64 K2, .int .i64 a2, .int .i64 b2, .int .i64 c2, .int .i64 m2]] w (Makes (.bool true) w) := by
  have Cg1 := hide g1
  have Cg2 := hide g2
  have Cg3 := hide g3
  have Cg9 := hide g9
  have Cg4 := hide g4
  clear g1 g2 g3 g9 g4
  have SS := cell_same
  have LB' := ltB_add
  have LS := ltB_self
  have LA' := alloc_reads
  have LH := alloc_holds
  go_enter Tryd.func6, Tryd.ntmps6
  go_upto_region 5 with (first | (go_at_call 7; (first | ((with_reducible refine (Cg1.out _ ?_).mono ?_); (refine hT.behind ?_; repeat (first | with_reducible assumption | with_reducible exact Below.refl _ _ | with_reducible refine Below.drew ?_ | with_reducible refine below_drewN ?_ _ | with_reducible refine bw_alloc ?_ _ | (with_reducible refine bw_set ?_ ?_ _; focus (dsimp only; omega)) | (with_reducible apply bw_behind; with_reducible assumption))))); rintro e wA ⟨rfl, hbA⟩; have hrA := below_reads hbA; have hhA := below_holds hbA; obtain ⟨mA, hsA⟩ := below_grew hbA) | (go_at_call 7; (first | ((with_reducible refine (Cg2.out _ ?_).mono ?_); (refine hT.behind ?_; repeat (first | with_reducible assumption | with_reducible exact Below.refl _ _ | with_reducible refine Below.drew ?_ | with_reducible refine below_drewN ?_ _ | with_reducible refine bw_alloc ?_ _ | (with_reducible refine bw_set ?_ ?_ _; focus (dsimp only; omega)) | (with_reducible apply bw_behind; with_reducible assumption))))); rintro e wB ⟨rfl, hbB⟩; have hrB := below_reads hbB; have hhB := below_holds hbB; obtain ⟨mB, hsB⟩ := below_grew hbB))
  refine wp_abs (fun W => TabW W ∧ Below w.heap.size w W ∧ W.cell? ⟨w.heap.size, 0, none⟩ = some (.int .i64 K) ∧ W.cell? ⟨w.heap.size, 1, none⟩ = some (.int .i64 a) ∧ W.cell? ⟨w.heap.size, 2, none⟩ = some (.int .i64 b) ∧ W.cell? ⟨w.heap.size, 3, none⟩ = some (.int .i64 c) ∧ W.cell? ⟨w.heap.size, 4, none⟩ = some (.int .i64 m) ∧ W.cell? ⟨w.heap.size + 1, 1, none⟩ = some (.int .i64 a2) ∧ W.cell? ⟨w.heap.size + 1, 2, none⟩ = some (.int .i64 b2) ∧ Own W (w.heap.size + 1 + 1 + mA) 5) ?_ ?_
  · refine ⟨?_, ?_, ?_, ?_, ?_, ?_, ?_, ?_, ?_, ?_⟩
    rotate_right 1
    · repeat (first | with_reducible assumption | with_reducible refine o_dr _ ?_ | with_reducible refine o_d1 ?_ | with_reducible refine o_set ?_ | (with_reducible refine o_new ?_ ?_; (focus (simp [*])); (focus (simp))) | with_reducible refine o_al _ ?_ | (with_reducible apply o_be; with_reducible assumption))
    all_goals (first | with_reducible assumption | ((repeat (first | with_reducible assumption | with_reducible refine c_dr _ ?_ | with_reducible refine c_d1 ?_ | with_reducible refine c_al _ ?_ | (with_reducible refine c_set ?_ ?_; focus (dsimp only; omega)) | (with_reducible apply c_be; with_reducible assumption))); done) | ((repeat (first | with_reducible assumption | with_reducible refine o_dr _ ?_ | with_reducible refine o_d1 ?_ | with_reducible refine o_set ?_ | (with_reducible refine o_new ?_ ?_; (focus (simp)); (focus (simp))) | with_reducible refine o_al _ ?_ | (with_reducible apply o_be; with_reducible assumption))); done) | ((repeat (first | with_reducible assumption | with_reducible exact Below.refl _ _ | with_reducible refine Below.drew ?_ | with_reducible refine below_drewN ?_ _ | with_reducible refine bw_alloc ?_ _ | (with_reducible refine bw_set ?_ ?_ _; focus (dsimp only; omega)) | (with_reducible apply bw_behind; with_reducible assumption))); done) | (refine hT.behind ?_; (repeat (first | with_reducible assumption | with_reducible exact Below.refl _ _ | with_reducible refine Below.drew ?_ | with_reducible refine below_drewN ?_ _ | with_reducible refine bw_alloc ?_ _ | (with_reducible refine bw_set ?_ ?_ _; focus (dsimp only; omega)) | (with_reducible apply bw_behind; with_reducible assumption))); done) | (simp [go_sem, *]; omega) | (simp (maxDischargeDepth := 4) [go_sem, *]; done))
  rintro w2 ⟨hT2, hB2, x0, x1, x2, x3, x4, x5, x6, o2⟩
  obtain ⟨v0, e0⟩ := o2.val 0 (by omega)
  have d0 := o2.free 0 (by omega)
  obtain ⟨v1, e1⟩ := o2.val 1 (by omega)
  have d1 := o2.free 1 (by omega)
  obtain ⟨v2, e2⟩ := o2.val 2 (by omega)
  have d2 := o2.free 2 (by omega)
  obtain ⟨v3, e3⟩ := o2.val 3 (by omega)
  have d3 := o2.free 3 (by omega)
  obtain ⟨v4, e4⟩ := o2.val 4 (by omega)
  have d4 := o2.free 4 (by omega)
  go_upto_region 7 with fail
  refine wp_abs (fun W => TabW W ∧ Below w.heap.size w W ∧ W.cell? ⟨w.heap.size, 0, none⟩ = some (.int .i64 K) ∧ W.cell? ⟨w.heap.size, 1, none⟩ = some (.int .i64 a) ∧ W.cell? ⟨w.heap.size, 2, none⟩ = some (.int .i64 b) ∧ W.cell? ⟨w.heap.size, 3, none⟩ = some (.int .i64 c) ∧ W.cell? ⟨w.heap.size, 4, none⟩ = some (.int .i64 m) ∧ W.cell? ⟨w.heap.size + 1, 1, none⟩ = some (.int .i64 a2) ∧ W.cell? ⟨w.heap.size + 1, 2, none⟩ = some (.int .i64 b2) ∧ W.cell? ⟨w.heap.size + 1 + 1 + mA, 0, none⟩ = some (.int .i64 K) ∧ W.cell? ⟨w.heap.size + 1 + 1 + mA, 1, none⟩ = some (.int .i64 a) ∧ W.cell? ⟨w.heap.size + 1 + 1 + mA, 2, none⟩ = some (.int .i64 b2) ∧ W.cell? ⟨w.heap.size + 1 + 1 + mA, 3, none⟩ = some (.int .i64 c) ∧ W.cell? ⟨w.heap.size + 1 + 1 + mA, 4, none⟩ = some (.int .i64 m)) ?_ ?_
  · refine ⟨?_, ?_, ?_, ?_, ?_, ?_, ?_, ?_, ?_, ?_, ?_, ?_, ?_, ?_⟩
    · intro k hk
      have hne := World.block_lt_of_cell? _ _ (hT2 0 (by decide))
      have hx := hT2 k hk
      have hg : 0 < w.heap.size := hT.pos
      repeat (first | with_reducible assumption | with_reducible refine c_dr _ ?_ | with_reducible refine c_d1 ?_ | with_reducible refine c_al _ ?_ | (with_reducible refine c_set ?_ ?_; focus (dsimp only; omega)) | (with_reducible apply c_be; with_reducible assumption))
    · repeat (first | with_reducible assumption | with_reducible exact Below.refl _ _ | with_reducible refine Below.drew ?_ | with_reducible refine below_drewN ?_ _ | with_reducible refine bw_alloc ?_ _ | (with_reducible refine bw_set ?_ ?_ _; focus (dsimp only; omega)) | (with_reducible apply bw_behind; with_reducible assumption))
    · repeat (first | with_reducible assumption | with_reducible refine c_dr _ ?_ | with_reducible refine c_d1 ?_ | with_reducible refine c_al _ ?_ | (with_reducible refine c_set ?_ ?_; focus (dsimp only; omega)) | (with_reducible apply c_be; with_reducible assumption))
    · repeat (first | with_reducible assumption | with_reducible refine c_dr _ ?_ | with_reducible refine c_d1 ?_ | with_reducible refine c_al _ ?_ | (with_reducible refine c_set ?_ ?_; focus (dsimp only; omega)) | (with_reducible apply c_be; with_reducible assumption))
    · repeat (first | with_reducible assumption | with_reducible refine c_dr _ ?_ | with_reducible refine c_d1 ?_ | with_reducible refine c_al _ ?_ | (with_reducible refine c_set ?_ ?_; focus (dsimp only; omega)) | (with_reducible apply c_be; with_reducible assumption))
    · repeat (first | with_reducible assumption | with_reducible refine c_dr _ ?_ | with_reducible refine c_d1 ?_ | with_reducible refine c_al _ ?_ | (with_reducible refine c_set ?_ ?_; focus (dsimp only; omega)) | (with_reducible apply c_be; with_reducible assumption))
    · repeat (first | with_reducible assumption | with_reducible refine c_dr _ ?_ | with_reducible refine c_d1 ?_ | with_reducible refine c_al _ ?_ | (with_reducible refine c_set ?_ ?_; focus (dsimp only; omega)) | (with_reducible apply c_be; with_reducible assumption))
    · repeat (first | with_reducible assumption | with_reducible refine c_dr _ ?_ | with_reducible refine c_d1 ?_ | with_reducible refine c_al _ ?_ | (with_reducible refine c_set ?_ ?_; focus (dsimp only; omega)) | (with_reducible apply c_be; with_reducible assumption))
    · repeat (first | with_reducible assumption | with_reducible refine c_dr _ ?_ | with_reducible refine c_d1 ?_ | with_reducible refine c_al _ ?_ | (with_reducible refine c_set ?_ ?_; focus (dsimp only; omega)) | (with_reducible apply c_be; with_reducible assumption))
    · refine set_at (o_set (o_set (o_set (o_set (o_set o2))))) (by omega) ?_
      rw [if_neg (by omega)]
      refine set_at (o_set (o_set (o_set (o_set o2)))) (by omega) ?_
      rw [if_neg (by omega)]
      refine set_at (o_set (o_set (o_set o2))) (by omega) ?_
      rw [if_neg (by omega)]
      refine set_at (o_set (o_set o2)) (by omega) ?_
      rw [if_neg (by omega)]
      refine set_at (o_set o2) (by omega) ?_
      rw [if_neg (by omega)]
      refine set_at o2 (by omega) ?_
      rw [if_pos (by omega)]
    · refine set_at (o_set (o_set (o_set (o_set (o_set o2))))) (by omega) ?_
      rw [if_neg (by omega)]
      refine set_at (o_set (o_set (o_set (o_set o2)))) (by omega) ?_
      rw [if_neg (by omega)]
      refine set_at (o_set (o_set (o_set o2))) (by omega) ?_
      rw [if_neg (by omega)]
      refine set_at (o_set (o_set o2)) (by omega) ?_
      rw [if_neg (by omega)]
      refine set_at (o_set o2) (by omega) ?_
      rw [if_pos (by omega)]
    · refine set_at (o_set (o_set (o_set (o_set (o_set o2))))) (by omega) ?_
      rw [if_pos (by omega)]
    · refine set_at (o_set (o_set (o_set (o_set (o_set o2))))) (by omega) ?_
      rw [if_neg (by omega)]
      refine set_at (o_set (o_set (o_set (o_set o2)))) (by omega) ?_
      rw [if_neg (by omega)]
      refine set_at (o_set (o_set (o_set o2))) (by omega) ?_
      rw [if_pos (by omega)]
    · refine set_at (o_set (o_set (o_set (o_set (o_set o2))))) (by omega) ?_
      rw [if_neg (by omega)]
      refine set_at (o_set (o_set (o_set (o_set o2)))) (by omega) ?_
      rw [if_pos (by omega)]
  clear hT2 hB2 o2 x0 x1 x2 x3 x4 x5 x6
  rintro w3 ⟨hT3, hB3, y0, y1, y2, y3, y4, y5, y6, y7, y8, y9, y10, y11⟩
  have z1 : ltB w.heap.size w3.heap.size = true := by unfold ltB; simpa using World.block_lt_of_cell? _ _ y0
  have z2 : ltB (w.heap.size + 1) w3.heap.size = true := by unfold ltB; simpa using World.block_lt_of_cell? _ _ y5
  clear e0 e1 e2 e3 e4 d0 d1 d2 d3 d4
  go_wp2_with (first | (go_at_call 7; (first | ((with_reducible refine (Cg3.out _ ?_).mono ?_); (refine hT.behind ?_; repeat (first | with_reducible assumption | with_reducible exact Below.refl _ _ | with_reducible refine Below.drew ?_ | with_reducible refine below_drewN ?_ _ | with_reducible refine bw_alloc ?_ _ | (with_reducible refine bw_set ?_ ?_ _; focus (dsimp only; omega)) | (with_reducible apply bw_behind; with_reducible assumption))))); rintro e wC ⟨rfl, hbC⟩; have hrC := below_reads hbC; have hhC := below_holds hbC; obtain ⟨mC, hsC⟩ := below_grew hbC) | (go_at_call 11; (first | ((with_reducible refine (Cg9.out _ ?_).mono ?_); (refine hT.behind ?_; repeat (first | with_reducible assumption | with_reducible exact Below.refl _ _ | with_reducible refine Below.drew ?_ | with_reducible refine below_drewN ?_ _ | with_reducible refine bw_alloc ?_ _ | (with_reducible refine bw_set ?_ ?_ _; focus (dsimp only; omega)) | (with_reducible apply bw_behind; with_reducible assumption))))); rintro e wD ⟨rfl, hbD⟩; have hrD := below_reads hbD; have hhD := below_holds hbD; obtain ⟨mD, hsD⟩ := below_grew hbD) | (go_at_call 12; (first | ((with_reducible refine (Cg4.out _ ?_).mono ?_); (refine hT.behind ?_; repeat (first | with_reducible assumption | with_reducible exact Below.refl _ _ | with_reducible refine Below.drew ?_ | with_reducible refine below_drewN ?_ _ | with_reducible refine bw_alloc ?_ _ | (with_reducible refine bw_set ?_ ?_ _; focus (dsimp only; omega)) | (with_reducible apply bw_behind; with_reducible assumption))))); rintro e wE ⟨rfl, hbE⟩; have hrE := below_reads hbE; have hhE := below_holds hbE; obtain ⟨mE, hsE⟩ := below_grew hbE))
  all_goals (go_ret; refine ⟨rfl, ?_⟩; repeat (first | with_reducible assumption | with_reducible exact Below.refl _ _ | with_reducible refine Below.drew ?_ | with_reducible refine below_drewN ?_ _ | with_reducible refine bw_alloc ?_ _ | (with_reducible refine bw_set ?_ ?_ _; focus (dsimp only; omega)) | (with_reducible apply bw_behind; with_reducible assumption)))

set_option maxRecDepth 100000 in
set_option maxHeartbeats 4000000 in
theorem walk_B (K a b c m K2 a2 b2 c2 m2 X Y Z Q6 Q7 Q8 : Int)  (g1 : ∀ W, TabW W → Calls Tryd.prog 7 #[.agg #[.int .i64 K, .int .i64 a, .int .i64 b, .int .i64 c, .int .i64 m]] W (Makes (.tuple #[.int .u32 X, .bool true]) W)) (g2 : ∀ W, TabW W → Calls Tryd.prog 7 #[.agg #[.int .i64 K, .int .i64 a2, .int .i64 b, .int .i64 c, .int .i64 m]] W (Makes (.tuple #[.int .u32 Y, .bool true]) W)) (g3 : ∀ W, TabW W → Calls Tryd.prog 7 #[.agg #[.int .i64 K, .int .i64 a, .int .i64 b2, .int .i64 c, .int .i64 m]] W (Makes (.tuple #[.int .u32 Z, .bool true]) W)) (g9 : ∀ W, TabW W → Calls Tryd.prog 11 #[] W (Makes (.bool true) W)) (g4 : ∀ W, TabW W → Calls Tryd.prog 12 #[.int .i64 K] W (Makes (.int .u8 66) W)) (u1 : (X != Y) = false) (v1 : bits .xor .i64 b b2 = Q6) (v2 : IntKind.u32.wrap Q6 = Q7) (v3 : IntKind.u32.wrap (Q7 * 32768) = Q8) (v4 : bits .xor .u32 X Z = Q8) (w : World) (hT : TabW w) :
    Calls Tryd.prog 6 #[.agg #[.int .i64 K, .int .i64 a, .int .i64 b, .int .i64 c, .int .i64 m], .agg #[.int .i64 K2, .int .i64 a2, .int .i64 b2, .int .i64 c2, .int .i64 m2]] w (Makes (.bool true) w) := by
  have Cg1 := hide g1
  have Cg2 := hide g2
  have Cg3 := hide g3
  have Cg9 := hide g9
  have Cg4 := hide g4
  clear g1 g2 g3 g9 g4
  have SS := cell_same
  have LB' := ltB_add
  have LS := ltB_self
  have LA' := alloc_reads
  have LH := alloc_holds
  go_enter Tryd.func6, Tryd.ntmps6
  go_upto_region 5 with (first | (go_at_call 7; (first | ((with_reducible refine (Cg1.out _ ?_).mono ?_); (refine hT.behind ?_; repeat (first | with_reducible assumption | with_reducible exact Below.refl _ _ | with_reducible refine Below.drew ?_ | with_reducible refine below_drewN ?_ _ | with_reducible refine bw_alloc ?_ _ | (with_reducible refine bw_set ?_ ?_ _; focus (dsimp only; omega)) | (with_reducible apply bw_behind; with_reducible assumption))))); rintro e wA ⟨rfl, hbA⟩; have hrA := below_reads hbA; have hhA := below_holds hbA; obtain ⟨mA, hsA⟩ := below_grew hbA) | (go_at_call 7; (first | ((with_reducible refine (Cg2.out _ ?_).mono ?_); (refine hT.behind ?_; repeat (first | with_reducible assumption | with_reducible exact Below.refl _ _ | with_reducible refine Below.drew ?_ | with_reducible refine below_drewN ?_ _ | with_reducible refine bw_alloc ?_ _ | (with_reducible refine bw_set ?_ ?_ _; focus (dsimp only; omega)) | (with_reducible apply bw_behind; with_reducible assumption))))); rintro e wB ⟨rfl, hbB⟩; have hrB := below_reads hbB; have hhB := below_holds hbB; obtain ⟨mB, hsB⟩ := below_grew hbB))
  refine wp_abs (fun W => TabW W ∧ Below w.heap.size w W ∧ W.cell? ⟨w.heap.size, 0, none⟩ = some (.int .i64 K) ∧ W.cell? ⟨w.heap.size, 1, none⟩ = some (.int .i64 a) ∧ W.cell? ⟨w.heap.size, 2, none⟩ = some (.int .i64 b) ∧ W.cell? ⟨w.heap.size, 3, none⟩ = some (.int .i64 c) ∧ W.cell? ⟨w.heap.size, 4, none⟩ = some (.int .i64 m) ∧ W.cell? ⟨w.heap.size + 1, 1, none⟩ = some (.int .i64 a2) ∧ W.cell? ⟨w.heap.size + 1, 2, none⟩ = some (.int .i64 b2) ∧ Own W (w.heap.size + 1 + 1 + mA) 5) ?_ ?_
  · refine ⟨?_, ?_, ?_, ?_, ?_, ?_, ?_, ?_, ?_, ?_⟩
    rotate_right 1
    · repeat (first | with_reducible assumption | with_reducible refine o_dr _ ?_ | with_reducible refine o_d1 ?_ | with_reducible refine o_set ?_ | (with_reducible refine o_new ?_ ?_; (focus (simp [*])); (focus (simp))) | with_reducible refine o_al _ ?_ | (with_reducible apply o_be; with_reducible assumption))
    all_goals (first | with_reducible assumption | ((repeat (first | with_reducible assumption | with_reducible refine c_dr _ ?_ | with_reducible refine c_d1 ?_ | with_reducible refine c_al _ ?_ | (with_reducible refine c_set ?_ ?_; focus (dsimp only; omega)) | (with_reducible apply c_be; with_reducible assumption))); done) | ((repeat (first | with_reducible assumption | with_reducible refine o_dr _ ?_ | with_reducible refine o_d1 ?_ | with_reducible refine o_set ?_ | (with_reducible refine o_new ?_ ?_; (focus (simp)); (focus (simp))) | with_reducible refine o_al _ ?_ | (with_reducible apply o_be; with_reducible assumption))); done) | ((repeat (first | with_reducible assumption | with_reducible exact Below.refl _ _ | with_reducible refine Below.drew ?_ | with_reducible refine below_drewN ?_ _ | with_reducible refine bw_alloc ?_ _ | (with_reducible refine bw_set ?_ ?_ _; focus (dsimp only; omega)) | (with_reducible apply bw_behind; with_reducible assumption))); done) | (refine hT.behind ?_; (repeat (first | with_reducible assumption | with_reducible exact Below.refl _ _ | with_reducible refine Below.drew ?_ | with_reducible refine below_drewN ?_ _ | with_reducible refine bw_alloc ?_ _ | (with_reducible refine bw_set ?_ ?_ _; focus (dsimp only; omega)) | (with_reducible apply bw_behind; with_reducible assumption))); done) | (simp [go_sem, *]; omega) | (simp (maxDischargeDepth := 4) [go_sem, *]; done))
  rintro w2 ⟨hT2, hB2, x0, x1, x2, x3, x4, x5, x6, o2⟩
  obtain ⟨v0, e0⟩ := o2.val 0 (by omega)
  have d0 := o2.free 0 (by omega)
  obtain ⟨v1, e1⟩ := o2.val 1 (by omega)
  have d1 := o2.free 1 (by omega)
  obtain ⟨v2, e2⟩ := o2.val 2 (by omega)
  have d2 := o2.free 2 (by omega)
  obtain ⟨v3, e3⟩ := o2.val 3 (by omega)
  have d3 := o2.free 3 (by omega)
  obtain ⟨v4, e4⟩ := o2.val 4 (by omega)
  have d4 := o2.free 4 (by omega)
  go_upto_region 7 with fail
  refine wp_abs (fun W => TabW W ∧ Below w.heap.size w W ∧ W.cell? ⟨w.heap.size, 0, none⟩ = some (.int .i64 K) ∧ W.cell? ⟨w.heap.size, 1, none⟩ = some (.int .i64 a) ∧ W.cell? ⟨w.heap.size, 2, none⟩ = some (.int .i64 b) ∧ W.cell? ⟨w.heap.size, 3, none⟩ = some (.int .i64 c) ∧ W.cell? ⟨w.heap.size, 4, none⟩ = some (.int .i64 m) ∧ W.cell? ⟨w.heap.size + 1, 1, none⟩ = some (.int .i64 a2) ∧ W.cell? ⟨w.heap.size + 1, 2, none⟩ = some (.int .i64 b2) ∧ W.cell? ⟨w.heap.size + 1 + 1 + mA, 0, none⟩ = some (.int .i64 K) ∧ W.cell? ⟨w.heap.size + 1 + 1 + mA, 1, none⟩ = some (.int .i64 a) ∧ W.cell? ⟨w.heap.size + 1 + 1 + mA, 2, none⟩ = some (.int .i64 b2) ∧ W.cell? ⟨w.heap.size + 1 + 1 + mA, 3, none⟩ = some (.int .i64 c) ∧ W.cell? ⟨w.heap.size + 1 + 1 + mA, 4, none⟩ = some (.int .i64 m)) ?_ ?_
  · refine ⟨?_, ?_, ?_, ?_, ?_, ?_, ?_, ?_, ?_, ?_, ?_, ?_, ?_, ?_⟩
    · intro k hk
      have hne := World.block_lt_of_cell? _ _ (hT2 0 (by decide))
      have hx := hT2 k hk
      have hg : 0 < w.heap.size := hT.pos
      repeat (first | with_reducible assumption | with_reducible refine c_dr _ ?_ | with_reducible refine c_d1 ?_ | with_reducible refine c_al _ ?_ | (with_reducible refine c_set ?_ ?_; focus (dsimp only; omega)) | (with_reducible apply c_be; with_reducible assumption))
    · repeat (first | with_reducible assumption | with_reducible exact Below.refl _ _ | with_reducible refine Below.drew ?_ | with_reducible refine below_drewN ?_ _ | with_reducible refine bw_alloc ?_ _ | (with_reducible refine bw_set ?_ ?_ _; focus (dsimp only; omega)) | (with_reducible apply bw_behind; with_reducible assumption))
    · repeat (first | with_reducible assumption | with_reducible refine c_dr _ ?_ | with_reducible refine c_d1 ?_ | with_reducible refine c_al _ ?_ | (with_reducible refine c_set ?_ ?_; focus (dsimp only; omega)) | (with_reducible apply c_be; with_reducible assumption))
    · repeat (first | with_reducible assumption | with_reducible refine c_dr _ ?_ | with_reducible refine c_d1 ?_ | with_reducible refine c_al _ ?_ | (with_reducible refine c_set ?_ ?_; focus (dsimp only; omega)) | (with_reducible apply c_be; with_reducible assumption))
    · repeat (first | with_reducible assumption | with_reducible refine c_dr _ ?_ | with_reducible refine c_d1 ?_ | with_reducible refine c_al _ ?_ | (with_reducible refine c_set ?_ ?_; focus (dsimp only; omega)) | (with_reducible apply c_be; with_reducible assumption))
    · repeat (first | with_reducible assumption | with_reducible refine c_dr _ ?_ | with_reducible refine c_d1 ?_ | with_reducible refine c_al _ ?_ | (with_reducible refine c_set ?_ ?_; focus (dsimp only; omega)) | (with_reducible apply c_be; with_reducible assumption))
    · repeat (first | with_reducible assumption | with_reducible refine c_dr _ ?_ | with_reducible refine c_d1 ?_ | with_reducible refine c_al _ ?_ | (with_reducible refine c_set ?_ ?_; focus (dsimp only; omega)) | (with_reducible apply c_be; with_reducible assumption))
    · repeat (first | with_reducible assumption | with_reducible refine c_dr _ ?_ | with_reducible refine c_d1 ?_ | with_reducible refine c_al _ ?_ | (with_reducible refine c_set ?_ ?_; focus (dsimp only; omega)) | (with_reducible apply c_be; with_reducible assumption))
    · repeat (first | with_reducible assumption | with_reducible refine c_dr _ ?_ | with_reducible refine c_d1 ?_ | with_reducible refine c_al _ ?_ | (with_reducible refine c_set ?_ ?_; focus (dsimp only; omega)) | (with_reducible apply c_be; with_reducible assumption))
    · refine set_at (o_set (o_set (o_set (o_set (o_set o2))))) (by omega) ?_
      rw [if_neg (by omega)]
      refine set_at (o_set (o_set (o_set (o_set o2)))) (by omega) ?_
      rw [if_neg (by omega)]
      refine set_at (o_set (o_set (o_set o2))) (by omega) ?_
      rw [if_neg (by omega)]
      refine set_at (o_set (o_set o2)) (by omega) ?_
      rw [if_neg (by omega)]
      refine set_at (o_set o2) (by omega) ?_
      rw [if_neg (by omega)]
      refine set_at o2 (by omega) ?_
      rw [if_pos (by omega)]
    · refine set_at (o_set (o_set (o_set (o_set (o_set o2))))) (by omega) ?_
      rw [if_neg (by omega)]
      refine set_at (o_set (o_set (o_set (o_set o2)))) (by omega) ?_
      rw [if_neg (by omega)]
      refine set_at (o_set (o_set (o_set o2))) (by omega) ?_
      rw [if_neg (by omega)]
      refine set_at (o_set (o_set o2)) (by omega) ?_
      rw [if_neg (by omega)]
      refine set_at (o_set o2) (by omega) ?_
      rw [if_pos (by omega)]
    · refine set_at (o_set (o_set (o_set (o_set (o_set o2))))) (by omega) ?_
      rw [if_pos (by omega)]
    · refine set_at (o_set (o_set (o_set (o_set (o_set o2))))) (by omega) ?_
      rw [if_neg (by omega)]
      refine set_at (o_set (o_set (o_set (o_set o2)))) (by omega) ?_
      rw [if_neg (by omega)]
      refine set_at (o_set (o_set (o_set o2))) (by omega) ?_
      rw [if_pos (by omega)]
    · refine set_at (o_set (o_set (o_set (o_set (o_set o2))))) (by omega) ?_
      rw [if_neg (by omega)]
      refine set_at (o_set (o_set (o_set (o_set o2)))) (by omega) ?_
      rw [if_pos (by omega)]
  clear hT2 hB2 o2 x0 x1 x2 x3 x4 x5 x6
  rintro w3 ⟨hT3, hB3, y0, y1, y2, y3, y4, y5, y6, y7, y8, y9, y10, y11⟩
  have z1 : ltB w.heap.size w3.heap.size = true := by unfold ltB; simpa using World.block_lt_of_cell? _ _ y0
  have z2 : ltB (w.heap.size + 1) w3.heap.size = true := by unfold ltB; simpa using World.block_lt_of_cell? _ _ y5
  clear e0 e1 e2 e3 e4 d0 d1 d2 d3 d4
  go_wp2_with (first | (go_at_call 7; (first | ((with_reducible refine (Cg3.out _ ?_).mono ?_); (refine hT.behind ?_; repeat (first | with_reducible assumption | with_reducible exact Below.refl _ _ | with_reducible refine Below.drew ?_ | with_reducible refine below_drewN ?_ _ | with_reducible refine bw_alloc ?_ _ | (with_reducible refine bw_set ?_ ?_ _; focus (dsimp only; omega)) | (with_reducible apply bw_behind; with_reducible assumption))))); rintro e wC ⟨rfl, hbC⟩; have hrC := below_reads hbC; have hhC := below_holds hbC; obtain ⟨mC, hsC⟩ := below_grew hbC) | (go_at_call 11; (first | ((with_reducible refine (Cg9.out _ ?_).mono ?_); (refine hT.behind ?_; repeat (first | with_reducible assumption | with_reducible exact Below.refl _ _ | with_reducible refine Below.drew ?_ | with_reducible refine below_drewN ?_ _ | with_reducible refine bw_alloc ?_ _ | (with_reducible refine bw_set ?_ ?_ _; focus (dsimp only; omega)) | (with_reducible apply bw_behind; with_reducible assumption))))); rintro e wD ⟨rfl, hbD⟩; have hrD := below_reads hbD; have hhD := below_holds hbD; obtain ⟨mD, hsD⟩ := below_grew hbD) | (go_at_call 12; (first | ((with_reducible refine (Cg4.out _ ?_).mono ?_); (refine hT.behind ?_; repeat (first | with_reducible assumption | with_reducible exact Below.refl _ _ | with_reducible refine Below.drew ?_ | with_reducible refine below_drewN ?_ _ | with_reducible refine bw_alloc ?_ _ | (with_reducible refine bw_set ?_ ?_ _; focus (dsimp only; omega)) | (with_reducible apply bw_behind; with_reducible assumption))))); rintro e wE ⟨rfl, hbE⟩; have hrE := below_reads hbE; have hhE := below_holds hbE; obtain ⟨mE, hsE⟩ := below_grew hbE))
  all_goals (go_ret; refine ⟨rfl, ?_⟩; repeat (first | with_reducible assumption | with_reducible exact Below.refl _ _ | with_reducible refine Below.drew ?_ | with_reducible refine below_drewN ?_ _ | with_reducible refine bw_alloc ?_ _ | (with_reducible refine bw_set ?_ ?_ _; focus (dsimp only; omega)) | (with_reducible apply bw_behind; with_reducible assumption)))

set_option maxRecDepth 100000 in
set_option maxHeartbeats 4000000 in
theorem walk_U (K a b c m K2 a2 b2 c2 m2 X Y Z Q1 Q2 Q3 Q4 Q5 : Int)  (g1 : ∀ W, TabW W → Calls Tryd.prog 7 #[.agg #[.int .i64 K, .int .i64 a, .int .i64 b, .int .i64 c, .int .i64 m]] W (Makes (.tuple #[.int .u32 X, .bool true]) W)) (g2 : ∀ W, TabW W → Calls Tryd.prog 7 #[.agg #[.int .i64 K, .int .i64 a2, .int .i64 b, .int .i64 c, .int .i64 m]] W (Makes (.tuple #[.int .u32 Y, .bool true]) W)) (g3 : ∀ W, TabW W → Calls Tryd.prog 7 #[.agg #[.int .i64 K, .int .i64 a, .int .i64 b2, .int .i64 c, .int .i64 m]] W (Makes (.tuple #[.int .u32 Z, .bool true]) W)) (g9 : ∀ W, TabW W → Calls Tryd.prog 11 #[] W (Makes (.bool true) W)) (g4 : ∀ W, TabW W → Calls Tryd.prog 12 #[.int .i64 K] W (Makes (.int .u8 85) W)) (t1 : bits .xor .i64 a a2 = Q1) (t2 : IntKind.u32.wrap Q1 = Q2) (t3 : IntKind.u32.wrap (Q2 * 128) = Q3) (t4 : bits .and .u32 Q3 3968 = Q4) (t5 : bits .xor .u32 X Y = Q5) (t6 : (Q5 != Q4) = false) (w1 : (X != Z) = false) (w : World) (hT : TabW w) :
    Calls Tryd.prog 6 #[.agg #[.int .i64 K, .int .i64 a, .int .i64 b, .int .i64 c, .int .i64 m], .agg #[.int .i64 K2, .int .i64 a2, .int .i64 b2, .int .i64 c2, .int .i64 m2]] w (Makes (.bool true) w) := by
  have Cg1 := hide g1
  have Cg2 := hide g2
  have Cg3 := hide g3
  have Cg9 := hide g9
  have Cg4 := hide g4
  clear g1 g2 g3 g9 g4
  have SS := cell_same
  have LB' := ltB_add
  have LS := ltB_self
  have LA' := alloc_reads
  have LH := alloc_holds
  go_enter Tryd.func6, Tryd.ntmps6
  go_upto_region 5 with (first | (go_at_call 7; (first | ((with_reducible refine (Cg1.out _ ?_).mono ?_); (refine hT.behind ?_; repeat (first | with_reducible assumption | with_reducible exact Below.refl _ _ | with_reducible refine Below.drew ?_ | with_reducible refine below_drewN ?_ _ | with_reducible refine bw_alloc ?_ _ | (with_reducible refine bw_set ?_ ?_ _; focus (dsimp only; omega)) | (with_reducible apply bw_behind; with_reducible assumption))))); rintro e wA ⟨rfl, hbA⟩; have hrA := below_reads hbA; have hhA := below_holds hbA; obtain ⟨mA, hsA⟩ := below_grew hbA) | (go_at_call 7; (first | ((with_reducible refine (Cg2.out _ ?_).mono ?_); (refine hT.behind ?_; repeat (first | with_reducible assumption | with_reducible exact Below.refl _ _ | with_reducible refine Below.drew ?_ | with_reducible refine below_drewN ?_ _ | with_reducible refine bw_alloc ?_ _ | (with_reducible refine bw_set ?_ ?_ _; focus (dsimp only; omega)) | (with_reducible apply bw_behind; with_reducible assumption))))); rintro e wB ⟨rfl, hbB⟩; have hrB := below_reads hbB; have hhB := below_holds hbB; obtain ⟨mB, hsB⟩ := below_grew hbB))
  refine wp_abs (fun W => TabW W ∧ Below w.heap.size w W ∧ W.cell? ⟨w.heap.size, 0, none⟩ = some (.int .i64 K) ∧ W.cell? ⟨w.heap.size, 1, none⟩ = some (.int .i64 a) ∧ W.cell? ⟨w.heap.size, 2, none⟩ = some (.int .i64 b) ∧ W.cell? ⟨w.heap.size, 3, none⟩ = some (.int .i64 c) ∧ W.cell? ⟨w.heap.size, 4, none⟩ = some (.int .i64 m) ∧ W.cell? ⟨w.heap.size + 1, 1, none⟩ = some (.int .i64 a2) ∧ W.cell? ⟨w.heap.size + 1, 2, none⟩ = some (.int .i64 b2) ∧ Own W (w.heap.size + 1 + 1 + mA) 5) ?_ ?_
  · refine ⟨?_, ?_, ?_, ?_, ?_, ?_, ?_, ?_, ?_, ?_⟩
    rotate_right 1
    · repeat (first | with_reducible assumption | with_reducible refine o_dr _ ?_ | with_reducible refine o_d1 ?_ | with_reducible refine o_set ?_ | (with_reducible refine o_new ?_ ?_; (focus (simp [*])); (focus (simp))) | with_reducible refine o_al _ ?_ | (with_reducible apply o_be; with_reducible assumption))
    all_goals (first | with_reducible assumption | ((repeat (first | with_reducible assumption | with_reducible refine c_dr _ ?_ | with_reducible refine c_d1 ?_ | with_reducible refine c_al _ ?_ | (with_reducible refine c_set ?_ ?_; focus (dsimp only; omega)) | (with_reducible apply c_be; with_reducible assumption))); done) | ((repeat (first | with_reducible assumption | with_reducible refine o_dr _ ?_ | with_reducible refine o_d1 ?_ | with_reducible refine o_set ?_ | (with_reducible refine o_new ?_ ?_; (focus (simp)); (focus (simp))) | with_reducible refine o_al _ ?_ | (with_reducible apply o_be; with_reducible assumption))); done) | ((repeat (first | with_reducible assumption | with_reducible exact Below.refl _ _ | with_reducible refine Below.drew ?_ | with_reducible refine below_drewN ?_ _ | with_reducible refine bw_alloc ?_ _ | (with_reducible refine bw_set ?_ ?_ _; focus (dsimp only; omega)) | (with_reducible apply bw_behind; with_reducible assumption))); done) | (refine hT.behind ?_; (repeat (first | with_reducible assumption | with_reducible exact Below.refl _ _ | with_reducible refine Below.drew ?_ | with_reducible refine below_drewN ?_ _ | with_reducible refine bw_alloc ?_ _ | (with_reducible refine bw_set ?_ ?_ _; focus (dsimp only; omega)) | (with_reducible apply bw_behind; with_reducible assumption))); done) | (simp [go_sem, *]; omega) | (simp (maxDischargeDepth := 4) [go_sem, *]; done))
  rintro w2 ⟨hT2, hB2, x0, x1, x2, x3, x4, x5, x6, o2⟩
  obtain ⟨v0, e0⟩ := o2.val 0 (by omega)
  have d0 := o2.free 0 (by omega)
  obtain ⟨v1, e1⟩ := o2.val 1 (by omega)
  have d1 := o2.free 1 (by omega)
  obtain ⟨v2, e2⟩ := o2.val 2 (by omega)
  have d2 := o2.free 2 (by omega)
  obtain ⟨v3, e3⟩ := o2.val 3 (by omega)
  have d3 := o2.free 3 (by omega)
  obtain ⟨v4, e4⟩ := o2.val 4 (by omega)
  have d4 := o2.free 4 (by omega)
  go_upto_region 7 with fail
  refine wp_abs (fun W => TabW W ∧ Below w.heap.size w W ∧ W.cell? ⟨w.heap.size, 0, none⟩ = some (.int .i64 K) ∧ W.cell? ⟨w.heap.size, 1, none⟩ = some (.int .i64 a) ∧ W.cell? ⟨w.heap.size, 2, none⟩ = some (.int .i64 b) ∧ W.cell? ⟨w.heap.size, 3, none⟩ = some (.int .i64 c) ∧ W.cell? ⟨w.heap.size, 4, none⟩ = some (.int .i64 m) ∧ W.cell? ⟨w.heap.size + 1, 1, none⟩ = some (.int .i64 a2) ∧ W.cell? ⟨w.heap.size + 1, 2, none⟩ = some (.int .i64 b2) ∧ W.cell? ⟨w.heap.size + 1 + 1 + mA, 0, none⟩ = some (.int .i64 K) ∧ W.cell? ⟨w.heap.size + 1 + 1 + mA, 1, none⟩ = some (.int .i64 a) ∧ W.cell? ⟨w.heap.size + 1 + 1 + mA, 2, none⟩ = some (.int .i64 b2) ∧ W.cell? ⟨w.heap.size + 1 + 1 + mA, 3, none⟩ = some (.int .i64 c) ∧ W.cell? ⟨w.heap.size + 1 + 1 + mA, 4, none⟩ = some (.int .i64 m)) ?_ ?_
  · refine ⟨?_, ?_, ?_, ?_, ?_, ?_, ?_, ?_, ?_, ?_, ?_, ?_, ?_, ?_⟩
    · intro k hk
      have hne := World.block_lt_of_cell? _ _ (hT2 0 (by decide))
      have hx := hT2 k hk
      have hg : 0 < w.heap.size := hT.pos
      repeat (first | with_reducible assumption | with_reducible refine c_dr _ ?_ | with_reducible refine c_d1 ?_ | with_reducible refine c_al _ ?_ | (with_reducible refine c_set ?_ ?_; focus (dsimp only; omega)) | (with_reducible apply c_be; with_reducible assumption))
    · repeat (first | with_reducible assumption | with_reducible exact Below.refl _ _ | with_reducible refine Below.drew ?_ | with_reducible refine below_drewN ?_ _ | with_reducible refine bw_alloc ?_ _ | (with_reducible refine bw_set ?_ ?_ _; focus (dsimp only; omega)) | (with_reducible apply bw_behind; with_reducible assumption))
    · repeat (first | with_reducible assumption | with_reducible refine c_dr _ ?_ | with_reducible refine c_d1 ?_ | with_reducible refine c_al _ ?_ | (with_reducible refine c_set ?_ ?_; focus (dsimp only; omega)) | (with_reducible apply c_be; with_reducible assumption))
    · repeat (first | with_reducible assumption | with_reducible refine c_dr _ ?_ | with_reducible refine c_d1 ?_ | with_reducible refine c_al _ ?_ | (with_reducible refine c_set ?_ ?_; focus (dsimp only; omega)) | (with_reducible apply c_be; with_reducible assumption))
    · repeat (first | with_reducible assumption | with_reducible refine c_dr _ ?_ | with_reducible refine c_d1 ?_ | with_reducible refine c_al _ ?_ | (with_reducible refine c_set ?_ ?_; focus (dsimp only; omega)) | (with_reducible apply c_be; with_reducible assumption))
    · repeat (first | with_reducible assumption | with_reducible refine c_dr _ ?_ | with_reducible refine c_d1 ?_ | with_reducible refine c_al _ ?_ | (with_reducible refine c_set ?_ ?_; focus (dsimp only; omega)) | (with_reducible apply c_be; with_reducible assumption))
    · repeat (first | with_reducible assumption | with_reducible refine c_dr _ ?_ | with_reducible refine c_d1 ?_ | with_reducible refine c_al _ ?_ | (with_reducible refine c_set ?_ ?_; focus (dsimp only; omega)) | (with_reducible apply c_be; with_reducible assumption))
    · repeat (first | with_reducible assumption | with_reducible refine c_dr _ ?_ | with_reducible refine c_d1 ?_ | with_reducible refine c_al _ ?_ | (with_reducible refine c_set ?_ ?_; focus (dsimp only; omega)) | (with_reducible apply c_be; with_reducible assumption))
    · repeat (first | with_reducible assumption | with_reducible refine c_dr _ ?_ | with_reducible refine c_d1 ?_ | with_reducible refine c_al _ ?_ | (with_reducible refine c_set ?_ ?_; focus (dsimp only; omega)) | (with_reducible apply c_be; with_reducible assumption))
    · refine set_at (o_set (o_set (o_set (o_set (o_set o2))))) (by omega) ?_
      rw [if_neg (by omega)]
      refine set_at (o_set (o_set (o_set (o_set o2)))) (by omega) ?_
      rw [if_neg (by omega)]
      refine set_at (o_set (o_set (o_set o2))) (by omega) ?_
      rw [if_neg (by omega)]
      refine set_at (o_set (o_set o2)) (by omega) ?_
      rw [if_neg (by omega)]
      refine set_at (o_set o2) (by omega) ?_
      rw [if_neg (by omega)]
      refine set_at o2 (by omega) ?_
      rw [if_pos (by omega)]
    · refine set_at (o_set (o_set (o_set (o_set (o_set o2))))) (by omega) ?_
      rw [if_neg (by omega)]
      refine set_at (o_set (o_set (o_set (o_set o2)))) (by omega) ?_
      rw [if_neg (by omega)]
      refine set_at (o_set (o_set (o_set o2))) (by omega) ?_
      rw [if_neg (by omega)]
      refine set_at (o_set (o_set o2)) (by omega) ?_
      rw [if_neg (by omega)]
      refine set_at (o_set o2) (by omega) ?_
      rw [if_pos (by omega)]
    · refine set_at (o_set (o_set (o_set (o_set (o_set o2))))) (by omega) ?_
      rw [if_pos (by omega)]
    · refine set_at (o_set (o_set (o_set (o_set (o_set o2))))) (by omega) ?_
      rw [if_neg (by omega)]
      refine set_at (o_set (o_set (o_set (o_set o2)))) (by omega) ?_
      rw [if_neg (by omega)]
      refine set_at (o_set (o_set (o_set o2))) (by omega) ?_
      rw [if_pos (by omega)]
    · refine set_at (o_set (o_set (o_set (o_set (o_set o2))))) (by omega) ?_
      rw [if_neg (by omega)]
      refine set_at (o_set (o_set (o_set (o_set o2)))) (by omega) ?_
      rw [if_pos (by omega)]
  clear hT2 hB2 o2 x0 x1 x2 x3 x4 x5 x6
  rintro w3 ⟨hT3, hB3, y0, y1, y2, y3, y4, y5, y6, y7, y8, y9, y10, y11⟩
  have z1 : ltB w.heap.size w3.heap.size = true := by unfold ltB; simpa using World.block_lt_of_cell? _ _ y0
  have z2 : ltB (w.heap.size + 1) w3.heap.size = true := by unfold ltB; simpa using World.block_lt_of_cell? _ _ y5
  clear e0 e1 e2 e3 e4 d0 d1 d2 d3 d4
  go_wp2_with (first | (go_at_call 7; (first | ((with_reducible refine (Cg3.out _ ?_).mono ?_); (refine hT.behind ?_; repeat (first | with_reducible assumption | with_reducible exact Below.refl _ _ | with_reducible refine Below.drew ?_ | with_reducible refine below_drewN ?_ _ | with_reducible refine bw_alloc ?_ _ | (with_reducible refine bw_set ?_ ?_ _; focus (dsimp only; omega)) | (with_reducible apply bw_behind; with_reducible assumption))))); rintro e wC ⟨rfl, hbC⟩; have hrC := below_reads hbC; have hhC := below_holds hbC; obtain ⟨mC, hsC⟩ := below_grew hbC) | (go_at_call 11; (first | ((with_reducible refine (Cg9.out _ ?_).mono ?_); (refine hT.behind ?_; repeat (first | with_reducible assumption | with_reducible exact Below.refl _ _ | with_reducible refine Below.drew ?_ | with_reducible refine below_drewN ?_ _ | with_reducible refine bw_alloc ?_ _ | (with_reducible refine bw_set ?_ ?_ _; focus (dsimp only; omega)) | (with_reducible apply bw_behind; with_reducible assumption))))); rintro e wD ⟨rfl, hbD⟩; have hrD := below_reads hbD; have hhD := below_holds hbD; obtain ⟨mD, hsD⟩ := below_grew hbD) | (go_at_call 12; (first | ((with_reducible refine (Cg4.out _ ?_).mono ?_); (refine hT.behind ?_; repeat (first | with_reducible assumption | with_reducible exact Below.refl _ _ | with_reducible refine Below.drew ?_ | with_reducible refine below_drewN ?_ _ | with_reducible refine bw_alloc ?_ _ | (with_reducible refine bw_set ?_ ?_ _; focus (dsimp only; omega)) | (with_reducible apply bw_behind; with_reducible assumption))))); rintro e wE ⟨rfl, hbE⟩; have hrE := below_reads hbE; have hhE := below_holds hbE; obtain ⟨mE, hsE⟩ := below_grew hbE))
  all_goals (go_ret; refine ⟨rfl, ?_⟩; repeat (first | with_reducible assumption | with_reducible exact Below.refl _ _ | with_reducible refine Below.drew ?_ | with_reducible refine below_drewN ?_ _ | with_reducible refine bw_alloc ?_ _ | (with_reducible refine bw_set ?_ ?_ _; focus (dsimp only; omega)) | (with_reducible apply bw_behind; with_reducible assumption)))

set_option maxRecDepth 100000 in
set_option maxHeartbeats 4000000 in
theorem walk_J (K a b c m K2 a2 b2 c2 m2 X Y Z Q1 Q2 Q3 Q4 Q5 : Int)  (g1 : ∀ W, TabW W → Calls Tryd.prog 7 #[.agg #[.int .i64 K, .int .i64 a, .int .i64 b, .int .i64 c, .int .i64 m]] W (Makes (.tuple #[.int .u32 X, .bool true]) W)) (g2 : ∀ W, TabW W → Calls Tryd.prog 7 #[.agg #[.int .i64 K, .int .i64 a2, .int .i64 b, .int .i64 c, .int .i64 m]] W (Makes (.tuple #[.int .u32 Y, .bool true]) W)) (g3 : ∀ W, TabW W → Calls Tryd.prog 7 #[.agg #[.int .i64 K, .int .i64 a, .int .i64 b2, .int .i64 c, .int .i64 m]] W (Makes (.tuple #[.int .u32 Z, .bool true]) W)) (g9 : ∀ W, TabW W → Calls Tryd.prog 11 #[] W (Makes (.bool true) W)) (g4 : ∀ W, TabW W → Calls Tryd.prog 12 #[.int .i64 K] W (Makes (.int .u8 74) W)) (t1 : bits .xor .i64 a a2 = Q1) (t2 : IntKind.u32.wrap Q1 = Q2) (t3 : IntKind.u32.wrap (Q2 * 128) = Q3) (t4 : bits .and .u32 Q3 3968 = Q4) (t5 : bits .xor .u32 X Y = Q5) (t6 : (Q5 != Q4) = false) (w1 : (X != Z) = false) (w : World) (hT : TabW w) :
    Calls Tryd.prog 6 #[.agg #[.int .i64 K, .int .i64 a, .int .i64 b, .int .i64 c, .int .i64 m], .agg #[.int .i64 K2, .int .i64 a2, .int .i64 b2, .int .i64 c2, .int .i64 m2]] w (Makes (.bool true) w) := by
  have Cg1 := hide g1
  have Cg2 := hide g2
  have Cg3 := hide g3
  have Cg9 := hide g9
  have Cg4 := hide g4
  clear g1 g2 g3 g9 g4
  have SS := cell_same
  have LB' := ltB_add
  have LS := ltB_self
  have LA' := alloc_reads
  have LH := alloc_holds
  go_enter Tryd.func6, Tryd.ntmps6
  go_upto_region 5 with (first | (go_at_call 7; (first | ((with_reducible refine (Cg1.out _ ?_).mono ?_); (refine hT.behind ?_; repeat (first | with_reducible assumption | with_reducible exact Below.refl _ _ | with_reducible refine Below.drew ?_ | with_reducible refine below_drewN ?_ _ | with_reducible refine bw_alloc ?_ _ | (with_reducible refine bw_set ?_ ?_ _; focus (dsimp only; omega)) | (with_reducible apply bw_behind; with_reducible assumption))))); rintro e wA ⟨rfl, hbA⟩; have hrA := below_reads hbA; have hhA := below_holds hbA; obtain ⟨mA, hsA⟩ := below_grew hbA) | (go_at_call 7; (first | ((with_reducible refine (Cg2.out _ ?_).mono ?_); (refine hT.behind ?_; repeat (first | with_reducible assumption | with_reducible exact Below.refl _ _ | with_reducible refine Below.drew ?_ | with_reducible refine below_drewN ?_ _ | with_reducible refine bw_alloc ?_ _ | (with_reducible refine bw_set ?_ ?_ _; focus (dsimp only; omega)) | (with_reducible apply bw_behind; with_reducible assumption))))); rintro e wB ⟨rfl, hbB⟩; have hrB := below_reads hbB; have hhB := below_holds hbB; obtain ⟨mB, hsB⟩ := below_grew hbB))
  refine wp_abs (fun W => TabW W ∧ Below w.heap.size w W ∧ W.cell? ⟨w.heap.size, 0, none⟩ = some (.int .i64 K) ∧ W.cell? ⟨w.heap.size, 1, none⟩ = some (.int .i64 a) ∧ W.cell? ⟨w.heap.size, 2, none⟩ = some (.int .i64 b) ∧ W.cell? ⟨w.heap.size, 3, none⟩ = some (.int .i64 c) ∧ W.cell? ⟨w.heap.size, 4, none⟩ = some (.int .i64 m) ∧ W.cell? ⟨w.heap.size + 1, 1, none⟩ = some (.int .i64 a2) ∧ W.cell? ⟨w.heap.size + 1, 2, none⟩ = some (.int .i64 b2) ∧ Own W (w.heap.size + 1 + 1 + mA) 5) ?_ ?_
  · refine ⟨?_, ?_, ?_, ?_, ?_, ?_, ?_, ?_, ?_, ?_⟩
    rotate_right 1
    · repeat (first | with_reducible assumption | with_reducible refine o_dr _ ?_ | with_reducible refine o_d1 ?_ | with_reducible refine o_set ?_ | (with_reducible refine o_new ?_ ?_; (focus (simp [*])); (focus (simp))) | with_reducible refine o_al _ ?_ | (with_reducible apply o_be; with_reducible assumption))
    all_goals (first | with_reducible assumption | ((repeat (first | with_reducible assumption | with_reducible refine c_dr _ ?_ | with_reducible refine c_d1 ?_ | with_reducible refine c_al _ ?_ | (with_reducible refine c_set ?_ ?_; focus (dsimp only; omega)) | (with_reducible apply c_be; with_reducible assumption))); done) | ((repeat (first | with_reducible assumption | with_reducible refine o_dr _ ?_ | with_reducible refine o_d1 ?_ | with_reducible refine o_set ?_ | (with_reducible refine o_new ?_ ?_; (focus (simp)); (focus (simp))) | with_reducible refine o_al _ ?_ | (with_reducible apply o_be; with_reducible assumption))); done) | ((repeat (first | with_reducible assumption | with_reducible exact Below.refl _ _ | with_reducible refine Below.drew ?_ | with_reducible refine below_drewN ?_ _ | with_reducible refine bw_alloc ?_ _ | (with_reducible refine bw_set ?_ ?_ _; focus (dsimp only; omega)) | (with_reducible apply bw_behind; with_reducible assumption))); done) | (refine hT.behind ?_; (repeat (first | with_reducible assumption | with_reducible exact Below.refl _ _ | with_reducible refine Below.drew ?_ | with_reducible refine below_drewN ?_ _ | with_reducible refine bw_alloc ?_ _ | (with_reducible refine bw_set ?_ ?_ _; focus (dsimp only; omega)) | (with_reducible apply bw_behind; with_reducible assumption))); done) | (simp [go_sem, *]; omega) | (simp (maxDischargeDepth := 4) [go_sem, *]; done))
  rintro w2 ⟨hT2, hB2, x0, x1, x2, x3, x4, x5, x6, o2⟩
  obtain ⟨v0, e0⟩ := o2.val 0 (by omega)
  have d0 := o2.free 0 (by omega)
  obtain ⟨v1, e1⟩ := o2.val 1 (by omega)
  have d1 := o2.free 1 (by omega)
  obtain ⟨v2, e2⟩ := o2.val 2 (by omega)
  have d2 := o2.free 2 (by omega)
  obtain ⟨v3, e3⟩ := o2.val 3 (by omega)
  have d3 := o2.free 3 (by omega)
  obtain ⟨v4, e4⟩ := o2.val 4 (by omega)
  have d4 := o2.free 4 (by omega)
  go_upto_region 7 with fail
  refine wp_abs (fun W => TabW W ∧ Below w.heap.size w W ∧ W.cell? ⟨w.heap.size, 0, none⟩ = some (.int .i64 K) ∧ W.cell? ⟨w.heap.size, 1, none⟩ = some (.int .i64 a) ∧ W.cell? ⟨w.heap.size, 2, none⟩ = some (.int .i64 b) ∧ W.cell? ⟨w.heap.size, 3, none⟩ = some (.int .i64 c) ∧ W.cell? ⟨w.heap.size, 4, none⟩ = some (.int .i64 m) ∧ W.cell? ⟨w.heap.size + 1, 1, none⟩ = some (.int .i64 a2) ∧ W.cell? ⟨w.heap.size + 1, 2, none⟩ = some (.int .i64 b2) ∧ W.cell? ⟨w.heap.size + 1 + 1 + mA, 0, none⟩ = some (.int .i64 K) ∧ W.cell? ⟨w.heap.size + 1 + 1 + mA, 1, none⟩ = some (.int .i64 a) ∧ W.cell? ⟨w.heap.size + 1 + 1 + mA, 2, none⟩ = some (.int .i64 b2) ∧ W.cell? ⟨w.heap.size + 1 + 1 + mA, 3, none⟩ = some (.int .i64 c) ∧ W.cell? ⟨w.heap.size + 1 + 1 + mA, 4, none⟩ = some (.int .i64 m)) ?_ ?_
  · refine ⟨?_, ?_, ?_, ?_, ?_, ?_, ?_, ?_, ?_, ?_, ?_, ?_, ?_, ?_⟩
    · intro k hk
      have hne := World.block_lt_of_cell? _ _ (hT2 0 (by decide))
      have hx := hT2 k hk
      have hg : 0 < w.heap.size := hT.pos
      repeat (first | with_reducible assumption | with_reducible refine c_dr _ ?_ | with_reducible refine c_d1 ?_ | with_reducible refine c_al _ ?_ | (with_reducible refine c_set ?_ ?_; focus (dsimp only; omega)) | (with_reducible apply c_be; with_reducible assumption))
    · repeat (first | with_reducible assumption | with_reducible exact Below.refl _ _ | with_reducible refine Below.drew ?_ | with_reducible refine below_drewN ?_ _ | with_reducible refine bw_alloc ?_ _ | (with_reducible refine bw_set ?_ ?_ _; focus (dsimp only; omega)) | (with_reducible apply bw_behind; with_reducible assumption))
    · repeat (first | with_reducible assumption | with_reducible refine c_dr _ ?_ | with_reducible refine c_d1 ?_ | with_reducible refine c_al _ ?_ | (with_reducible refine c_set ?_ ?_; focus (dsimp only; omega)) | (with_reducible apply c_be; with_reducible assumption))
    · repeat (first | with_reducible assumption | with_reducible refine c_dr _ ?_ | with_reducible refine c_d1 ?_ | with_reducible refine c_al _ ?_ | (with_reducible refine c_set ?_ ?_; focus (dsimp only; omega)) | (with_reducible apply c_be; with_reducible assumption))
    · repeat (first | with_reducible assumption | with_reducible refine c_dr _ ?_ | with_reducible refine c_d1 ?_ | with_reducible refine c_al _ ?_ | (with_reducible refine c_set ?_ ?_; focus (dsimp only; omega)) | (with_reducible apply c_be; with_reducible assumption))
    · repeat (first | with_reducible assumption | with_reducible refine c_dr _ ?_ | with_reducible refine c_d1 ?_ | with_reducible refine c_al _ ?_ | (with_reducible refine c_set ?_ ?_; focus (dsimp only; omega)) | (with_reducible apply c_be; with_reducible assumption))
    · repeat (first | with_reducible assumption | with_reducible refine c_dr _ ?_ | with_reducible refine c_d1 ?_ | with_reducible refine c_al _ ?_ | (with_reducible refine c_set ?_ ?_; focus (dsimp only; omega)) | (with_reducible apply c_be; with_reducible assumption))
    · repeat (first | with_reducible assumption | with_reducible refine c_dr _ ?_ | with_reducible refine c_d1 ?_ | with_reducible refine c_al _ ?_ | (with_reducible refine c_set ?_ ?_; focus (dsimp only; omega)) | (with_reducible apply c_be; with_reducible assumption))
    · repeat (first | with_reducible assumption | with_reducible refine c_dr _ ?_ | with_reducible refine c_d1 ?_ | with_reducible refine c_al _ ?_ | (with_reducible refine c_set ?_ ?_; focus (dsimp only; omega)) | (with_reducible apply c_be; with_reducible assumption))
    · refine set_at (o_set (o_set (o_set (o_set (o_set o2))))) (by omega) ?_
      rw [if_neg (by omega)]
      refine set_at (o_set (o_set (o_set (o_set o2)))) (by omega) ?_
      rw [if_neg (by omega)]
      refine set_at (o_set (o_set (o_set o2))) (by omega) ?_
      rw [if_neg (by omega)]
      refine set_at (o_set (o_set o2)) (by omega) ?_
      rw [if_neg (by omega)]
      refine set_at (o_set o2) (by omega) ?_
      rw [if_neg (by omega)]
      refine set_at o2 (by omega) ?_
      rw [if_pos (by omega)]
    · refine set_at (o_set (o_set (o_set (o_set (o_set o2))))) (by omega) ?_
      rw [if_neg (by omega)]
      refine set_at (o_set (o_set (o_set (o_set o2)))) (by omega) ?_
      rw [if_neg (by omega)]
      refine set_at (o_set (o_set (o_set o2))) (by omega) ?_
      rw [if_neg (by omega)]
      refine set_at (o_set (o_set o2)) (by omega) ?_
      rw [if_neg (by omega)]
      refine set_at (o_set o2) (by omega) ?_
      rw [if_pos (by omega)]
    · refine set_at (o_set (o_set (o_set (o_set (o_set o2))))) (by omega) ?_
      rw [if_pos (by omega)]
    · refine set_at (o_set (o_set (o_set (o_set (o_set o2))))) (by omega) ?_
      rw [if_neg (by omega)]
      refine set_at (o_set (o_set (o_set (o_set o2)))) (by omega) ?_
      rw [if_neg (by omega)]
      refine set_at (o_set (o_set (o_set o2))) (by omega) ?_
      rw [if_pos (by omega)]
    · refine set_at (o_set (o_set (o_set (o_set (o_set o2))))) (by omega) ?_
      rw [if_neg (by omega)]
      refine set_at (o_set (o_set (o_set (o_set o2)))) (by omega) ?_
      rw [if_pos (by omega)]
  clear hT2 hB2 o2 x0 x1 x2 x3 x4 x5 x6
  rintro w3 ⟨hT3, hB3, y0, y1, y2, y3, y4, y5, y6, y7, y8, y9, y10, y11⟩
  have z1 : ltB w.heap.size w3.heap.size = true := by unfold ltB; simpa using World.block_lt_of_cell? _ _ y0
  have z2 : ltB (w.heap.size + 1) w3.heap.size = true := by unfold ltB; simpa using World.block_lt_of_cell? _ _ y5
  clear e0 e1 e2 e3 e4 d0 d1 d2 d3 d4
  go_wp2_with (first | (go_at_call 7; (first | ((with_reducible refine (Cg3.out _ ?_).mono ?_); (refine hT.behind ?_; repeat (first | with_reducible assumption | with_reducible exact Below.refl _ _ | with_reducible refine Below.drew ?_ | with_reducible refine below_drewN ?_ _ | with_reducible refine bw_alloc ?_ _ | (with_reducible refine bw_set ?_ ?_ _; focus (dsimp only; omega)) | (with_reducible apply bw_behind; with_reducible assumption))))); rintro e wC ⟨rfl, hbC⟩; have hrC := below_reads hbC; have hhC := below_holds hbC; obtain ⟨mC, hsC⟩ := below_grew hbC) | (go_at_call 11; (first | ((with_reducible refine (Cg9.out _ ?_).mono ?_); (refine hT.behind ?_; repeat (first | with_reducible assumption | with_reducible exact Below.refl _ _ | with_reducible refine Below.drew ?_ | with_reducible refine below_drewN ?_ _ | with_reducible refine bw_alloc ?_ _ | (with_reducible refine bw_set ?_ ?_ _; focus (dsimp only; omega)) | (with_reducible apply bw_behind; with_reducible assumption))))); rintro e wD ⟨rfl, hbD⟩; have hrD := below_reads hbD; have hhD := below_holds hbD; obtain ⟨mD, hsD⟩ := below_grew hbD) | (go_at_call 12; (first | ((with_reducible refine (Cg4.out _ ?_).mono ?_); (refine hT.behind ?_; repeat (first | with_reducible assumption | with_reducible exact Below.refl _ _ | with_reducible refine Below.drew ?_ | with_reducible refine below_drewN ?_ _ | with_reducible refine bw_alloc ?_ _ | (with_reducible refine bw_set ?_ ?_ _; focus (dsimp only; omega)) | (with_reducible apply bw_behind; with_reducible assumption))))); rintro e wE ⟨rfl, hbE⟩; have hrE := below_reads hbE; have hhE := below_holds hbE; obtain ⟨mE, hsE⟩ := below_grew hbE))
  all_goals (go_ret; refine ⟨rfl, ?_⟩; repeat (first | with_reducible assumption | with_reducible exact Below.refl _ _ | with_reducible refine Below.drew ?_ | with_reducible refine below_drewN ?_ _ | with_reducible refine bw_alloc ?_ _ | (with_reducible refine bw_set ?_ ?_ _; focus (dsimp only; omega)) | (with_reducible apply bw_behind; with_reducible assumption)))

set_option maxRecDepth 100000 in
set_option maxHeartbeats 4000000 in
theorem walk_N (K a b c m K2 a2 b2 c2 m2 X Y Z : Int)  (g1 : ∀ W, TabW W → Calls Tryd.prog 7 #[.agg #[.int .i64 K, .int .i64 a, .int .i64 b, .int .i64 c, .int .i64 m]] W (Makes (.tuple #[.int .u32 X, .bool true]) W)) (g2 : ∀ W, TabW W → Calls Tryd.prog 7 #[.agg #[.int .i64 K, .int .i64 a2, .int .i64 b, .int .i64 c, .int .i64 m]] W (Makes (.tuple #[.int .u32 Y, .bool true]) W)) (g3 : ∀ W, TabW W → Calls Tryd.prog 7 #[.agg #[.int .i64 K, .int .i64 a, .int .i64 b2, .int .i64 c, .int .i64 m]] W (Makes (.tuple #[.int .u32 Z, .bool true]) W)) (g9 : ∀ W, TabW W → Calls Tryd.prog 11 #[] W (Makes (.bool true) W)) (g4 : ∀ W, TabW W → Calls Tryd.prog 12 #[.int .i64 K] W (Makes (.int .u8 78) W)) (u1 : (X != Y) = false) (w1 : (X != Z) = false) (w : World) (hT : TabW w) :
    Calls Tryd.prog 6 #[.agg #[.int .i64 K, .int .i64 a, .int .i64 b, .int .i64 c, .int .i64 m], .agg #[.int .i64 K2, .int .i64 a2, .int .i64 b2, .int .i64 c2, .int .i64 m2]] w (Makes (.bool true) w) := by
  have Cg1 := hide g1
  have Cg2 := hide g2
  have Cg3 := hide g3
  have Cg9 := hide g9
  have Cg4 := hide g4
  clear g1 g2 g3 g9 g4
  have SS := cell_same
  have LB' := ltB_add
  have LS := ltB_self
  have LA' := alloc_reads
  have LH := alloc_holds
  go_enter Tryd.func6, Tryd.ntmps6
  go_upto_region 5 with (first | (go_at_call 7; (first | ((with_reducible refine (Cg1.out _ ?_).mono ?_); (refine hT.behind ?_; repeat (first | with_reducible assumption | with_reducible exact Below.refl _ _ | with_reducible refine Below.drew ?_ | with_reducible refine below_drewN ?_ _ | with_reducible refine bw_alloc ?_ _ | (with_reducible refine bw_set ?_ ?_ _; focus (dsimp only; omega)) | (with_reducible apply bw_behind; with_reducible assumption))))); rintro e wA ⟨rfl, hbA⟩; have hrA := below_reads hbA; have hhA := below_holds hbA; obtain ⟨mA, hsA⟩ := below_grew hbA) | (go_at_call 7; (first | ((with_reducible refine (Cg2.out _ ?_).mono ?_); (refine hT.behind ?_; repeat (first | with_reducible assumption | with_reducible exact Below.refl _ _ | with_reducible refine Below.drew ?_ | with_reducible refine below_drewN ?_ _ | with_reducible refine bw_alloc ?_ _ | (with_reducible refine bw_set ?_ ?_ _; focus (dsimp only; omega)) | (with_reducible apply bw_behind; with_reducible assumption))))); rintro e wB ⟨rfl, hbB⟩; have hrB := below_reads hbB; have hhB := below_holds hbB; obtain ⟨mB, hsB⟩ := below_grew hbB))
  refine wp_abs (fun W => TabW W ∧ Below w.heap.size w W ∧ W.cell? ⟨w.heap.size, 0, none⟩ = some (.int .i64 K) ∧ W.cell? ⟨w.heap.size, 1, none⟩ = some (.int .i64 a) ∧ W.cell? ⟨w.heap.size, 2, none⟩ = some (.int .i64 b) ∧ W.cell? ⟨w.heap.size, 3, none⟩ = some (.int .i64 c) ∧ W.cell? ⟨w.heap.size, 4, none⟩ = some (.int .i64 m) ∧ W.cell? ⟨w.heap.size + 1, 1, none⟩ = some (.int .i64 a2) ∧ W.cell? ⟨w.heap.size + 1, 2, none⟩ = some (.int .i64 b2) ∧ Own W (w.heap.size + 1 + 1 + mA) 5) ?_ ?_
  · refine ⟨?_, ?_, ?_, ?_, ?_, ?_, ?_, ?_, ?_, ?_⟩
    rotate_right 1
    · repeat (first | with_reducible assumption | with_reducible refine o_dr _ ?_ | with_reducible refine o_d1 ?_ | with_reducible refine o_set ?_ | (with_reducible refine o_new ?_ ?_; (focus (simp [*])); (focus (simp))) | with_reducible refine o_al _ ?_ | (with_reducible apply o_be; with_reducible assumption))
    all_goals (first | with_reducible assumption | ((repeat (first | with_reducible assumption | with_reducible refine c_dr _ ?_ | with_reducible refine c_d1 ?_ | with_reducible refine c_al _ ?_ | (with_reducible refine c_set ?_ ?_; focus (dsimp only; omega)) | (with_reducible apply c_be; with_reducible assumption))); done) | ((repeat (first | with_reducible assumption | with_reducible refine o_dr _ ?_ | with_reducible refine o_d1 ?_ | with_reducible refine o_set ?_ | (with_reducible refine o_new ?_ ?_; (focus (simp)); (focus (simp))) | with_reducible refine o_al _ ?_ | (with_reducible apply o_be; with_reducible assumption))); done) | ((repeat (first | with_reducible assumption | with_reducible exact Below.refl _ _ | with_reducible refine Below.drew ?_ | with_reducible refine below_drewN ?_ _ | with_reducible refine bw_alloc ?_ _ | (with_reducible refine bw_set ?_ ?_ _; focus (dsimp only; omega)) | (with_reducible apply bw_behind; with_reducible assumption))); done) | (refine hT.behind ?_; (repeat (first | with_reducible assumption | with_reducible exact Below.refl _ _ | with_reducible refine Below.drew ?_ | with_reducible refine below_drewN ?_ _ | with_reducible refine bw_alloc ?_ _ | (with_reducible refine bw_set ?_ ?_ _; focus (dsimp only; omega)) | (with_reducible apply bw_behind; with_reducible assumption))); done) | (simp [go_sem, *]; omega) | (simp (maxDischargeDepth := 4) [go_sem, *]; done))
  rintro w2 ⟨hT2, hB2, x0, x1, x2, x3, x4, x5, x6, o2⟩
  obtain ⟨v0, e0⟩ := o2.val 0 (by omega)
  have d0 := o2.free 0 (by omega)
  obtain ⟨v1, e1⟩ := o2.val 1 (by omega)
  have d1 := o2.free 1 (by omega)
  obtain ⟨v2, e2⟩ := o2.val 2 (by omega)
  have d2 := o2.free 2 (by omega)
  obtain ⟨v3, e3⟩ := o2.val 3 (by omega)
  have d3 := o2.free 3 (by omega)
  obtain ⟨v4, e4⟩ := o2.val 4 (by omega)
  have d4 := o2.free 4 (by omega)
  go_upto_region 7 with fail
  refine wp_abs (fun W => TabW W ∧ Below w.heap.size w W ∧ W.cell? ⟨w.heap.size, 0, none⟩ = some (.int .i64 K) ∧ W.cell? ⟨w.heap.size, 1, none⟩ = some (.int .i64 a) ∧ W.cell? ⟨w.heap.size, 2, none⟩ = some (.int .i64 b) ∧ W.cell? ⟨w.heap.size, 3, none⟩ = some (.int .i64 c) ∧ W.cell? ⟨w.heap.size, 4, none⟩ = some (.int .i64 m) ∧ W.cell? ⟨w.heap.size + 1, 1, none⟩ = some (.int .i64 a2) ∧ W.cell? ⟨w.heap.size + 1, 2, none⟩ = some (.int .i64 b2) ∧ W.cell? ⟨w.heap.size + 1 + 1 + mA, 0, none⟩ = some (.int .i64 K) ∧ W.cell? ⟨w.heap.size + 1 + 1 + mA, 1, none⟩ = some (.int .i64 a) ∧ W.cell? ⟨w.heap.size + 1 + 1 + mA, 2, none⟩ = some (.int .i64 b2) ∧ W.cell? ⟨w.heap.size + 1 + 1 + mA, 3, none⟩ = some (.int .i64 c) ∧ W.cell? ⟨w.heap.size + 1 + 1 + mA, 4, none⟩ = some (.int .i64 m)) ?_ ?_
  · refine ⟨?_, ?_, ?_, ?_, ?_, ?_, ?_, ?_, ?_, ?_, ?_, ?_, ?_, ?_⟩
    · intro k hk
      have hne := World.block_lt_of_cell? _ _ (hT2 0 (by decide))
      have hx := hT2 k hk
      have hg : 0 < w.heap.size := hT.pos
      repeat (first | with_reducible assumption | with_reducible refine c_dr _ ?_ | with_reducible refine c_d1 ?_ | with_reducible refine c_al _ ?_ | (with_reducible refine c_set ?_ ?_; focus (dsimp only; omega)) | (with_reducible apply c_be; with_reducible assumption))
    · repeat (first | with_reducible assumption | with_reducible exact Below.refl _ _ | with_reducible refine Below.drew ?_ | with_reducible refine below_drewN ?_ _ | with_reducible refine bw_alloc ?_ _ | (with_reducible refine bw_set ?_ ?_ _; focus (dsimp only; omega)) | (with_reducible apply bw_behind; with_reducible assumption))
    · repeat (first | with_reducible assumption | with_reducible refine c_dr _ ?_ | with_reducible refine c_d1 ?_ | with_reducible refine c_al _ ?_ | (with_reducible refine c_set ?_ ?_; focus (dsimp only; omega)) | (with_reducible apply c_be; with_reducible assumption))
    · repeat (first | with_reducible assumption | with_reducible refine c_dr _ ?_ | with_reducible refine c_d1 ?_ | with_reducible refine c_al _ ?_ | (with_reducible refine c_set ?_ ?_; focus (dsimp only; omega)) | (with_reducible apply c_be; with_reducible assumption))
    · repeat (first | with_reducible assumption | with_reducible refine c_dr _ ?_ | with_reducible refine c_d1 ?_ | with_reducible refine c_al _ ?_ | (with_reducible refine c_set ?_ ?_; focus (dsimp only; omega)) | (with_reducible apply c_be; with_reducible assumption))
    · repeat (first | with_reducible assumption | with_reducible refine c_dr _ ?_ | with_reducible refine c_d1 ?_ | with_reducible refine c_al _ ?_ | (with_reducible refine c_set ?_ ?_; focus (dsimp only; omega)) | (with_reducible apply c_be; with_reducible assumption))
    · repeat (first | with_reducible assumption | with_reducible refine c_dr _ ?_ | with_reducible refine c_d1 ?_ | with_reducible refine c_al _ ?_ | (with_reducible refine c_set ?_ ?_; focus (dsimp only; omega)) | (with_reducible apply c_be; with_reducible assumption))
    · repeat (first | with_reducible assumption | with_reducible refine c_dr _ ?_ | with_reducible refine c_d1 ?_ | with_reducible refine c_al _ ?_ | (with_reducible refine c_set ?_ ?_; focus (dsimp only; omega)) | (with_reducible apply c_be; with_reducible assumption))
    · repeat (first | with_reducible assumption | with_reducible refine c_dr _ ?_ | with_reducible refine c_d1 ?_ | with_reducible refine c_al _ ?_ | (with_reducible refine c_set ?_ ?_; focus (dsimp only; omega)) | (with_reducible apply c_be; with_reducible assumption))
    · refine set_at (o_set (o_set (o_set (o_set (o_set o2))))) (by omega) ?_
      rw [if_neg (by omega)]
      refine set_at (o_set (o_set (o_set (o_set o2)))) (by omega) ?_
      rw [if_neg (by omega)]
      refine set_at (o_set (o_set (o_set o2))) (by omega) ?_
      rw [if_neg (by omega)]
      refine set_at (o_set (o_set o2)) (by omega) ?_
      rw [if_neg (by omega)]
      refine set_at (o_set o2) (by omega) ?_
      rw [if_neg (by omega)]
      refine set_at o2 (by omega) ?_
      rw [if_pos (by omega)]
    · refine set_at (o_set (o_set (o_set (o_set (o_set o2))))) (by omega) ?_
      rw [if_neg (by omega)]
      refine set_at (o_set (o_set (o_set (o_set o2)))) (by omega) ?_
      rw [if_neg (by omega)]
      refine set_at (o_set (o_set (o_set o2))) (by omega) ?_
      rw [if_neg (by omega)]
      refine set_at (o_set (o_set o2)) (by omega) ?_
      rw [if_neg (by omega)]
      refine set_at (o_set o2) (by omega) ?_
      rw [if_pos (by omega)]
    · refine set_at (o_set (o_set (o_set (o_set (o_set o2))))) (by omega) ?_
      rw [if_pos (by omega)]
    · refine set_at (o_set (o_set (o_set (o_set (o_set o2))))) (by omega) ?_
      rw [if_neg (by omega)]
      refine set_at (o_set (o_set (o_set (o_set o2)))) (by omega) ?_
      rw [if_neg (by omega)]
      refine set_at (o_set (o_set (o_set o2))) (by omega) ?_
      rw [if_pos (by omega)]
    · refine set_at (o_set (o_set (o_set (o_set (o_set o2))))) (by omega) ?_
      rw [if_neg (by omega)]
      refine set_at (o_set (o_set (o_set (o_set o2)))) (by omega) ?_
      rw [if_pos (by omega)]
  clear hT2 hB2 o2 x0 x1 x2 x3 x4 x5 x6
  rintro w3 ⟨hT3, hB3, y0, y1, y2, y3, y4, y5, y6, y7, y8, y9, y10, y11⟩
  have z1 : ltB w.heap.size w3.heap.size = true := by unfold ltB; simpa using World.block_lt_of_cell? _ _ y0
  have z2 : ltB (w.heap.size + 1) w3.heap.size = true := by unfold ltB; simpa using World.block_lt_of_cell? _ _ y5
  clear e0 e1 e2 e3 e4 d0 d1 d2 d3 d4
  go_wp2_with (first | (go_at_call 7; (first | ((with_reducible refine (Cg3.out _ ?_).mono ?_); (refine hT.behind ?_; repeat (first | with_reducible assumption | with_reducible exact Below.refl _ _ | with_reducible refine Below.drew ?_ | with_reducible refine below_drewN ?_ _ | with_reducible refine bw_alloc ?_ _ | (with_reducible refine bw_set ?_ ?_ _; focus (dsimp only; omega)) | (with_reducible apply bw_behind; with_reducible assumption))))); rintro e wC ⟨rfl, hbC⟩; have hrC := below_reads hbC; have hhC := below_holds hbC; obtain ⟨mC, hsC⟩ := below_grew hbC) | (go_at_call 11; (first | ((with_reducible refine (Cg9.out _ ?_).mono ?_); (refine hT.behind ?_; repeat (first | with_reducible assumption | with_reducible exact Below.refl _ _ | with_reducible refine Below.drew ?_ | with_reducible refine below_drewN ?_ _ | with_reducible refine bw_alloc ?_ _ | (with_reducible refine bw_set ?_ ?_ _; focus (dsimp only; omega)) | (with_reducible apply bw_behind; with_reducible assumption))))); rintro e wD ⟨rfl, hbD⟩; have hrD := below_reads hbD; have hhD := below_holds hbD; obtain ⟨mD, hsD⟩ := below_grew hbD) | (go_at_call 12; (first | ((with_reducible refine (Cg4.out _ ?_).mono ?_); (refine hT.behind ?_; repeat (first | with_reducible assumption | with_reducible exact Below.refl _ _ | with_reducible refine Below.drew ?_ | with_reducible refine below_drewN ?_ _ | with_reducible refine bw_alloc ?_ _ | (with_reducible refine bw_set ?_ ?_ _; focus (dsimp only; omega)) | (with_reducible apply bw_behind; with_reducible assumption))))); rintro e wE ⟨rfl, hbE⟩; have hrE := below_reads hbE; have hhE := below_holds hbE; obtain ⟨mE, hsE⟩ := below_grew hbE))
  all_goals (go_ret; refine ⟨rfl, ?_⟩; repeat (first | with_reducible assumption | with_reducible exact Below.refl _ _ | with_reducible refine Below.drew ?_ | with_reducible refine below_drewN ?_ _ | with_reducible refine bw_alloc ?_ _ | (with_reducible refine bw_set ?_ ?_ _; focus (dsimp only; omega)) | (with_reducible apply bw_behind; with_reducible assumption)))
end Go.Proofs.YtdgkadoebcdmeaaDoor.InstFields
