/-
  AlgebraEnters holds: for every c and n the law returns true and turns nothing that was there, where the tables of what each access needs and of the fields' places hold what the program's text lays.
-/
import Derived.Test.YtbncoiejbclpjaaDoorAlgLaid
import Derived.Test.YtbncoiejbclpjaaDoorAlgLaw
namespace Go.Proofs.YtbncoiejbclpjaaDoor.AlgebraEnters
open Go.RowKit Words FieldMath BoundsMath

theorem field_tag (q : Bool) (M A : Int) (W : World) : (Instr.field 24 (.agg #[.bool q, .int .u64 M, .int .u64 A]) 0).run Tryd.prog W = .ok (.bool q) W := by kernel_rfl

set_option maxRecDepth 100000 in
set_option maxHeartbeats 8000000 in
theorem walk_1 (q LC : Bool) (M A X M2 B U P K : Int) (c1 : ∀ W, Tabs W → Calls Tryd.prog 24 #[.agg #[.bool q, .int .u64 M, .int .u64 A]] W (Makes (.agg #[.bool false, .int .u64 M, .int .u64 A]) W)) (c2 : ∀ W, Tabs W → Calls Tryd.prog 33 #[.agg #[.bool q, .int .u64 M, .int .u64 A]] W (Makes (.tuple #[.agg #[.int .u64 B, .int .u64 U, .int .u64 P, .int .u64 K], .bool LC]) W)) (c3 : ∀ W, Tabs W → Calls Tryd.prog 17 #[.agg #[.bool q, .int .u64 M, .int .u64 A], .int .u64 511] W (Makes (.agg #[.bool false, .int .u64 M2, .int .u64 A]) W)) (c4 : ∀ W, Tabs W → Calls Tryd.prog 10 #[.agg #[.bool q, .int .u64 M, .int .u64 A]] W (Makes (.agg #[.bool false, .int .u64 M, .int .u64 A]) W)) (cO : ∀ W, Tabs W → Calls Tryd.prog 19 #[] W (Makes (.bool true) W)) (w : World) (hT : Tabs w) :
    Calls Tryd.prog 9 #[.agg #[.bool q, .int .u64 M, .int .u64 A], .int .u64 X] w (Makes (.bool true) w) := by
  have Cc1 := hide c1
  have Cc2 := hide c2
  have Cc3 := hide c3
  have Cc4 := hide c4
  have CcO := hide cO
  clear c1 c2 c3 c4 cO
  have FT := field_tag
  have E1 := eq_cap false false M A M A
  rw [decide_eq_true ⟨rfl, rfl, rfl⟩] at E1
  have SS := cell_same
  have LB' := ltB_add
  have LS := ltB_self
  have LA' := alloc_reads
  have LH := alloc_holds
  go_enter Tryd.func9, Tryd.ntmps9
  go_upto_region 7 with (first | (go_at_call 24; (first | ((with_reducible refine (Cc1.out _ ?_).mono ?_); (refine hT.behind ?_; repeat (first | with_reducible assumption | with_reducible exact Below.refl _ _ | with_reducible refine Below.drew ?_ | with_reducible refine below_drewN ?_ _ | with_reducible refine bw_alloc ?_ _ | (with_reducible refine bw_set ?_ ?_ _; focus (dsimp only; omega)) | (with_reducible apply bw_behind; with_reducible assumption))))); rintro e wa ⟨rfl, hba⟩; have hra := below_reads hba; have hha := below_holds hba; obtain ⟨ma, hsa⟩ := below_grew hba) | (go_at_call 33; (first | ((with_reducible refine (Cc2.out _ ?_).mono ?_); (refine hT.behind ?_; repeat (first | with_reducible assumption | with_reducible exact Below.refl _ _ | with_reducible refine Below.drew ?_ | with_reducible refine below_drewN ?_ _ | with_reducible refine bw_alloc ?_ _ | (with_reducible refine bw_set ?_ ?_ _; focus (dsimp only; omega)) | (with_reducible apply bw_behind; with_reducible assumption))))); rintro e wb ⟨rfl, hbb⟩; have hrb := below_reads hbb; have hhb := below_holds hbb; obtain ⟨mb, hsb⟩ := below_grew hbb) | (go_at_call 17; (first | ((with_reducible refine (Cc3.out _ ?_).mono ?_); (refine hT.behind ?_; repeat (first | with_reducible assumption | with_reducible exact Below.refl _ _ | with_reducible refine Below.drew ?_ | with_reducible refine below_drewN ?_ _ | with_reducible refine bw_alloc ?_ _ | (with_reducible refine bw_set ?_ ?_ _; focus (dsimp only; omega)) | (with_reducible apply bw_behind; with_reducible assumption))))); rintro e wd ⟨rfl, hbd⟩; have hrd := below_reads hbd; have hhd := below_holds hbd; obtain ⟨md, hsd⟩ := below_grew hbd))

  refine wp_abs (fun W => Tabs W ∧ Below w.heap.size w W ∧ W.cell? ⟨w.heap.size, 0, none⟩ = some (.bool q) ∧ W.cell? ⟨w.heap.size, 1, none⟩ = some (.int .u64 M) ∧ W.cell? ⟨w.heap.size, 2, none⟩ = some (.int .u64 A) ∧ W.cell? ⟨w.heap.size + 1 + ma, 0, none⟩ = some (.bool false) ∧ W.cell? ⟨w.heap.size + 1 + ma, 1, none⟩ = some (.int .u64 M) ∧ W.cell? ⟨w.heap.size + 1 + ma, 2, none⟩ = some (.int .u64 A)) ?_ ?_
  · refine ⟨?_, ?_, ?_, ?_, ?_, ?_, ?_, ?_⟩
    all_goals (first | with_reducible assumption | ((repeat (first | with_reducible assumption | with_reducible refine c_dr _ ?_ | with_reducible refine c_d1 ?_ | with_reducible refine c_al _ ?_ | (with_reducible refine c_set ?_ ?_; focus (dsimp only; omega)) | (with_reducible apply c_be; with_reducible assumption))); done) | ((repeat (first | with_reducible assumption | with_reducible refine o_dr _ ?_ | with_reducible refine o_d1 ?_ | with_reducible refine o_set ?_ | (with_reducible refine o_new ?_ ?_; (focus (simp)); (focus (simp))) | with_reducible refine o_al _ ?_ | (with_reducible apply o_be; with_reducible assumption))); done) | ((repeat (first | with_reducible assumption | with_reducible exact Below.refl _ _ | with_reducible refine Below.drew ?_ | with_reducible refine below_drewN ?_ _ | with_reducible refine bw_alloc ?_ _ | (with_reducible refine bw_set ?_ ?_ _; focus (dsimp only; omega)) | (with_reducible apply bw_behind; with_reducible assumption))); done) | (refine hT.behind ?_; (repeat (first | with_reducible assumption | with_reducible exact Below.refl _ _ | with_reducible refine Below.drew ?_ | with_reducible refine below_drewN ?_ _ | with_reducible refine bw_alloc ?_ _ | (with_reducible refine bw_set ?_ ?_ _; focus (dsimp only; omega)) | (with_reducible apply bw_behind; with_reducible assumption))); done) | (simp [go_sem, *]; omega) | (simp (maxDischargeDepth := 4) [go_sem, *]; done))
  rintro w0 ⟨hT0, hB0, c0, c1, c2, c3, c4, c5⟩
  have y0 := behind_cell0 c0
  have y1 := behind_cell0 c1
  have y2 := behind_cell0 c2
  have y3 := behind_cell0 c3
  have y4 := behind_cell0 c4
  have y5 := behind_cell0 c5
  have hsome := Behind.any w0
  clear c0 c1 c2 c3 c4 c5
  refine wp_region_behind w0 (by kernel_rfl) (by kernel_rfl) (Below.refl _ _) ?_
  repeat (go_big_quiet_step (first | (go_at_call 10; with_reducible first | exact behind_calls Cc4.out hT0 _) | (go_at_call 19; with_reducible first | exact behind_calls CcO.out hT0 _)))
  refine wpQuiet_nil ?_
  rintro _ ⟨y, rfl⟩
  have hTy := hT0.behind y.below
  have hBy := bw_behind y.below hB0
  have x0 := y0 y
  have x1 := y1 y
  have x2 := y2 y
  have x3 := y3 y
  have x4 := y4 y
  have x5 := y5 y
  clear hsome y0 y1 y2 y3 y4 y5
  obtain ⟨w1, hw1⟩ : ∃ W, W = y.world := ⟨_, rfl⟩
  rw [← hw1] at hTy hBy x0 x1 x2 x3 x4 x5 ⊢
  clear hw1 y hT0 hB0
  go_wp2
  refine bodyPost_ret (v := .bool true) (by simp (maxDischargeDepth := 4) [results, Tryd.results9, go_sem, *]) rfl ?_
  refine ⟨rfl, ?_⟩
  repeat (first | with_reducible assumption | with_reducible exact Below.refl _ _ | with_reducible refine Below.drew ?_ | with_reducible refine below_drewN ?_ _ | with_reducible refine bw_alloc ?_ _ | (with_reducible refine bw_set ?_ ?_ _; focus (dsimp only; omega)) | (with_reducible apply bw_behind; with_reducible assumption))

set_option maxRecDepth 100000 in
set_option maxHeartbeats 8000000 in
theorem walk_2 (q LC : Bool) (M A X M2 B U P K : Int) (c1 : ∀ W, Tabs W → Calls Tryd.prog 24 #[.agg #[.bool q, .int .u64 M, .int .u64 A]] W (Makes (.agg #[.bool false, .int .u64 M, .int .u64 A]) W)) (c2 : ∀ W, Tabs W → Calls Tryd.prog 33 #[.agg #[.bool q, .int .u64 M, .int .u64 A]] W (Makes (.tuple #[.agg #[.int .u64 B, .int .u64 U, .int .u64 P, .int .u64 K], .bool LC]) W)) (c3 : ∀ W, Tabs W → Calls Tryd.prog 17 #[.agg #[.bool q, .int .u64 M, .int .u64 A], .int .u64 511] W (Makes (.agg #[.bool true, .int .u64 M2, .int .u64 A]) W)) (c4 : ∀ W, Tabs W → Calls Tryd.prog 10 #[.agg #[.bool q, .int .u64 M, .int .u64 A]] W (Makes (.agg #[.bool false, .int .u64 M, .int .u64 A]) W)) (cO : ∀ W, Tabs W → Calls Tryd.prog 19 #[] W (Makes (.bool true) W)) (hP : bits .and .u64 P 4 = 0) (w : World) (hT : Tabs w) :
    Calls Tryd.prog 9 #[.agg #[.bool q, .int .u64 M, .int .u64 A], .int .u64 X] w (Makes (.bool true) w) := by
  have Cc1 := hide c1
  have Cc2 := hide c2
  have Cc3 := hide c3
  have Cc4 := hide c4
  have CcO := hide cO
  clear c1 c2 c3 c4 cO
  have FT := field_tag
  have E1 := eq_cap false false M A M A
  rw [decide_eq_true ⟨rfl, rfl, rfl⟩] at E1
  have SS := cell_same
  have LB' := ltB_add
  have LS := ltB_self
  have LA' := alloc_reads
  have LH := alloc_holds
  go_enter Tryd.func9, Tryd.ntmps9
  go_upto_region 7 with (first | (go_at_call 24; (first | ((with_reducible refine (Cc1.out _ ?_).mono ?_); (refine hT.behind ?_; repeat (first | with_reducible assumption | with_reducible exact Below.refl _ _ | with_reducible refine Below.drew ?_ | with_reducible refine below_drewN ?_ _ | with_reducible refine bw_alloc ?_ _ | (with_reducible refine bw_set ?_ ?_ _; focus (dsimp only; omega)) | (with_reducible apply bw_behind; with_reducible assumption))))); rintro e wa ⟨rfl, hba⟩; have hra := below_reads hba; have hha := below_holds hba; obtain ⟨ma, hsa⟩ := below_grew hba) | (go_at_call 33; (first | ((with_reducible refine (Cc2.out _ ?_).mono ?_); (refine hT.behind ?_; repeat (first | with_reducible assumption | with_reducible exact Below.refl _ _ | with_reducible refine Below.drew ?_ | with_reducible refine below_drewN ?_ _ | with_reducible refine bw_alloc ?_ _ | (with_reducible refine bw_set ?_ ?_ _; focus (dsimp only; omega)) | (with_reducible apply bw_behind; with_reducible assumption))))); rintro e wb ⟨rfl, hbb⟩; have hrb := below_reads hbb; have hhb := below_holds hbb; obtain ⟨mb, hsb⟩ := below_grew hbb) | (go_at_call 17; (first | ((with_reducible refine (Cc3.out _ ?_).mono ?_); (refine hT.behind ?_; repeat (first | with_reducible assumption | with_reducible exact Below.refl _ _ | with_reducible refine Below.drew ?_ | with_reducible refine below_drewN ?_ _ | with_reducible refine bw_alloc ?_ _ | (with_reducible refine bw_set ?_ ?_ _; focus (dsimp only; omega)) | (with_reducible apply bw_behind; with_reducible assumption))))); rintro e wd ⟨rfl, hbd⟩; have hrd := below_reads hbd; have hhd := below_holds hbd; obtain ⟨md, hsd⟩ := below_grew hbd))

  refine wp_abs (fun W => Tabs W ∧ Below w.heap.size w W ∧ W.cell? ⟨w.heap.size, 0, none⟩ = some (.bool q) ∧ W.cell? ⟨w.heap.size, 1, none⟩ = some (.int .u64 M) ∧ W.cell? ⟨w.heap.size, 2, none⟩ = some (.int .u64 A) ∧ W.cell? ⟨w.heap.size + 1 + ma, 0, none⟩ = some (.bool false) ∧ W.cell? ⟨w.heap.size + 1 + ma, 1, none⟩ = some (.int .u64 M) ∧ W.cell? ⟨w.heap.size + 1 + ma, 2, none⟩ = some (.int .u64 A)) ?_ ?_
  · refine ⟨?_, ?_, ?_, ?_, ?_, ?_, ?_, ?_⟩
    all_goals (first | with_reducible assumption | ((repeat (first | with_reducible assumption | with_reducible refine c_dr _ ?_ | with_reducible refine c_d1 ?_ | with_reducible refine c_al _ ?_ | (with_reducible refine c_set ?_ ?_; focus (dsimp only; omega)) | (with_reducible apply c_be; with_reducible assumption))); done) | ((repeat (first | with_reducible assumption | with_reducible refine o_dr _ ?_ | with_reducible refine o_d1 ?_ | with_reducible refine o_set ?_ | (with_reducible refine o_new ?_ ?_; (focus (simp)); (focus (simp))) | with_reducible refine o_al _ ?_ | (with_reducible apply o_be; with_reducible assumption))); done) | ((repeat (first | with_reducible assumption | with_reducible exact Below.refl _ _ | with_reducible refine Below.drew ?_ | with_reducible refine below_drewN ?_ _ | with_reducible refine bw_alloc ?_ _ | (with_reducible refine bw_set ?_ ?_ _; focus (dsimp only; omega)) | (with_reducible apply bw_behind; with_reducible assumption))); done) | (refine hT.behind ?_; (repeat (first | with_reducible assumption | with_reducible exact Below.refl _ _ | with_reducible refine Below.drew ?_ | with_reducible refine below_drewN ?_ _ | with_reducible refine bw_alloc ?_ _ | (with_reducible refine bw_set ?_ ?_ _; focus (dsimp only; omega)) | (with_reducible apply bw_behind; with_reducible assumption))); done) | (simp [go_sem, *]; omega) | (simp (maxDischargeDepth := 4) [go_sem, *]; done))
  rintro w0 ⟨hT0, hB0, c0, c1, c2, c3, c4, c5⟩
  have y0 := behind_cell0 c0
  have y1 := behind_cell0 c1
  have y2 := behind_cell0 c2
  have y3 := behind_cell0 c3
  have y4 := behind_cell0 c4
  have y5 := behind_cell0 c5
  have hsome := Behind.any w0
  clear c0 c1 c2 c3 c4 c5
  refine wp_region_behind w0 (by kernel_rfl) (by kernel_rfl) (Below.refl _ _) ?_
  repeat (go_big_quiet_step (first | (go_at_call 10; with_reducible first | exact behind_calls Cc4.out hT0 _) | (go_at_call 19; with_reducible first | exact behind_calls CcO.out hT0 _)))
  refine wpQuiet_nil ?_
  rintro _ ⟨y, rfl⟩
  have hTy := hT0.behind y.below
  have hBy := bw_behind y.below hB0
  have x0 := y0 y
  have x1 := y1 y
  have x2 := y2 y
  have x3 := y3 y
  have x4 := y4 y
  have x5 := y5 y
  clear hsome y0 y1 y2 y3 y4 y5
  obtain ⟨w1, hw1⟩ : ∃ W, W = y.world := ⟨_, rfl⟩
  rw [← hw1] at hTy hBy x0 x1 x2 x3 x4 x5 ⊢
  clear hw1 y hT0 hB0
  go_wp2
  refine bodyPost_ret (v := .bool true) (by simp (maxDischargeDepth := 4) [results, Tryd.results9, go_sem, *]) rfl ?_
  refine ⟨rfl, ?_⟩
  repeat (first | with_reducible assumption | with_reducible exact Below.refl _ _ | with_reducible refine Below.drew ?_ | with_reducible refine below_drewN ?_ _ | with_reducible refine bw_alloc ?_ _ | (with_reducible refine bw_set ?_ ?_ _; focus (dsimp only; omega)) | (with_reducible apply bw_behind; with_reducible assumption))

set_option maxRecDepth 100000 in
set_option maxHeartbeats 8000000 in
theorem walk_y (LC LE : Bool) (M A X M1 M2 B U P K A2 M3 M4 M5 : Int) (c1 : ∀ W, Tabs W → Calls Tryd.prog 24 #[.agg #[.bool true, .int .u64 M, .int .u64 A]] W (Makes (.agg #[.bool true, .int .u64 M1, .int .u64 A]) W)) (c2 : ∀ W, Tabs W → Calls Tryd.prog 33 #[.agg #[.bool true, .int .u64 M, .int .u64 A]] W (Makes (.tuple #[.agg #[.int .u64 B, .int .u64 U, .int .u64 P, .int .u64 K], .bool LC]) W)) (c3 : ∀ W, Tabs W → Calls Tryd.prog 17 #[.agg #[.bool true, .int .u64 M, .int .u64 A], .int .u64 511] W (Makes (.agg #[.bool true, .int .u64 M2, .int .u64 A]) W)) (c4 : ∀ W, Tabs W → Calls Tryd.prog 33 #[.agg #[.bool true, .int .u64 M1, .int .u64 A]] W (Makes (.tuple #[.agg #[.int .u64 B, .int .u64 U, .int .u64 P, .int .u64 1], .bool LE]) W)) (c5 : ∀ k : Int, ∀ W, Tabs W → Calls Tryd.prog 32 #[.agg #[.bool true, .int .u64 M1, .int .u64 A], .int .i64 k, .int .u64 0] W (Makes (.int .i64 2) W)) (c6 : ∀ W, Tabs W → Calls Tryd.prog 26 #[.agg #[.bool true, .int .u64 M1, .int .u64 A]] W (Makes (.agg #[.bool true, .int .u64 M, .int .u64 A]) W)) (c7 : ∀ W, Tabs W → Calls Tryd.prog 26 #[.agg #[.bool true, .int .u64 M, .int .u64 A]] W (Makes (.agg #[.bool true, .int .u64 M, .int .u64 A]) W)) (c8 : ∀ W, Tabs W → Calls Tryd.prog 14 #[.agg #[.bool true, .int .u64 M1, .int .u64 A], .int .u64 X] W (Makes (.agg #[.bool false, .int .u64 M1, .int .u64 A2]) W)) (c9 : ∀ W, Tabs W → Calls Tryd.prog 15 #[.agg #[.bool true, .int .u64 M1, .int .u64 A], .int .u64 X, .bool false] W (Makes (.agg #[.bool false, .int .u64 M3, .int .u64 A]) W)) (c10 : ∀ W, Tabs W → Calls Tryd.prog 17 #[.agg #[.bool true, .int .u64 M1, .int .u64 A], .int .u64 X] W (Makes (.agg #[.bool false, .int .u64 M4, .int .u64 A]) W)) (c11 : ∀ W, Tabs W → Calls Tryd.prog 24 #[.agg #[.bool true, .int .u64 M1, .int .u64 A]] W (Makes (.agg #[.bool false, .int .u64 M5, .int .u64 A]) W)) (cO : ∀ W, Tabs W → Calls Tryd.prog 19 #[] W (Makes (.bool true) W)) (hP : bits .and .u64 P 4 = 4) (w : World) (hT : Tabs w) :
    Calls Tryd.prog 9 #[.agg #[.bool true, .int .u64 M, .int .u64 A], .int .u64 X] w (Makes (.bool true) w) := by
  have Cc1 := hide c1
  have Cc2 := hide c2
  have Cc3 := hide c3
  have Cc4 := hide c4
  have Cc5 := hide c5
  have Cc6 := hide c6
  have Cc7 := hide c7
  have Cc8 := hide c8
  have Cc9 := hide c9
  have Cc10 := hide c10
  have Cc11 := hide c11
  have CcO := hide cO
  clear c1 c2 c3 c4 c5 c6 c7 c8 c9 c10 c11 cO
  have FT := field_tag
  have E1 := eq_cap true true M A M A
  rw [decide_eq_true ⟨rfl, rfl, rfl⟩] at E1
  have SS := cell_same
  have LB' := ltB_add
  have LS := ltB_self
  have LA' := alloc_reads
  have LH := alloc_holds
  go_enter Tryd.func9, Tryd.ntmps9
  go_wp2_with (first | (go_at_call 24; (first | ((with_reducible refine (Cc1.out _ ?_).mono ?_); (refine hT.behind ?_; repeat (first | with_reducible assumption | with_reducible exact Below.refl _ _ | with_reducible refine Below.drew ?_ | with_reducible refine below_drewN ?_ _ | with_reducible refine bw_alloc ?_ _ | (with_reducible refine bw_set ?_ ?_ _; focus (dsimp only; omega)) | (with_reducible apply bw_behind; with_reducible assumption))))); rintro e wa ⟨rfl, hba⟩; have hra := below_reads hba; have hha := below_holds hba; obtain ⟨ma, hsa⟩ := below_grew hba) | (go_at_call 33; first | ((first | ((with_reducible refine (Cc2.out _ ?_).mono ?_); (refine hT.behind ?_; repeat (first | with_reducible assumption | with_reducible exact Below.refl _ _ | with_reducible refine Below.drew ?_ | with_reducible refine below_drewN ?_ _ | with_reducible refine bw_alloc ?_ _ | (with_reducible refine bw_set ?_ ?_ _; focus (dsimp only; omega)) | (with_reducible apply bw_behind; with_reducible assumption))))); rintro e wb ⟨rfl, hbb⟩; have hrb := below_reads hbb; have hhb := below_holds hbb; obtain ⟨mb, hsb⟩ := below_grew hbb) | ((first | ((with_reducible refine (Cc4.out _ ?_).mono ?_); (refine hT.behind ?_; repeat (first | with_reducible assumption | with_reducible exact Below.refl _ _ | with_reducible refine Below.drew ?_ | with_reducible refine below_drewN ?_ _ | with_reducible refine bw_alloc ?_ _ | (with_reducible refine bw_set ?_ ?_ _; focus (dsimp only; omega)) | (with_reducible apply bw_behind; with_reducible assumption))))); rintro e wf ⟨rfl, hbf⟩; have hrf := below_reads hbf; have hhf := below_holds hbf; obtain ⟨mf, hsf⟩ := below_grew hbf)) | (go_at_call 17; (first | ((with_reducible refine (Cc3.out _ ?_).mono ?_); (refine hT.behind ?_; repeat (first | with_reducible assumption | with_reducible exact Below.refl _ _ | with_reducible refine Below.drew ?_ | with_reducible refine below_drewN ?_ _ | with_reducible refine bw_alloc ?_ _ | (with_reducible refine bw_set ?_ ?_ _; focus (dsimp only; omega)) | (with_reducible apply bw_behind; with_reducible assumption))))); rintro e wd ⟨rfl, hbd⟩; have hrd := below_reads hbd; have hhd := below_holds hbd; obtain ⟨md, hsd⟩ := below_grew hbd))
  go_loopw [11] (fun i wr => ∃ k : Nat, k ≤ 5 ∧ i = .int .i64 (k : Int) ∧ wr.cell? ⟨w.heap.size, 0, none⟩ = some (.bool true) ∧ wr.cell? ⟨w.heap.size, 1, none⟩ = some (.int .u64 M) ∧ wr.cell? ⟨w.heap.size, 2, none⟩ = some (.int .u64 A) ∧ wr.cell? ⟨w.heap.size + 1 + ma, 0, none⟩ = some (.bool true) ∧ wr.cell? ⟨w.heap.size + 1 + ma, 1, none⟩ = some (.int .u64 M1) ∧ wr.cell? ⟨w.heap.size + 1 + ma, 2, none⟩ = some (.int .u64 A) ∧ wr.cell? ⟨w.heap.size + 1 + ma + 1 + mb + 1 + md + mf, 0, none⟩ = some (.int .u64 B) ∧ wr.cell? ⟨w.heap.size + 1 + ma + 1 + mb + 1 + md + mf, 1, none⟩ = some (.int .u64 U) ∧ wr.cell? ⟨w.heap.size + 1 + ma + 1 + mb + 1 + md + mf, 2, none⟩ = some (.int .u64 P) ∧ wr.cell? ⟨w.heap.size + 1 + ma + 1 + mb + 1 + md + mf, 3, none⟩ = some (.int .u64 1) ∧ Tabs wr ∧ Below w.heap.size w wr) (fun i _ => 5 - (intOf i).toNat)
  case atStart =>
    refine ⟨0, by omega, rfl, ?_, ?_, ?_, ?_, ?_, ?_, ?_, ?_, ?_, ?_, ?_, ?_⟩
    all_goals (first | with_reducible assumption | ((repeat (first | with_reducible assumption | with_reducible refine c_dr _ ?_ | with_reducible refine c_d1 ?_ | with_reducible refine c_al _ ?_ | (with_reducible refine c_set ?_ ?_; focus (dsimp only; omega)) | (with_reducible apply c_be; with_reducible assumption))); done) | ((repeat (first | with_reducible assumption | with_reducible refine o_dr _ ?_ | with_reducible refine o_d1 ?_ | with_reducible refine o_set ?_ | (with_reducible refine o_new ?_ ?_; (focus (simp)); (focus (simp))) | with_reducible refine o_al _ ?_ | (with_reducible apply o_be; with_reducible assumption))); done) | ((repeat (first | with_reducible assumption | with_reducible exact Below.refl _ _ | with_reducible refine Below.drew ?_ | with_reducible refine below_drewN ?_ _ | with_reducible refine bw_alloc ?_ _ | (with_reducible refine bw_set ?_ ?_ _; focus (dsimp only; omega)) | (with_reducible apply bw_behind; with_reducible assumption))); done) | (refine hT.behind ?_; (repeat (first | with_reducible assumption | with_reducible exact Below.refl _ _ | with_reducible refine Below.drew ?_ | with_reducible refine below_drewN ?_ _ | with_reducible refine bw_alloc ?_ _ | (with_reducible refine bw_set ?_ ?_ _; focus (dsimp only; omega)) | (with_reducible apply bw_behind; with_reducible assumption))); done) | (simp [go_sem, *]; omega) | (simp (maxDischargeDepth := 4) [go_sem, *]; done))
  case round =>
    obtain ⟨k, hk, rfl, g0, g1, g2, g3, g4, g5, g6, g7, g8, g9, hT2, hB2⟩ := hrel
    by_cases h1 : (k : Int) < 5
    · go_wp2_with (first | (go_at_call 32; (first | ((with_reducible refine (Cc5.out _ _ ?_).mono ?_); (refine hT.behind ?_; repeat (first | with_reducible assumption | with_reducible exact Below.refl _ _ | with_reducible refine Below.drew ?_ | with_reducible refine below_drewN ?_ _ | with_reducible refine bw_alloc ?_ _ | (with_reducible refine bw_set ?_ ?_ _; focus (dsimp only; omega)) | (with_reducible apply bw_behind; with_reducible assumption))))); rintro e wg ⟨rfl, hbg⟩; have hrg := below_reads hbg; have hhg := below_holds hbg; obtain ⟨mg, hsg⟩ := below_grew hbg))
      go_round
      case rel =>
        refine ⟨k + 1, by omega, by go_num, ?_, ?_, ?_, ?_, ?_, ?_, ?_, ?_, ?_, ?_, ?_, ?_⟩
        all_goals (first | with_reducible assumption | ((repeat (first | with_reducible assumption | with_reducible refine c_dr _ ?_ | with_reducible refine c_d1 ?_ | with_reducible refine c_al _ ?_ | (with_reducible refine c_set ?_ ?_; focus (dsimp only; omega)) | (with_reducible apply c_be; with_reducible assumption))); done) | ((repeat (first | with_reducible assumption | with_reducible refine o_dr _ ?_ | with_reducible refine o_d1 ?_ | with_reducible refine o_set ?_ | (with_reducible refine o_new ?_ ?_; (focus (simp)); (focus (simp))) | with_reducible refine o_al _ ?_ | (with_reducible apply o_be; with_reducible assumption))); done) | ((repeat (first | with_reducible assumption | with_reducible exact Below.refl _ _ | with_reducible refine Below.drew ?_ | with_reducible refine below_drewN ?_ _ | with_reducible refine bw_alloc ?_ _ | (with_reducible refine bw_set ?_ ?_ _; focus (dsimp only; omega)) | (with_reducible apply bw_behind; with_reducible assumption))); done) | (refine hT.behind ?_; (repeat (first | with_reducible assumption | with_reducible exact Below.refl _ _ | with_reducible refine Below.drew ?_ | with_reducible refine below_drewN ?_ _ | with_reducible refine bw_alloc ?_ _ | (with_reducible refine bw_set ?_ ?_ _; focus (dsimp only; omega)) | (with_reducible apply bw_behind; with_reducible assumption))); done) | (simp [go_sem, *]; omega) | (simp (maxDischargeDepth := 4) [go_sem, *]; done))
      case measure => simp [intOf]; omega
    · go_upto_region 14 with fail

      refine wp_abs (fun W => Tabs W ∧ Below w.heap.size w W ∧ W.cell? ⟨w.heap.size, 0, none⟩ = some (.bool true) ∧ W.cell? ⟨w.heap.size, 1, none⟩ = some (.int .u64 M) ∧ W.cell? ⟨w.heap.size, 2, none⟩ = some (.int .u64 A) ∧ W.cell? ⟨w.heap.size + 1 + ma, 0, none⟩ = some (.bool true) ∧ W.cell? ⟨w.heap.size + 1 + ma, 1, none⟩ = some (.int .u64 M1) ∧ W.cell? ⟨w.heap.size + 1 + ma, 2, none⟩ = some (.int .u64 A) ∧ W.cell? ⟨w.heap.size + 1 + ma + 1 + mb + 1 + md + mf, 0, none⟩ = some (.int .u64 B) ∧ W.cell? ⟨w.heap.size + 1 + ma + 1 + mb + 1 + md + mf, 1, none⟩ = some (.int .u64 U) ∧ W.cell? ⟨w.heap.size + 1 + ma + 1 + mb + 1 + md + mf, 2, none⟩ = some (.int .u64 P) ∧ W.cell? ⟨w.heap.size + 1 + ma + 1 + mb + 1 + md + mf, 3, none⟩ = some (.int .u64 1)) ?_ ?_
      · refine ⟨?_, ?_, ?_, ?_, ?_, ?_, ?_, ?_, ?_, ?_, ?_, ?_⟩
        all_goals (first | with_reducible assumption | ((repeat (first | with_reducible assumption | with_reducible refine c_dr _ ?_ | with_reducible refine c_d1 ?_ | with_reducible refine c_al _ ?_ | (with_reducible refine c_set ?_ ?_; focus (dsimp only; omega)) | (with_reducible apply c_be; with_reducible assumption))); done) | ((repeat (first | with_reducible assumption | with_reducible refine o_dr _ ?_ | with_reducible refine o_d1 ?_ | with_reducible refine o_set ?_ | (with_reducible refine o_new ?_ ?_; (focus (simp)); (focus (simp))) | with_reducible refine o_al _ ?_ | (with_reducible apply o_be; with_reducible assumption))); done) | ((repeat (first | with_reducible assumption | with_reducible exact Below.refl _ _ | with_reducible refine Below.drew ?_ | with_reducible refine below_drewN ?_ _ | with_reducible refine bw_alloc ?_ _ | (with_reducible refine bw_set ?_ ?_ _; focus (dsimp only; omega)) | (with_reducible apply bw_behind; with_reducible assumption))); done) | (refine hT.behind ?_; (repeat (first | with_reducible assumption | with_reducible exact Below.refl _ _ | with_reducible refine Below.drew ?_ | with_reducible refine below_drewN ?_ _ | with_reducible refine bw_alloc ?_ _ | (with_reducible refine bw_set ?_ ?_ _; focus (dsimp only; omega)) | (with_reducible apply bw_behind; with_reducible assumption))); done) | (simp [go_sem, *]; omega) | (simp (maxDischargeDepth := 4) [go_sem, *]; done))
      rintro w0 ⟨hT0, hB0, c0, c1, c2, c3, c4, c5, c6, c7, c8, c9⟩
      have y0 := behind_cell0 c0
      have y1 := behind_cell0 c1
      have y2 := behind_cell0 c2
      have y3 := behind_cell0 c3
      have y4 := behind_cell0 c4
      have y5 := behind_cell0 c5
      have y6 := behind_cell0 c6
      have y7 := behind_cell0 c7
      have y8 := behind_cell0 c8
      have y9 := behind_cell0 c9
      have hsome := Behind.any w0
      clear c0 c1 c2 c3 c4 c5 c6 c7 c8 c9
      refine wp_region_behind w0 (by kernel_rfl) (by kernel_rfl) (Below.refl _ _) ?_
      repeat (go_big_quiet_step (first | (go_at_call 26; with_reducible first | exact behind_calls Cc6.out hT0 _ | exact behind_calls Cc7.out hT0 _) | (go_at_call 14; with_reducible first | exact behind_calls Cc8.out hT0 _) | (go_at_call 15; with_reducible first | exact behind_calls Cc9.out hT0 _) | (go_at_call 17; with_reducible first | exact behind_calls Cc10.out hT0 _) | (go_at_call 24; with_reducible first | exact behind_calls Cc11.out hT0 _) | (go_at_call 19; with_reducible first | exact behind_calls CcO.out hT0 _)))
      refine wpQuiet_nil ?_
      rintro _ ⟨y, rfl⟩
      have hTy := hT0.behind y.below
      have hBy := bw_behind y.below hB0
      have x0 := y0 y
      have x1 := y1 y
      have x2 := y2 y
      have x3 := y3 y
      have x4 := y4 y
      have x5 := y5 y
      have x6 := y6 y
      have x7 := y7 y
      have x8 := y8 y
      have x9 := y9 y
      clear hsome y0 y1 y2 y3 y4 y5 y6 y7 y8 y9
      obtain ⟨w1, hw1⟩ : ∃ W, W = y.world := ⟨_, rfl⟩
      rw [← hw1] at hTy hBy x0 x1 x2 x3 x4 x5 x6 x7 x8 x9 ⊢
      clear hw1 y hT0 hB0
      go_wp2
      refine bodyPost_ret (v := .bool true) (by simp (maxDischargeDepth := 4) [results, Tryd.results9, go_sem, *]) rfl ?_
      refine ⟨rfl, ?_⟩
      repeat (first | with_reducible assumption | with_reducible exact Below.refl _ _ | with_reducible refine Below.drew ?_ | with_reducible refine below_drewN ?_ _ | with_reducible refine bw_alloc ?_ _ | (with_reducible refine bw_set ?_ ?_ _; focus (dsimp only; omega)) | (with_reducible apply bw_behind; with_reducible assumption))

theorem walk (q : Bool) (m a x : BitVec 64) (w : World) (hT : Tabs w) : Calls Tryd.prog 9 #[.agg #[.bool q, .int .u64 (m.toNat : Int), .int .u64 (a.toNat : Int)], .int .u64 (x.toNat : Int)] w fun e w' => e = .returned (.bool true) ∧ Below w.heap.size w w' := by
  have hm := toNat_lt m
  have ha := toNat_lt a
  have hx := toNat_lt x
  generalize m.toNat = m at *
  generalize a.toNat = a at *
  generalize x.toNat = x at *
  have c1 := fun W (hW : Tabs W) => enter_any q m a hm W hW.t
  have c2 := fun W (hW : Tabs W) => look_any q m a hm W hW.t
  have c3 := fun W (hW : Tabs W) => and_any q m a 511 hm (by omega) W hW.t
  have c4 := fun W (hW : Tabs W) => clear_any q (m : Int) (a : Int) W hW.t
  have cO := fun W (hW : Tabs W) => one_any W hW.t
  have hP := bits_and (a := mP m) (b := 4) (by have := mP_lt m; omega) (by omega)
  cases ho : openB q m a with
  | false =>
    rw [enter_shut ho, typed_no] at c1
    rw [ho] at c3
    exact walk_1 _ _ _ _ _ _ _ _ _ _ c1 c2 c3 c4 cO w hT
  | true =>
    rw [ho] at c3
    rcases bit_two (mP_lt m) with ⟨e1, e2⟩ | ⟨e1, e2⟩
    · rw [e1] at hP
      have hq : enterQ q m a = true := by unfold enterQ; rw [ho, e2]; rfl
      obtain ⟨o1, o2, o3⟩ := open_tag ho
      obtain ⟨_, r2, _⟩ := right_lt o2
      rw [hq, typed_yes] at c1
      obtain ⟨_, _, _, p4, p5, _, _, p8⟩ := setK_parts (k := 1) r2 (by omega)
      obtain ⟨l1, l2, l3⟩ := setK_look (k := 1) (a := a) r2 (by omega)
      have hrs := setK_right (k := 1) o2 (by omega)
      have hback : setK (setK m 1) 0 = m := by rw [setK_twice r2 (by omega), ← o3]; exact setK_same m
      generalize hS : setK m 1 = s at *
      have hso : openB true s a = false := open_typed p5 (by omega)
      have d4 := fun W (hW : Tabs W) => look_any true s a p8 W hW.t
      rw [l2, l3, p4, p5] at d4
      have d5 := fun (k : Int) W (hW : Tabs W) => check_any true s a k 0 p8 ha (by omega) W hW
      simp only [check_typed hrs p5 (show (1 : Nat) ≠ 0 by omega)] at d5
      have d6 := fun W (hW : Tabs W) => opened_any true s a p8 W hW.t
      rw [show opensQ true s a = true by unfold opensQ liveB; rw [hrs, p5]; rfl, typed_yes, hback] at d6
      have d7 := fun W (hW : Tabs W) => opened_any q m a hm W hW.t
      rw [show opensQ q m a = false by unfold opensQ; rw [o3]; simp, typed_no] at d7
      have d8 := fun W (hW : Tabs W) => move_any true s a x p8 W hW.t
      rw [addr_shut hso] at d8
      obtain ⟨M3, d9'⟩ := bound_shut true false s a x p8 ha hx hso
      have d9 := fun W (hW : Tabs W) => d9' W hW.t
      have d10 := fun W (hW : Tabs W) => and_any true s a x p8 hx W hW.t
      rw [hso] at d10
      have d11 := fun W (hW : Tabs W) => enter_any true s a p8 W hW.t
      rw [enter_shut hso] at d11
      subst o1
      exact walk_y _ _ _ _ _ _ _ _ _ _ _ _ _ _ _ c1 c2 c3 d4 d5 d6 d7 d8 d9 d10 d11 cO hP w hT
    · rw [e1] at hP
      have hq : enterQ q m a = false := by unfold enterQ; rw [ho, e2]; rfl
      rw [hq, typed_no] at c1
      exact walk_2 _ _ _ _ _ _ _ _ _ _ c1 c2 c3 c4 cO hP w hT
open Go.ChangeShapes Go.WideShapes Go.ChangeAt
set_option maxRecDepth 100000 in
theorem walks : Frame.WalksLaid [("mintmark/perm.accesses", Rows.laid_mintmark_perm_accesses), ("mintmark/bounds.places", Rows.laid_mintmark_bounds_places)] 9 Tryd.f9 := by
  intro H enc W base args ds ps hL hval hA
  rw [Tryd.params9] at hA hval
  obtain ⟨v0, v1, d0, d1, p0, p1, hargs, rfl, rfl, h0, h1⟩ := trodAll_two hA
  obtain rfl : args = #[v0, v1] := by cases args; simp_all
  obtain ⟨cs0, rfl, hf0⟩ := Frame.open_struct (F := 4) (ks := [.inr false, .inl .u64, .inl .u64]) Tryd.underlying24 (by kernel_rfl) (hval 0 24 v0 rfl rfl) h0
  match cs0, hf0 with
  | [_, _, _], ⟨⟨z0_0, rfl⟩, ⟨z0_1, rfl, wz0_1⟩, ⟨z0_2, rfl, wz0_2⟩, _⟩ =>
  obtain ⟨Z0_1, rfl⟩ := Frame.wf_u64 wz0_1
  obtain ⟨Z0_2, rfl⟩ := Frame.wf_u64 wz0_2
  obtain ⟨x1, rfl, rfl, rfl, w1⟩ := open_int Tryd.underlying22 (hval 1 22 v1 rfl rfl) h1
  obtain ⟨X1, rfl⟩ := Frame.wf_u64 w1
  exact walk z0_0 Z0_1 Z0_2 X1 W (both_of_laid hL)
set_option maxRecDepth 100000 in
theorem said : Rows.AlgebraEntersSaid :=
  OpenClaim.holds_of_wide 9 Tryd.f9 rfl rfl rfl rfl rfl rfl rfl ⟨rfl, rfl, rfl, rfl, rfl⟩ rfl rfl rfl rfl rfl (by kernel_rfl) Tryd.func9 (by kernel_rfl)
    (of_decide_eq_true (by kernel_rfl)) (by unfold Func.isWrapper; first | (rw [if_pos (by decide +kernel)]; kernel_rfl) | (rw [if_neg (by decide +kernel)]; exact ⟨rfl, rfl⟩))
    (fun os started H enc _ => Frame.liftLaid [("mintmark/perm.accesses", Rows.laid_mintmark_perm_accesses), ("mintmark/bounds.places", Rows.laid_mintmark_bounds_places)] os started H enc _ _ Rows.algebraEntersSpec 4 (by kernel_rfl) Tryd.func9 Tryd.underlying4 (by kernel_rfl) rfl (by kernel_rfl)
      (fun ds h => by match ds, h with | [_, _], _ => exact ⟨rfl, rfl, rfl⟩)
      (ChangeSpec.witness_shaped (enc := enc) (C := Tryd.checked) (os := os) (X := fun w _ => laidMetH Tryd.prog [("mintmark/perm.accesses", Rows.laid_mintmark_perm_accesses), ("mintmark/bounds.places", Rows.laid_mintmark_bounds_places)] w) false (World.doorLaid Tryd.prog 400 os) #[.agg #[.bool false, .int .u64 0, .int .u64 0], .int .u64 0] 8 rfl (World.shaped_of_RefB (by kernel_rfl) (by kernel_rfl)) (by kernel_rfl) (by kernel_rfl) (by kernel_rfl) (both_met os _)) walks)
set_option maxRecDepth 100000 in
theorem proved : Rows.AlgebraEntersCardSaid :=
  Claim7.holds_tied_plain_at .later [] [.data, .data] true _ false said (fun _ h => by cases h) (by kernel_rfl) (fun _ h => by cases h) algebraEnters_row_tie rfl ⟨rfl, rfl⟩ (by kernel_rfl) rfl
    (fun f fn hf hfn => by
      obtain rfl : f = 9 := Option.some.inj ((show Tryd.prog.funcNamed "mintmark/mintmarklaw06.AlgebraEnters" = some 9 by kernel_rfl).symm.trans hf) |>.symm
      obtain rfl : fn = Tryd.f9 := (Option.some.inj (Tryd.func9.symm.trans hfn)).symm
      exact ⟨by kernel_rfl, fun j t ht => by
        rw [Tryd.params9] at ht
        have hm : t ∈ [24, 22] := by have := Array.mem_of_getElem? ht; simp at this; simp; first | omega | grind
        have hall : ([24, 22].all fun u => !Tryd.prog.wantsStandIn u) = true := by kernel_rfl
        exact (show Tryd.prog.wantsStandIn t = false by simpa using List.all_eq_true.1 hall t hm)⟩)
    (by kernel_rfl)
end Go.Proofs.YtbncoiejbclpjaaDoor.AlgebraEnters
