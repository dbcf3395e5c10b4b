/-
  AlgebraReturns holds: for every c, d and n the law returns true and turns nothing that was there, where the table of places holds what the program's text lays.
-/
import Derived.Test.YtbncoiejbclpjaaDoorTabLaid03
import Derived.Test.YtbncoiejbclpjaaDoorAlgLaw
namespace Go.Proofs.YtbncoiejbclpjaaDoor.AlgebraReturns
open Go.RowKit Words FieldMath BoundsMath

theorem field_tag (q : Bool) (M A : Int) (W : World) : (Instr.field 24 (.agg #[.bool q, .int .u64 M, .int .u64 A]) 0).run Tryd.prog W = .ok (.bool q) W := by kernel_rfl

theorem ne_cap (q r : Bool) (M A N B : Int) : ∀ W, (binOp .neq 24 (.agg #[.bool q, .int .u64 M, .int .u64 A]) (.agg #[.bool r, .int .u64 N, .int .u64 B])).run Tryd.prog W = .ok (.bool (!decide (q = r ∧ M = N ∧ A = B))) W := by
  intro W
  by_cases h1 : q = r <;> by_cases h2 : M = N <;> by_cases h3 : A = B <;> simp [go_sem, h1, h2, h3]

set_option maxRecDepth 100000 in
set_option maxHeartbeats 8000000 in
theorem walk_nn (q OQ LA LC : Bool) (M A D N A1 M2 M3 B U P3 P K : Int) (c1 : ∀ W, Tab W → Calls Tryd.prog 14 #[.agg #[.bool q, .int .u64 M, .int .u64 A], .int .u64 D] W (Makes (.agg #[.bool false, .int .u64 M, .int .u64 A1]) W)) (c3 : ∀ W, Tab W → Calls Tryd.prog 15 #[.agg #[.bool q, .int .u64 M, .int .u64 A], .int .u64 N, .bool true] W (Makes (.agg #[.bool false, .int .u64 M2, .int .u64 A]) W)) (c9 : ∀ W, Tab W → Calls Tryd.prog 17 #[.agg #[.bool q, .int .u64 M, .int .u64 A], .int .u64 D] W (Makes (.agg #[.bool OQ, .int .u64 M3, .int .u64 A]) W)) (c10 : ∀ W, Tab W → Calls Tryd.prog 33 #[.agg #[.bool OQ, .int .u64 M3, .int .u64 A]] W (Makes (.tuple #[.agg #[.int .u64 B, .int .u64 U, .int .u64 P3, .int .u64 K], .bool LA]) W)) (c11 : ∀ W, Tab W → Calls Tryd.prog 33 #[.agg #[.bool q, .int .u64 M, .int .u64 A]] W (Makes (.tuple #[.agg #[.int .u64 B, .int .u64 U, .int .u64 P, .int .u64 K], .bool LC]) W)) (c12 : ∀ W, Tab W → Calls Tryd.prog 17 #[.agg #[.bool OQ, .int .u64 M3, .int .u64 A], .int .u64 D] W (Makes (.agg #[.bool OQ, .int .u64 M3, .int .u64 A]) W)) (cO : ∀ W, Tab W → Calls Tryd.prog 19 #[] W (Makes (.bool true) W)) (hP : bits .and .u64 P D = P3) (w : World) (hT : Tab w) :
    Calls Tryd.prog 8 #[.agg #[.bool q, .int .u64 M, .int .u64 A], .int .u64 D, .int .u64 N] w (Makes (.bool true) w) := by
  have Cc1 := hide c1
  have Cc3 := hide c3
  have Cc9 := hide c9
  have Cc10 := hide c10
  have Cc11 := hide c11
  have Cc12 := hide c12
  have CcO := hide cO
  clear c1 c3 c9 c10 c11 c12 cO
  have FT := field_tag
  have E1 := eq_cap OQ OQ M3 A M3 A
  rw [decide_eq_true ⟨rfl, rfl, rfl⟩] at E1
  have E2 := eq_span B U B U
  rw [decide_eq_true ⟨rfl, rfl⟩] at E2
  have SS := cell_same
  have LB' := ltB_add
  have LS := ltB_self
  have LA' := alloc_reads
  have LH := alloc_holds
  go_enter Tryd.func8, Tryd.ntmps8
  go_upto_region 2 with (first | (go_at_call 14; (first | ((with_reducible refine (Cc1.out _ ?_).mono ?_); (refine hT.behind ?_; repeat (first | with_reducible assumption | with_reducible exact Below.refl _ _ | with_reducible refine Below.drew ?_ | with_reducible refine below_drewN ?_ _ | with_reducible refine bw_alloc ?_ _ | (with_reducible refine bw_set ?_ ?_ _; focus (dsimp only; omega)) | (with_reducible apply bw_behind; with_reducible assumption))))); rintro e wa ⟨rfl, hba⟩; have hra := below_reads hba; have hha := below_holds hba; obtain ⟨ma, hsa⟩ := below_grew hba))

  refine wp_abs (fun W => Tab W ∧ Below w.heap.size w W ∧ W.cell? ⟨w.heap.size, 0, none⟩ = some (.bool q) ∧ W.cell? ⟨w.heap.size, 1, none⟩ = some (.int .u64 M) ∧ W.cell? ⟨w.heap.size, 2, none⟩ = some (.int .u64 A) ∧ W.cell? ⟨w.heap.size + 1 + ma, 0, none⟩ = some (.bool false) ∧ W.cell? ⟨w.heap.size + 1 + ma, 1, none⟩ = some (.int .u64 M) ∧ W.cell? ⟨w.heap.size + 1 + ma, 2, none⟩ = some (.int .u64 A1)) ?_ ?_
  · refine ⟨?_, ?_, ?_, ?_, ?_, ?_, ?_, ?_⟩
    all_goals (first | with_reducible assumption | ((repeat (first | with_reducible assumption | with_reducible refine c_dr _ ?_ | with_reducible refine c_d1 ?_ | with_reducible refine c_al _ ?_ | (with_reducible refine c_set ?_ ?_; focus (dsimp only; omega)) | (with_reducible apply c_be; with_reducible assumption))); done) | ((repeat (first | with_reducible assumption | with_reducible refine o_dr _ ?_ | with_reducible refine o_d1 ?_ | with_reducible refine o_set ?_ | (with_reducible refine o_new ?_ ?_; (focus (simp)); (focus (simp))) | with_reducible refine o_al _ ?_ | (with_reducible apply o_be; with_reducible assumption))); done) | ((repeat (first | with_reducible assumption | with_reducible exact Below.refl _ _ | with_reducible refine Below.drew ?_ | with_reducible refine below_drewN ?_ _ | with_reducible refine bw_alloc ?_ _ | (with_reducible refine bw_set ?_ ?_ _; focus (dsimp only; omega)) | (with_reducible apply bw_behind; with_reducible assumption))); done) | (refine hT.behind ?_; (repeat (first | with_reducible assumption | with_reducible exact Below.refl _ _ | with_reducible refine Below.drew ?_ | with_reducible refine below_drewN ?_ _ | with_reducible refine bw_alloc ?_ _ | (with_reducible refine bw_set ?_ ?_ _; focus (dsimp only; omega)) | (with_reducible apply bw_behind; with_reducible assumption))); done) | (simp [go_sem, *]; omega) | (simp (maxDischargeDepth := 4) [go_sem, *]; done))
  rintro w0p ⟨hT0p, hB0p, cp0, cp1, cp2, cp3, cp4, cp5⟩
  have yp0 := behind_cell0 cp0
  have yp1 := behind_cell0 cp1
  have yp2 := behind_cell0 cp2
  have yp3 := behind_cell0 cp3
  have yp4 := behind_cell0 cp4
  have yp5 := behind_cell0 cp5
  have hsome := Behind.any w0p
  clear cp0 cp1 cp2 cp3 cp4 cp5
  refine wp_region_behind w0p (by kernel_rfl) (by kernel_rfl) (Below.refl _ _) ?_
  repeat (go_big_quiet_step (first | (go_at_call 14; with_reducible first | exact behind_call Cc1.out hT0p _)))
  refine wpQuiet_nil ?_
  rintro _ ⟨y, rfl⟩
  have hTy := hT0p.behind y.below
  have hBy := bw_behind y.below hB0p
  have xp0 := yp0 y
  have xp1 := yp1 y
  have xp2 := yp2 y
  have xp3 := yp3 y
  have xp4 := yp4 y
  have xp5 := yp5 y
  clear hsome yp0 yp1 yp2 yp3 yp4 yp5
  obtain ⟨w1p, hw1⟩ : ∃ W, W = y.world := ⟨_, rfl⟩
  rw [← hw1] at hTy hBy xp0 xp1 xp2 xp3 xp4 xp5 ⊢
  clear hw1 y hT0p hB0p
  have hlt := World.block_lt_of_cell? w1p _ xp0
  obtain ⟨k1, hk1⟩ : ∃ k, w1p.heap.size = w.heap.size + 1 + k := ⟨w1p.heap.size - (w.heap.size + 1), by dsimp only at hlt; omega⟩
  clear hlt
  clear xp3 xp4 xp5
  go_upto_region 5 with (first | (go_at_call 15; (first | ((with_reducible refine (Cc3.out _ ?_).mono ?_); (refine hT.behind ?_; repeat (first | with_reducible assumption | with_reducible exact Below.refl _ _ | with_reducible refine Below.drew ?_ | with_reducible refine below_drewN ?_ _ | with_reducible refine bw_alloc ?_ _ | (with_reducible refine bw_set ?_ ?_ _; focus (dsimp only; omega)) | (with_reducible apply bw_behind; with_reducible assumption))))); rintro e wb ⟨rfl, hbb⟩; have hrb := below_reads hbb; have hhb := below_holds hbb; obtain ⟨mb, hsb⟩ := below_grew hbb))

  refine wp_abs (fun W => Tab W ∧ Below w.heap.size w W ∧ W.cell? ⟨w.heap.size, 0, none⟩ = some (.bool q) ∧ W.cell? ⟨w.heap.size, 1, none⟩ = some (.int .u64 M) ∧ W.cell? ⟨w.heap.size, 2, none⟩ = some (.int .u64 A) ∧ W.cell? ⟨w.heap.size + 1 + k1 + mb, 0, none⟩ = some (.bool false) ∧ W.cell? ⟨w.heap.size + 1 + k1 + mb, 1, none⟩ = some (.int .u64 M2) ∧ W.cell? ⟨w.heap.size + 1 + k1 + mb, 2, none⟩ = some (.int .u64 A)) ?_ ?_
  · refine ⟨?_, ?_, ?_, ?_, ?_, ?_, ?_, ?_⟩
    all_goals (first | with_reducible assumption | ((repeat (first | with_reducible assumption | with_reducible refine c_dr _ ?_ | with_reducible refine c_d1 ?_ | with_reducible refine c_al _ ?_ | (with_reducible refine c_set ?_ ?_; focus (dsimp only; omega)) | (with_reducible apply c_be; with_reducible assumption))); done) | ((repeat (first | with_reducible assumption | with_reducible refine o_dr _ ?_ | with_reducible refine o_d1 ?_ | with_reducible refine o_set ?_ | (with_reducible refine o_new ?_ ?_; (focus (simp)); (focus (simp))) | with_reducible refine o_al _ ?_ | (with_reducible apply o_be; with_reducible assumption))); done) | ((repeat (first | with_reducible assumption | with_reducible exact Below.refl _ _ | with_reducible refine Below.drew ?_ | with_reducible refine below_drewN ?_ _ | with_reducible refine bw_alloc ?_ _ | (with_reducible refine bw_set ?_ ?_ _; focus (dsimp only; omega)) | (with_reducible apply bw_behind; with_reducible assumption))); done) | (refine hT.behind ?_; (repeat (first | with_reducible assumption | with_reducible exact Below.refl _ _ | with_reducible refine Below.drew ?_ | with_reducible refine below_drewN ?_ _ | with_reducible refine bw_alloc ?_ _ | (with_reducible refine bw_set ?_ ?_ _; focus (dsimp only; omega)) | (with_reducible apply bw_behind; with_reducible assumption))); done) | (simp [go_sem, *]; omega) | (simp (maxDischargeDepth := 4) [go_sem, *]; done))
  rintro w0q ⟨hT0q, hB0q, cq0, cq1, cq2, cq3, cq4, cq5⟩
  have yq0 := behind_cell0 cq0
  have yq1 := behind_cell0 cq1
  have yq2 := behind_cell0 cq2
  have yq3 := behind_cell0 cq3
  have yq4 := behind_cell0 cq4
  have yq5 := behind_cell0 cq5
  have hsome := Behind.any w0q
  clear cq0 cq1 cq2 cq3 cq4 cq5
  refine wp_region_behind w0q (by kernel_rfl) (by kernel_rfl) (Below.refl _ _) ?_
  repeat (go_big_quiet_step (first | (go_at_call 15; with_reducible first | exact behind_call Cc3.out hT0q _)))
  refine wpQuiet_nil ?_
  rintro _ ⟨y, rfl⟩
  have hTy := hT0q.behind y.below
  have hBy := bw_behind y.below hB0q
  have xq0 := yq0 y
  have xq1 := yq1 y
  have xq2 := yq2 y
  have xq3 := yq3 y
  have xq4 := yq4 y
  have xq5 := yq5 y
  clear hsome yq0 yq1 yq2 yq3 yq4 yq5
  obtain ⟨w1q, hw1⟩ : ∃ W, W = y.world := ⟨_, rfl⟩
  rw [← hw1] at hTy hBy xq0 xq1 xq2 xq3 xq4 xq5 ⊢
  clear hw1 y hT0q hB0q
  have hlt := World.block_lt_of_cell? w1q _ xq0
  obtain ⟨k2, hk2⟩ : ∃ k, w1q.heap.size = w.heap.size + 1 + k := ⟨w1q.heap.size - (w.heap.size + 1), by dsimp only at hlt; omega⟩
  clear hlt
  clear xq3 xq4 xq5
  go_upto_region 10 with (first | (go_at_call 17; (first | ((with_reducible refine (Cc9.out _ ?_).mono ?_); (refine hT.behind ?_; repeat (first | with_reducible assumption | with_reducible exact Below.refl _ _ | with_reducible refine Below.drew ?_ | with_reducible refine below_drewN ?_ _ | with_reducible refine bw_alloc ?_ _ | (with_reducible refine bw_set ?_ ?_ _; focus (dsimp only; omega)) | (with_reducible apply bw_behind; with_reducible assumption))))); rintro e wd ⟨rfl, hbd⟩; have hrd := below_reads hbd; have hhd := below_holds hbd; obtain ⟨md, hsd⟩ := below_grew hbd) | (go_at_call 33; first | ((first | ((with_reducible refine (Cc10.out _ ?_).mono ?_); (refine hT.behind ?_; repeat (first | with_reducible assumption | with_reducible exact Below.refl _ _ | with_reducible refine Below.drew ?_ | with_reducible refine below_drewN ?_ _ | with_reducible refine bw_alloc ?_ _ | (with_reducible refine bw_set ?_ ?_ _; focus (dsimp only; omega)) | (with_reducible apply bw_behind; with_reducible assumption))))); rintro e we ⟨rfl, hbe⟩; have hre := below_reads hbe; have hhe := below_holds hbe; obtain ⟨me, hse⟩ := below_grew hbe) | ((first | ((with_reducible refine (Cc11.out _ ?_).mono ?_); (refine hT.behind ?_; repeat (first | with_reducible assumption | with_reducible exact Below.refl _ _ | with_reducible refine Below.drew ?_ | with_reducible refine below_drewN ?_ _ | with_reducible refine bw_alloc ?_ _ | (with_reducible refine bw_set ?_ ?_ _; focus (dsimp only; omega)) | (with_reducible apply bw_behind; with_reducible assumption))))); rintro e wf ⟨rfl, hbf⟩; have hrf := below_reads hbf; have hhf := below_holds hbf; obtain ⟨mf, hsf⟩ := below_grew hbf)))

  refine wp_abs (fun W => Tab W ∧ Below w.heap.size w W ∧ W.cell? ⟨w.heap.size + 1 + k2 + md, 0, none⟩ = some (.bool OQ) ∧ W.cell? ⟨w.heap.size + 1 + k2 + md, 1, none⟩ = some (.int .u64 M3) ∧ W.cell? ⟨w.heap.size + 1 + k2 + md, 2, none⟩ = some (.int .u64 A) ∧ W.cell? ⟨w.heap.size + 1 + k2 + md + 1 + me, 0, none⟩ = some (.int .u64 B) ∧ W.cell? ⟨w.heap.size + 1 + k2 + md + 1 + me, 1, none⟩ = some (.int .u64 U) ∧ W.cell? ⟨w.heap.size + 1 + k2 + md + 1 + me, 2, none⟩ = some (.int .u64 P3) ∧ W.cell? ⟨w.heap.size + 1 + k2 + md + 1 + me, 3, none⟩ = some (.int .u64 K) ∧ W.cell? ⟨w.heap.size + 1 + k2 + md + 1 + me + 1 + mf, 0, none⟩ = some (.int .u64 B) ∧ W.cell? ⟨w.heap.size + 1 + k2 + md + 1 + me + 1 + mf, 1, none⟩ = some (.int .u64 U) ∧ W.cell? ⟨w.heap.size + 1 + k2 + md + 1 + me + 1 + mf, 2, none⟩ = some (.int .u64 P) ∧ W.cell? ⟨w.heap.size + 1 + k2 + md + 1 + me + 1 + mf, 3, none⟩ = some (.int .u64 K)) ?_ ?_
  · refine ⟨?_, ?_, ?_, ?_, ?_, ?_, ?_, ?_, ?_, ?_, ?_, ?_, ?_⟩
    all_goals (first | with_reducible assumption | ((repeat (first | with_reducible assumption | with_reducible refine c_dr _ ?_ | with_reducible refine c_d1 ?_ | with_reducible refine c_al _ ?_ | (with_reducible refine c_set ?_ ?_; focus (dsimp only; omega)) | (with_reducible apply c_be; with_reducible assumption))); done) | ((repeat (first | with_reducible assumption | with_reducible refine o_dr _ ?_ | with_reducible refine o_d1 ?_ | with_reducible refine o_set ?_ | (with_reducible refine o_new ?_ ?_; (focus (simp)); (focus (simp))) | with_reducible refine o_al _ ?_ | (with_reducible apply o_be; with_reducible assumption))); done) | ((repeat (first | with_reducible assumption | with_reducible exact Below.refl _ _ | with_reducible refine Below.drew ?_ | with_reducible refine below_drewN ?_ _ | with_reducible refine bw_alloc ?_ _ | (with_reducible refine bw_set ?_ ?_ _; focus (dsimp only; omega)) | (with_reducible apply bw_behind; with_reducible assumption))); done) | (refine hT.behind ?_; (repeat (first | with_reducible assumption | with_reducible exact Below.refl _ _ | with_reducible refine Below.drew ?_ | with_reducible refine below_drewN ?_ _ | with_reducible refine bw_alloc ?_ _ | (with_reducible refine bw_set ?_ ?_ _; focus (dsimp only; omega)) | (with_reducible apply bw_behind; with_reducible assumption))); done) | (simp [go_sem, *]; omega) | (simp (maxDischargeDepth := 4) [go_sem, *]; done))
  rintro w0r ⟨hT0r, hB0r, cr0, cr1, cr2, cr3, cr4, cr5, cr6, cr7, cr8, cr9, cr10⟩
  have yr0 := behind_cell0 cr0
  have yr1 := behind_cell0 cr1
  have yr2 := behind_cell0 cr2
  have yr3 := behind_cell0 cr3
  have yr4 := behind_cell0 cr4
  have yr5 := behind_cell0 cr5
  have yr6 := behind_cell0 cr6
  have yr7 := behind_cell0 cr7
  have yr8 := behind_cell0 cr8
  have yr9 := behind_cell0 cr9
  have yr10 := behind_cell0 cr10
  have hsome := Behind.any w0r
  clear cr0 cr1 cr2 cr3 cr4 cr5 cr6 cr7 cr8 cr9 cr10
  refine wp_region_behind w0r (by kernel_rfl) (by kernel_rfl) (Below.refl _ _) ?_
  repeat (go_big_quiet_step (first | (go_at_call 17; with_reducible first | exact behind_call Cc12.out hT0r _) | (go_at_call 19; with_reducible first | exact behind_call CcO.out hT0r _)))
  refine wpQuiet_nil ?_
  rintro _ ⟨y, rfl⟩
  have hTy := hT0r.behind y.below
  have hBy := bw_behind y.below hB0r
  have xr0 := yr0 y
  have xr1 := yr1 y
  have xr2 := yr2 y
  have xr3 := yr3 y
  have xr4 := yr4 y
  have xr5 := yr5 y
  have xr6 := yr6 y
  have xr7 := yr7 y
  have xr8 := yr8 y
  have xr9 := yr9 y
  have xr10 := yr10 y
  clear hsome yr0 yr1 yr2 yr3 yr4 yr5 yr6 yr7 yr8 yr9 yr10
  obtain ⟨w1r, hw1⟩ : ∃ W, W = y.world := ⟨_, rfl⟩
  rw [← hw1] at hTy hBy xr0 xr1 xr2 xr3 xr4 xr5 xr6 xr7 xr8 xr9 xr10 ⊢
  clear hw1 y hT0r hB0r
  go_wp2
  refine bodyPost_ret (v := .bool true) (by simp (maxDischargeDepth := 4) [results, Tryd.results8, go_sem, *]) rfl ?_
  refine ⟨rfl, ?_⟩
  repeat (first | with_reducible assumption | with_reducible exact Below.refl _ _ | with_reducible refine Below.drew ?_ | with_reducible refine below_drewN ?_ _ | with_reducible refine bw_alloc ?_ _ | (with_reducible refine bw_set ?_ ?_ _; focus (dsimp only; omega)) | (with_reducible apply bw_behind; with_reducible assumption))

set_option maxRecDepth 100000 in
set_option maxHeartbeats 8000000 in
theorem walk_ny (LA LC : Bool) (M A D N A1 M2 M3 B U P3 P K M4 : Int) (c1 : ∀ W, Tab W → Calls Tryd.prog 14 #[.agg #[.bool true, .int .u64 M, .int .u64 A], .int .u64 D] W (Makes (.agg #[.bool false, .int .u64 M, .int .u64 A1]) W)) (c3 : ∀ W, Tab W → Calls Tryd.prog 15 #[.agg #[.bool true, .int .u64 M, .int .u64 A], .int .u64 N, .bool true] W (Makes (.agg #[.bool true, .int .u64 M2, .int .u64 A]) W)) (c4 : ∀ W, Tab W → Calls Tryd.prog 35 #[.agg #[.bool true, .int .u64 M2, .int .u64 A]] W (Makes (.int .u64 N) W)) (c5 : ∀ W, Tab W → Calls Tryd.prog 36 #[.agg #[.bool true, .int .u64 M2, .int .u64 A]] W (Makes (.int .u64 A) W)) (c6 : ∀ W, Tab W → Calls Tryd.prog 37 #[.agg #[.bool true, .int .u64 M2, .int .u64 A]] W (Makes (.int .u64 0) W)) (c7 : ∀ W, Tab W → Calls Tryd.prog 15 #[.agg #[.bool true, .int .u64 M, .int .u64 A], .int .u64 N, .bool false] W (Makes (.agg #[.bool true, .int .u64 M4, .int .u64 A]) W)) (c8 : ∀ W, Tab W → Calls Tryd.prog 38 #[.agg #[.bool true, .int .u64 M2, .int .u64 A], .agg #[.bool true, .int .u64 M, .int .u64 A]] W (Makes (.bool true) W)) (c9 : ∀ W, Tab W → Calls Tryd.prog 17 #[.agg #[.bool true, .int .u64 M, .int .u64 A], .int .u64 D] W (Makes (.agg #[.bool true, .int .u64 M3, .int .u64 A]) W)) (c10 : ∀ W, Tab W → Calls Tryd.prog 33 #[.agg #[.bool true, .int .u64 M3, .int .u64 A]] W (Makes (.tuple #[.agg #[.int .u64 B, .int .u64 U, .int .u64 P3, .int .u64 K], .bool LA]) W)) (c11 : ∀ W, Tab W → Calls Tryd.prog 33 #[.agg #[.bool true, .int .u64 M, .int .u64 A]] W (Makes (.tuple #[.agg #[.int .u64 B, .int .u64 U, .int .u64 P, .int .u64 K], .bool LC]) W)) (c12 : ∀ W, Tab W → Calls Tryd.prog 17 #[.agg #[.bool true, .int .u64 M3, .int .u64 A], .int .u64 D] W (Makes (.agg #[.bool true, .int .u64 M3, .int .u64 A]) W)) (cO : ∀ W, Tab W → Calls Tryd.prog 19 #[] W (Makes (.bool true) W)) (hP : bits .and .u64 P D = P3) (w : World) (hT : Tab w) :
    Calls Tryd.prog 8 #[.agg #[.bool true, .int .u64 M, .int .u64 A], .int .u64 D, .int .u64 N] w (Makes (.bool true) w) := by
  have Cc1 := hide c1
  have Cc3 := hide c3
  have Cc4 := hide c4
  have Cc5 := hide c5
  have Cc6 := hide c6
  have Cc7 := hide c7
  have Cc8 := hide c8
  have Cc9 := hide c9
  have Cc10 := hide c10
  have Cc11 := hide c11
  have Cc12 := hide c12
  have CcO := hide cO
  clear c1 c3 c4 c5 c6 c7 c8 c9 c10 c11 c12 cO
  have FT := field_tag
  have E1 := eq_cap true true M3 A M3 A
  rw [decide_eq_true ⟨rfl, rfl, rfl⟩] at E1
  have E2 := eq_span B U B U
  rw [decide_eq_true ⟨rfl, rfl⟩] at E2
  have SS := cell_same
  have LB' := ltB_add
  have LS := ltB_self
  have LA' := alloc_reads
  have LH := alloc_holds
  go_enter Tryd.func8, Tryd.ntmps8
  go_upto_region 2 with (first | (go_at_call 14; (first | ((with_reducible refine (Cc1.out _ ?_).mono ?_); (refine hT.behind ?_; repeat (first | with_reducible assumption | with_reducible exact Below.refl _ _ | with_reducible refine Below.drew ?_ | with_reducible refine below_drewN ?_ _ | with_reducible refine bw_alloc ?_ _ | (with_reducible refine bw_set ?_ ?_ _; focus (dsimp only; omega)) | (with_reducible apply bw_behind; with_reducible assumption))))); rintro e wa ⟨rfl, hba⟩; have hra := below_reads hba; have hha := below_holds hba; obtain ⟨ma, hsa⟩ := below_grew hba))

  refine wp_abs (fun W => Tab W ∧ Below w.heap.size w W ∧ W.cell? ⟨w.heap.size, 0, none⟩ = some (.bool true) ∧ W.cell? ⟨w.heap.size, 1, none⟩ = some (.int .u64 M) ∧ W.cell? ⟨w.heap.size, 2, none⟩ = some (.int .u64 A) ∧ W.cell? ⟨w.heap.size + 1 + ma, 0, none⟩ = some (.bool false) ∧ W.cell? ⟨w.heap.size + 1 + ma, 1, none⟩ = some (.int .u64 M) ∧ W.cell? ⟨w.heap.size + 1 + ma, 2, none⟩ = some (.int .u64 A1)) ?_ ?_
  · refine ⟨?_, ?_, ?_, ?_, ?_, ?_, ?_, ?_⟩
    all_goals (first | with_reducible assumption | ((repeat (first | with_reducible assumption | with_reducible refine c_dr _ ?_ | with_reducible refine c_d1 ?_ | with_reducible refine c_al _ ?_ | (with_reducible refine c_set ?_ ?_; focus (dsimp only; omega)) | (with_reducible apply c_be; with_reducible assumption))); done) | ((repeat (first | with_reducible assumption | with_reducible refine o_dr _ ?_ | with_reducible refine o_d1 ?_ | with_reducible refine o_set ?_ | (with_reducible refine o_new ?_ ?_; (focus (simp)); (focus (simp))) | with_reducible refine o_al _ ?_ | (with_reducible apply o_be; with_reducible assumption))); done) | ((repeat (first | with_reducible assumption | with_reducible exact Below.refl _ _ | with_reducible refine Below.drew ?_ | with_reducible refine below_drewN ?_ _ | with_reducible refine bw_alloc ?_ _ | (with_reducible refine bw_set ?_ ?_ _; focus (dsimp only; omega)) | (with_reducible apply bw_behind; with_reducible assumption))); done) | (refine hT.behind ?_; (repeat (first | with_reducible assumption | with_reducible exact Below.refl _ _ | with_reducible refine Below.drew ?_ | with_reducible refine below_drewN ?_ _ | with_reducible refine bw_alloc ?_ _ | (with_reducible refine bw_set ?_ ?_ _; focus (dsimp only; omega)) | (with_reducible apply bw_behind; with_reducible assumption))); done) | (simp [go_sem, *]; omega) | (simp (maxDischargeDepth := 4) [go_sem, *]; done))
  rintro w0p ⟨hT0p, hB0p, cp0, cp1, cp2, cp3, cp4, cp5⟩
  have yp0 := behind_cell0 cp0
  have yp1 := behind_cell0 cp1
  have yp2 := behind_cell0 cp2
  have yp3 := behind_cell0 cp3
  have yp4 := behind_cell0 cp4
  have yp5 := behind_cell0 cp5
  have hsome := Behind.any w0p
  clear cp0 cp1 cp2 cp3 cp4 cp5
  refine wp_region_behind w0p (by kernel_rfl) (by kernel_rfl) (Below.refl _ _) ?_
  repeat (go_big_quiet_step (first | (go_at_call 14; with_reducible first | exact behind_call Cc1.out hT0p _)))
  refine wpQuiet_nil ?_
  rintro _ ⟨y, rfl⟩
  have hTy := hT0p.behind y.below
  have hBy := bw_behind y.below hB0p
  have xp0 := yp0 y
  have xp1 := yp1 y
  have xp2 := yp2 y
  have xp3 := yp3 y
  have xp4 := yp4 y
  have xp5 := yp5 y
  clear hsome yp0 yp1 yp2 yp3 yp4 yp5
  obtain ⟨w1p, hw1⟩ : ∃ W, W = y.world := ⟨_, rfl⟩
  rw [← hw1] at hTy hBy xp0 xp1 xp2 xp3 xp4 xp5 ⊢
  clear hw1 y hT0p hB0p
  have hlt := World.block_lt_of_cell? w1p _ xp0
  obtain ⟨k1, hk1⟩ : ∃ k, w1p.heap.size = w.heap.size + 1 + k := ⟨w1p.heap.size - (w.heap.size + 1), by dsimp only at hlt; omega⟩
  clear hlt
  clear xp3 xp4 xp5
  go_upto_region 5 with (first | (go_at_call 15; (first | ((with_reducible refine (Cc3.out _ ?_).mono ?_); (refine hT.behind ?_; repeat (first | with_reducible assumption | with_reducible exact Below.refl _ _ | with_reducible refine Below.drew ?_ | with_reducible refine below_drewN ?_ _ | with_reducible refine bw_alloc ?_ _ | (with_reducible refine bw_set ?_ ?_ _; focus (dsimp only; omega)) | (with_reducible apply bw_behind; with_reducible assumption))))); rintro e wb ⟨rfl, hbb⟩; have hrb := below_reads hbb; have hhb := below_holds hbb; obtain ⟨mb, hsb⟩ := below_grew hbb))

  refine wp_abs (fun W => Tab W ∧ Below w.heap.size w W ∧ W.cell? ⟨w.heap.size, 0, none⟩ = some (.bool true) ∧ W.cell? ⟨w.heap.size, 1, none⟩ = some (.int .u64 M) ∧ W.cell? ⟨w.heap.size, 2, none⟩ = some (.int .u64 A) ∧ W.cell? ⟨w.heap.size + 1 + k1 + mb, 0, none⟩ = some (.bool true) ∧ W.cell? ⟨w.heap.size + 1 + k1 + mb, 1, none⟩ = some (.int .u64 M2) ∧ W.cell? ⟨w.heap.size + 1 + k1 + mb, 2, none⟩ = some (.int .u64 A)) ?_ ?_
  · refine ⟨?_, ?_, ?_, ?_, ?_, ?_, ?_, ?_⟩
    all_goals (first | with_reducible assumption | ((repeat (first | with_reducible assumption | with_reducible refine c_dr _ ?_ | with_reducible refine c_d1 ?_ | with_reducible refine c_al _ ?_ | (with_reducible refine c_set ?_ ?_; focus (dsimp only; omega)) | (with_reducible apply c_be; with_reducible assumption))); done) | ((repeat (first | with_reducible assumption | with_reducible refine o_dr _ ?_ | with_reducible refine o_d1 ?_ | with_reducible refine o_set ?_ | (with_reducible refine o_new ?_ ?_; (focus (simp)); (focus (simp))) | with_reducible refine o_al _ ?_ | (with_reducible apply o_be; with_reducible assumption))); done) | ((repeat (first | with_reducible assumption | with_reducible exact Below.refl _ _ | with_reducible refine Below.drew ?_ | with_reducible refine below_drewN ?_ _ | with_reducible refine bw_alloc ?_ _ | (with_reducible refine bw_set ?_ ?_ _; focus (dsimp only; omega)) | (with_reducible apply bw_behind; with_reducible assumption))); done) | (refine hT.behind ?_; (repeat (first | with_reducible assumption | with_reducible exact Below.refl _ _ | with_reducible refine Below.drew ?_ | with_reducible refine below_drewN ?_ _ | with_reducible refine bw_alloc ?_ _ | (with_reducible refine bw_set ?_ ?_ _; focus (dsimp only; omega)) | (with_reducible apply bw_behind; with_reducible assumption))); done) | (simp [go_sem, *]; omega) | (simp (maxDischargeDepth := 4) [go_sem, *]; done))
  rintro w0q ⟨hT0q, hB0q, cq0, cq1, cq2, cq3, cq4, cq5⟩
  have yq0 := behind_cell0 cq0
  have yq1 := behind_cell0 cq1
  have yq2 := behind_cell0 cq2
  have yq3 := behind_cell0 cq3
  have yq4 := behind_cell0 cq4
  have yq5 := behind_cell0 cq5
  have hsome := Behind.any w0q
  clear cq0 cq1 cq2 cq3 cq4 cq5
  refine wp_region_behind w0q (by kernel_rfl) (by kernel_rfl) (Below.refl _ _) ?_
  repeat (go_big_quiet_step (first | (go_at_call 35; with_reducible first | exact behind_call Cc4.out hT0q _) | (go_at_call 36; with_reducible first | exact behind_call Cc5.out hT0q _) | (go_at_call 37; with_reducible first | exact behind_call Cc6.out hT0q _) | (go_at_call 15; with_reducible first | exact behind_call Cc7.out hT0q _) | (go_at_call 38; with_reducible first | exact behind_call Cc8.out hT0q _)))
  refine wpQuiet_nil ?_
  rintro _ ⟨y, rfl⟩
  have hTy := hT0q.behind y.below
  have hBy := bw_behind y.below hB0q
  have xq0 := yq0 y
  have xq1 := yq1 y
  have xq2 := yq2 y
  have xq3 := yq3 y
  have xq4 := yq4 y
  have xq5 := yq5 y
  clear hsome yq0 yq1 yq2 yq3 yq4 yq5
  obtain ⟨w1q, hw1⟩ : ∃ W, W = y.world := ⟨_, rfl⟩
  rw [← hw1] at hTy hBy xq0 xq1 xq2 xq3 xq4 xq5 ⊢
  clear hw1 y hT0q hB0q
  have hlt := World.block_lt_of_cell? w1q _ xq0
  obtain ⟨k2, hk2⟩ : ∃ k, w1q.heap.size = w.heap.size + 1 + k := ⟨w1q.heap.size - (w.heap.size + 1), by dsimp only at hlt; omega⟩
  clear hlt
  clear xq3 xq4 xq5
  go_upto_region 10 with (first | (go_at_call 17; (first | ((with_reducible refine (Cc9.out _ ?_).mono ?_); (refine hT.behind ?_; repeat (first | with_reducible assumption | with_reducible exact Below.refl _ _ | with_reducible refine Below.drew ?_ | with_reducible refine below_drewN ?_ _ | with_reducible refine bw_alloc ?_ _ | (with_reducible refine bw_set ?_ ?_ _; focus (dsimp only; omega)) | (with_reducible apply bw_behind; with_reducible assumption))))); rintro e wd ⟨rfl, hbd⟩; have hrd := below_reads hbd; have hhd := below_holds hbd; obtain ⟨md, hsd⟩ := below_grew hbd) | (go_at_call 33; first | ((first | ((with_reducible refine (Cc10.out _ ?_).mono ?_); (refine hT.behind ?_; repeat (first | with_reducible assumption | with_reducible exact Below.refl _ _ | with_reducible refine Below.drew ?_ | with_reducible refine below_drewN ?_ _ | with_reducible refine bw_alloc ?_ _ | (with_reducible refine bw_set ?_ ?_ _; focus (dsimp only; omega)) | (with_reducible apply bw_behind; with_reducible assumption))))); rintro e we ⟨rfl, hbe⟩; have hre := below_reads hbe; have hhe := below_holds hbe; obtain ⟨me, hse⟩ := below_grew hbe) | ((first | ((with_reducible refine (Cc11.out _ ?_).mono ?_); (refine hT.behind ?_; repeat (first | with_reducible assumption | with_reducible exact Below.refl _ _ | with_reducible refine Below.drew ?_ | with_reducible refine below_drewN ?_ _ | with_reducible refine bw_alloc ?_ _ | (with_reducible refine bw_set ?_ ?_ _; focus (dsimp only; omega)) | (with_reducible apply bw_behind; with_reducible assumption))))); rintro e wf ⟨rfl, hbf⟩; have hrf := below_reads hbf; have hhf := below_holds hbf; obtain ⟨mf, hsf⟩ := below_grew hbf)))

  refine wp_abs (fun W => Tab W ∧ Below w.heap.size w W ∧ W.cell? ⟨w.heap.size + 1 + k2 + md, 0, none⟩ = some (.bool true) ∧ W.cell? ⟨w.heap.size + 1 + k2 + md, 1, none⟩ = some (.int .u64 M3) ∧ W.cell? ⟨w.heap.size + 1 + k2 + md, 2, none⟩ = some (.int .u64 A) ∧ W.cell? ⟨w.heap.size + 1 + k2 + md + 1 + me, 0, none⟩ = some (.int .u64 B) ∧ W.cell? ⟨w.heap.size + 1 + k2 + md + 1 + me, 1, none⟩ = some (.int .u64 U) ∧ W.cell? ⟨w.heap.size + 1 + k2 + md + 1 + me, 2, none⟩ = some (.int .u64 P3) ∧ W.cell? ⟨w.heap.size + 1 + k2 + md + 1 + me, 3, none⟩ = some (.int .u64 K) ∧ W.cell? ⟨w.heap.size + 1 + k2 + md + 1 + me + 1 + mf, 0, none⟩ = some (.int .u64 B) ∧ W.cell? ⟨w.heap.size + 1 + k2 + md + 1 + me + 1 + mf, 1, none⟩ = some (.int .u64 U) ∧ W.cell? ⟨w.heap.size + 1 + k2 + md + 1 + me + 1 + mf, 2, none⟩ = some (.int .u64 P) ∧ W.cell? ⟨w.heap.size + 1 + k2 + md + 1 + me + 1 + mf, 3, none⟩ = some (.int .u64 K)) ?_ ?_
  · refine ⟨?_, ?_, ?_, ?_, ?_, ?_, ?_, ?_, ?_, ?_, ?_, ?_, ?_⟩
    all_goals (first | with_reducible assumption | ((repeat (first | with_reducible assumption | with_reducible refine c_dr _ ?_ | with_reducible refine c_d1 ?_ | with_reducible refine c_al _ ?_ | (with_reducible refine c_set ?_ ?_; focus (dsimp only; omega)) | (with_reducible apply c_be; with_reducible assumption))); done) | ((repeat (first | with_reducible assumption | with_reducible refine o_dr _ ?_ | with_reducible refine o_d1 ?_ | with_reducible refine o_set ?_ | (with_reducible refine o_new ?_ ?_; (focus (simp)); (focus (simp))) | with_reducible refine o_al _ ?_ | (with_reducible apply o_be; with_reducible assumption))); done) | ((repeat (first | with_reducible assumption | with_reducible exact Below.refl _ _ | with_reducible refine Below.drew ?_ | with_reducible refine below_drewN ?_ _ | with_reducible refine bw_alloc ?_ _ | (with_reducible refine bw_set ?_ ?_ _; focus (dsimp only; omega)) | (with_reducible apply bw_behind; with_reducible assumption))); done) | (refine hT.behind ?_; (repeat (first | with_reducible assumption | with_reducible exact Below.refl _ _ | with_reducible refine Below.drew ?_ | with_reducible refine below_drewN ?_ _ | with_reducible refine bw_alloc ?_ _ | (with_reducible refine bw_set ?_ ?_ _; focus (dsimp only; omega)) | (with_reducible apply bw_behind; with_reducible assumption))); done) | (simp [go_sem, *]; omega) | (simp (maxDischargeDepth := 4) [go_sem, *]; done))
  rintro w0r ⟨hT0r, hB0r, cr0, cr1, cr2, cr3, cr4, cr5, cr6, cr7, cr8, cr9, cr10⟩
  have yr0 := behind_cell0 cr0
  have yr1 := behind_cell0 cr1
  have yr2 := behind_cell0 cr2
  have yr3 := behind_cell0 cr3
  have yr4 := behind_cell0 cr4
  have yr5 := behind_cell0 cr5
  have yr6 := behind_cell0 cr6
  have yr7 := behind_cell0 cr7
  have yr8 := behind_cell0 cr8
  have yr9 := behind_cell0 cr9
  have yr10 := behind_cell0 cr10
  have hsome := Behind.any w0r
  clear cr0 cr1 cr2 cr3 cr4 cr5 cr6 cr7 cr8 cr9 cr10
  refine wp_region_behind w0r (by kernel_rfl) (by kernel_rfl) (Below.refl _ _) ?_
  repeat (go_big_quiet_step (first | (go_at_call 17; with_reducible first | exact behind_call Cc12.out hT0r _) | (go_at_call 19; with_reducible first | exact behind_call CcO.out hT0r _)))
  refine wpQuiet_nil ?_
  rintro _ ⟨y, rfl⟩
  have hTy := hT0r.behind y.below
  have hBy := bw_behind y.below hB0r
  have xr0 := yr0 y
  have xr1 := yr1 y
  have xr2 := yr2 y
  have xr3 := yr3 y
  have xr4 := yr4 y
  have xr5 := yr5 y
  have xr6 := yr6 y
  have xr7 := yr7 y
  have xr8 := yr8 y
  have xr9 := yr9 y
  have xr10 := yr10 y
  clear hsome yr0 yr1 yr2 yr3 yr4 yr5 yr6 yr7 yr8 yr9 yr10
  obtain ⟨w1r, hw1⟩ : ∃ W, W = y.world := ⟨_, rfl⟩
  rw [← hw1] at hTy hBy xr0 xr1 xr2 xr3 xr4 xr5 xr6 xr7 xr8 xr9 xr10 ⊢
  clear hw1 y hT0r hB0r
  go_wp2
  refine bodyPost_ret (v := .bool true) (by simp (maxDischargeDepth := 4) [results, Tryd.results8, go_sem, *]) rfl ?_
  refine ⟨rfl, ?_⟩
  repeat (first | with_reducible assumption | with_reducible exact Below.refl _ _ | with_reducible refine Below.drew ?_ | with_reducible refine below_drewN ?_ _ | with_reducible refine bw_alloc ?_ _ | (with_reducible refine bw_set ?_ ?_ _; focus (dsimp only; omega)) | (with_reducible apply bw_behind; with_reducible assumption))

set_option maxRecDepth 100000 in
set_option maxHeartbeats 8000000 in
theorem walk_yn (LA LC : Bool) (M A D N A1 M2 M3 B U P3 P K ND : Int) (c1 : ∀ W, Tab W → Calls Tryd.prog 14 #[.agg #[.bool true, .int .u64 M, .int .u64 A], .int .u64 D] W (Makes (.agg #[.bool true, .int .u64 M, .int .u64 A1]) W)) (c2 : ∀ W, Tab W → Calls Tryd.prog 14 #[.agg #[.bool true, .int .u64 M, .int .u64 A1], .int .u64 ND] W (Makes (.agg #[.bool true, .int .u64 M, .int .u64 A]) W)) (c3 : ∀ W, Tab W → Calls Tryd.prog 15 #[.agg #[.bool true, .int .u64 M, .int .u64 A], .int .u64 N, .bool true] W (Makes (.agg #[.bool false, .int .u64 M2, .int .u64 A]) W)) (c9 : ∀ W, Tab W → Calls Tryd.prog 17 #[.agg #[.bool true, .int .u64 M, .int .u64 A], .int .u64 D] W (Makes (.agg #[.bool true, .int .u64 M3, .int .u64 A]) W)) (c10 : ∀ W, Tab W → Calls Tryd.prog 33 #[.agg #[.bool true, .int .u64 M3, .int .u64 A]] W (Makes (.tuple #[.agg #[.int .u64 B, .int .u64 U, .int .u64 P3, .int .u64 K], .bool LA]) W)) (c11 : ∀ W, Tab W → Calls Tryd.prog 33 #[.agg #[.bool true, .int .u64 M, .int .u64 A]] W (Makes (.tuple #[.agg #[.int .u64 B, .int .u64 U, .int .u64 P, .int .u64 K], .bool LC]) W)) (c12 : ∀ W, Tab W → Calls Tryd.prog 17 #[.agg #[.bool true, .int .u64 M3, .int .u64 A], .int .u64 D] W (Makes (.agg #[.bool true, .int .u64 M3, .int .u64 A]) W)) (cO : ∀ W, Tab W → Calls Tryd.prog 19 #[] W (Makes (.bool true) W)) (hP : bits .and .u64 P D = P3) (hN : IntKind.u64.wrap (-D) = ND) (w : World) (hT : Tab w) :
    Calls Tryd.prog 8 #[.agg #[.bool true, .int .u64 M, .int .u64 A], .int .u64 D, .int .u64 N] w (Makes (.bool true) w) := by
  have Cc1 := hide c1
  have Cc2 := hide c2
  have Cc3 := hide c3
  have Cc9 := hide c9
  have Cc10 := hide c10
  have Cc11 := hide c11
  have Cc12 := hide c12
  have CcO := hide cO
  clear c1 c2 c3 c9 c10 c11 c12 cO
  have FT := field_tag
  have NE := ne_cap true true M A M A
  rw [decide_eq_true ⟨rfl, rfl, rfl⟩] at NE
  have E1 := eq_cap true true M3 A M3 A
  rw [decide_eq_true ⟨rfl, rfl, rfl⟩] at E1
  have E2 := eq_span B U B U
  rw [decide_eq_true ⟨rfl, rfl⟩] at E2
  have SS := cell_same
  have LB' := ltB_add
  have LS := ltB_self
  have LA' := alloc_reads
  have LH := alloc_holds
  go_enter Tryd.func8, Tryd.ntmps8
  go_upto_region 2 with (first | (go_at_call 14; (first | ((with_reducible refine (Cc1.out _ ?_).mono ?_); (refine hT.behind ?_; repeat (first | with_reducible assumption | with_reducible exact Below.refl _ _ | with_reducible refine Below.drew ?_ | with_reducible refine below_drewN ?_ _ | with_reducible refine bw_alloc ?_ _ | (with_reducible refine bw_set ?_ ?_ _; focus (dsimp only; omega)) | (with_reducible apply bw_behind; with_reducible assumption))))); rintro e wa ⟨rfl, hba⟩; have hra := below_reads hba; have hha := below_holds hba; obtain ⟨ma, hsa⟩ := below_grew hba))

  refine wp_abs (fun W => Tab W ∧ Below w.heap.size w W ∧ W.cell? ⟨w.heap.size, 0, none⟩ = some (.bool true) ∧ W.cell? ⟨w.heap.size, 1, none⟩ = some (.int .u64 M) ∧ W.cell? ⟨w.heap.size, 2, none⟩ = some (.int .u64 A) ∧ W.cell? ⟨w.heap.size + 1 + ma, 0, none⟩ = some (.bool true) ∧ W.cell? ⟨w.heap.size + 1 + ma, 1, none⟩ = some (.int .u64 M) ∧ W.cell? ⟨w.heap.size + 1 + ma, 2, none⟩ = some (.int .u64 A1)) ?_ ?_
  · refine ⟨?_, ?_, ?_, ?_, ?_, ?_, ?_, ?_⟩
    all_goals (first | with_reducible assumption | ((repeat (first | with_reducible assumption | with_reducible refine c_dr _ ?_ | with_reducible refine c_d1 ?_ | with_reducible refine c_al _ ?_ | (with_reducible refine c_set ?_ ?_; focus (dsimp only; omega)) | (with_reducible apply c_be; with_reducible assumption))); done) | ((repeat (first | with_reducible assumption | with_reducible refine o_dr _ ?_ | with_reducible refine o_d1 ?_ | with_reducible refine o_set ?_ | (with_reducible refine o_new ?_ ?_; (focus (simp)); (focus (simp))) | with_reducible refine o_al _ ?_ | (with_reducible apply o_be; with_reducible assumption))); done) | ((repeat (first | with_reducible assumption | with_reducible exact Below.refl _ _ | with_reducible refine Below.drew ?_ | with_reducible refine below_drewN ?_ _ | with_reducible refine bw_alloc ?_ _ | (with_reducible refine bw_set ?_ ?_ _; focus (dsimp only; omega)) | (with_reducible apply bw_behind; with_reducible assumption))); done) | (refine hT.behind ?_; (repeat (first | with_reducible assumption | with_reducible exact Below.refl _ _ | with_reducible refine Below.drew ?_ | with_reducible refine below_drewN ?_ _ | with_reducible refine bw_alloc ?_ _ | (with_reducible refine bw_set ?_ ?_ _; focus (dsimp only; omega)) | (with_reducible apply bw_behind; with_reducible assumption))); done) | (simp [go_sem, *]; omega) | (simp (maxDischargeDepth := 4) [go_sem, *]; done))
  rintro w0p ⟨hT0p, hB0p, cp0, cp1, cp2, cp3, cp4, cp5⟩
  have yp0 := behind_cell0 cp0
  have yp1 := behind_cell0 cp1
  have yp2 := behind_cell0 cp2
  have yp3 := behind_cell0 cp3
  have yp4 := behind_cell0 cp4
  have yp5 := behind_cell0 cp5
  have hsome := Behind.any w0p
  clear cp0 cp1 cp2 cp3 cp4 cp5
  refine wp_region_behind w0p (by kernel_rfl) (by kernel_rfl) (Below.refl _ _) ?_
  repeat (go_big_quiet_step (first | (go_at_call 14; with_reducible first | exact behind_call Cc2.out hT0p _)))
  refine wpQuiet_nil ?_
  rintro _ ⟨y, rfl⟩
  have hTy := hT0p.behind y.below
  have hBy := bw_behind y.below hB0p
  have xp0 := yp0 y
  have xp1 := yp1 y
  have xp2 := yp2 y
  have xp3 := yp3 y
  have xp4 := yp4 y
  have xp5 := yp5 y
  clear hsome yp0 yp1 yp2 yp3 yp4 yp5
  obtain ⟨w1p, hw1⟩ : ∃ W, W = y.world := ⟨_, rfl⟩
  rw [← hw1] at hTy hBy xp0 xp1 xp2 xp3 xp4 xp5 ⊢
  clear hw1 y hT0p hB0p
  have hlt := World.block_lt_of_cell? w1p _ xp0
  obtain ⟨k1, hk1⟩ : ∃ k, w1p.heap.size = w.heap.size + 1 + k := ⟨w1p.heap.size - (w.heap.size + 1), by dsimp only at hlt; omega⟩
  clear hlt
  clear xp3 xp4 xp5
  go_upto_region 5 with (first | (go_at_call 15; (first | ((with_reducible refine (Cc3.out _ ?_).mono ?_); (refine hT.behind ?_; repeat (first | with_reducible assumption | with_reducible exact Below.refl _ _ | with_reducible refine Below.drew ?_ | with_reducible refine below_drewN ?_ _ | with_reducible refine bw_alloc ?_ _ | (with_reducible refine bw_set ?_ ?_ _; focus (dsimp only; omega)) | (with_reducible apply bw_behind; with_reducible assumption))))); rintro e wb ⟨rfl, hbb⟩; have hrb := below_reads hbb; have hhb := below_holds hbb; obtain ⟨mb, hsb⟩ := below_grew hbb))

  refine wp_abs (fun W => Tab W ∧ Below w.heap.size w W ∧ W.cell? ⟨w.heap.size, 0, none⟩ = some (.bool true) ∧ W.cell? ⟨w.heap.size, 1, none⟩ = some (.int .u64 M) ∧ W.cell? ⟨w.heap.size, 2, none⟩ = some (.int .u64 A) ∧ W.cell? ⟨w.heap.size + 1 + k1 + mb, 0, none⟩ = some (.bool false) ∧ W.cell? ⟨w.heap.size + 1 + k1 + mb, 1, none⟩ = some (.int .u64 M2) ∧ W.cell? ⟨w.heap.size + 1 + k1 + mb, 2, none⟩ = some (.int .u64 A)) ?_ ?_
  · refine ⟨?_, ?_, ?_, ?_, ?_, ?_, ?_, ?_⟩
    all_goals (first | with_reducible assumption | ((repeat (first | with_reducible assumption | with_reducible refine c_dr _ ?_ | with_reducible refine c_d1 ?_ | with_reducible refine c_al _ ?_ | (with_reducible refine c_set ?_ ?_; focus (dsimp only; omega)) | (with_reducible apply c_be; with_reducible assumption))); done) | ((repeat (first | with_reducible assumption | with_reducible refine o_dr _ ?_ | with_reducible refine o_d1 ?_ | with_reducible refine o_set ?_ | (with_reducible refine o_new ?_ ?_; (focus (simp)); (focus (simp))) | with_reducible refine o_al _ ?_ | (with_reducible apply o_be; with_reducible assumption))); done) | ((repeat (first | with_reducible assumption | with_reducible exact Below.refl _ _ | with_reducible refine Below.drew ?_ | with_reducible refine below_drewN ?_ _ | with_reducible refine bw_alloc ?_ _ | (with_reducible refine bw_set ?_ ?_ _; focus (dsimp only; omega)) | (with_reducible apply bw_behind; with_reducible assumption))); done) | (refine hT.behind ?_; (repeat (first | with_reducible assumption | with_reducible exact Below.refl _ _ | with_reducible refine Below.drew ?_ | with_reducible refine below_drewN ?_ _ | with_reducible refine bw_alloc ?_ _ | (with_reducible refine bw_set ?_ ?_ _; focus (dsimp only; omega)) | (with_reducible apply bw_behind; with_reducible assumption))); done) | (simp [go_sem, *]; omega) | (simp (maxDischargeDepth := 4) [go_sem, *]; done))
  rintro w0q ⟨hT0q, hB0q, cq0, cq1, cq2, cq3, cq4, cq5⟩
  have yq0 := behind_cell0 cq0
  have yq1 := behind_cell0 cq1
  have yq2 := behind_cell0 cq2
  have yq3 := behind_cell0 cq3
  have yq4 := behind_cell0 cq4
  have yq5 := behind_cell0 cq5
  have hsome := Behind.any w0q
  clear cq0 cq1 cq2 cq3 cq4 cq5
  refine wp_region_behind w0q (by kernel_rfl) (by kernel_rfl) (Below.refl _ _) ?_
  repeat (go_big_quiet_step (first | (go_at_call 15; with_reducible first | exact behind_call Cc3.out hT0q _)))
  refine wpQuiet_nil ?_
  rintro _ ⟨y, rfl⟩
  have hTy := hT0q.behind y.below
  have hBy := bw_behind y.below hB0q
  have xq0 := yq0 y
  have xq1 := yq1 y
  have xq2 := yq2 y
  have xq3 := yq3 y
  have xq4 := yq4 y
  have xq5 := yq5 y
  clear hsome yq0 yq1 yq2 yq3 yq4 yq5
  obtain ⟨w1q, hw1⟩ : ∃ W, W = y.world := ⟨_, rfl⟩
  rw [← hw1] at hTy hBy xq0 xq1 xq2 xq3 xq4 xq5 ⊢
  clear hw1 y hT0q hB0q
  have hlt := World.block_lt_of_cell? w1q _ xq0
  obtain ⟨k2, hk2⟩ : ∃ k, w1q.heap.size = w.heap.size + 1 + k := ⟨w1q.heap.size - (w.heap.size + 1), by dsimp only at hlt; omega⟩
  clear hlt
  clear xq3 xq4 xq5
  go_upto_region 10 with (first | (go_at_call 17; (first | ((with_reducible refine (Cc9.out _ ?_).mono ?_); (refine hT.behind ?_; repeat (first | with_reducible assumption | with_reducible exact Below.refl _ _ | with_reducible refine Below.drew ?_ | with_reducible refine below_drewN ?_ _ | with_reducible refine bw_alloc ?_ _ | (with_reducible refine bw_set ?_ ?_ _; focus (dsimp only; omega)) | (with_reducible apply bw_behind; with_reducible assumption))))); rintro e wd ⟨rfl, hbd⟩; have hrd := below_reads hbd; have hhd := below_holds hbd; obtain ⟨md, hsd⟩ := below_grew hbd) | (go_at_call 33; first | ((first | ((with_reducible refine (Cc10.out _ ?_).mono ?_); (refine hT.behind ?_; repeat (first | with_reducible assumption | with_reducible exact Below.refl _ _ | with_reducible refine Below.drew ?_ | with_reducible refine below_drewN ?_ _ | with_reducible refine bw_alloc ?_ _ | (with_reducible refine bw_set ?_ ?_ _; focus (dsimp only; omega)) | (with_reducible apply bw_behind; with_reducible assumption))))); rintro e we ⟨rfl, hbe⟩; have hre := below_reads hbe; have hhe := below_holds hbe; obtain ⟨me, hse⟩ := below_grew hbe) | ((first | ((with_reducible refine (Cc11.out _ ?_).mono ?_); (refine hT.behind ?_; repeat (first | with_reducible assumption | with_reducible exact Below.refl _ _ | with_reducible refine Below.drew ?_ | with_reducible refine below_drewN ?_ _ | with_reducible refine bw_alloc ?_ _ | (with_reducible refine bw_set ?_ ?_ _; focus (dsimp only; omega)) | (with_reducible apply bw_behind; with_reducible assumption))))); rintro e wf ⟨rfl, hbf⟩; have hrf := below_reads hbf; have hhf := below_holds hbf; obtain ⟨mf, hsf⟩ := below_grew hbf)))

  refine wp_abs (fun W => Tab W ∧ Below w.heap.size w W ∧ W.cell? ⟨w.heap.size + 1 + k2 + md, 0, none⟩ = some (.bool true) ∧ W.cell? ⟨w.heap.size + 1 + k2 + md, 1, none⟩ = some (.int .u64 M3) ∧ W.cell? ⟨w.heap.size + 1 + k2 + md, 2, none⟩ = some (.int .u64 A) ∧ W.cell? ⟨w.heap.size + 1 + k2 + md + 1 + me, 0, none⟩ = some (.int .u64 B) ∧ W.cell? ⟨w.heap.size + 1 + k2 + md + 1 + me, 1, none⟩ = some (.int .u64 U) ∧ W.cell? ⟨w.heap.size + 1 + k2 + md + 1 + me, 2, none⟩ = some (.int .u64 P3) ∧ W.cell? ⟨w.heap.size + 1 + k2 + md + 1 + me, 3, none⟩ = some (.int .u64 K) ∧ W.cell? ⟨w.heap.size + 1 + k2 + md + 1 + me + 1 + mf, 0, none⟩ = some (.int .u64 B) ∧ W.cell? ⟨w.heap.size + 1 + k2 + md + 1 + me + 1 + mf, 1, none⟩ = some (.int .u64 U) ∧ W.cell? ⟨w.heap.size + 1 + k2 + md + 1 + me + 1 + mf, 2, none⟩ = some (.int .u64 P) ∧ W.cell? ⟨w.heap.size + 1 + k2 + md + 1 + me + 1 + mf, 3, none⟩ = some (.int .u64 K)) ?_ ?_
  · refine ⟨?_, ?_, ?_, ?_, ?_, ?_, ?_, ?_, ?_, ?_, ?_, ?_, ?_⟩
    all_goals (first | with_reducible assumption | ((repeat (first | with_reducible assumption | with_reducible refine c_dr _ ?_ | with_reducible refine c_d1 ?_ | with_reducible refine c_al _ ?_ | (with_reducible refine c_set ?_ ?_; focus (dsimp only; omega)) | (with_reducible apply c_be; with_reducible assumption))); done) | ((repeat (first | with_reducible assumption | with_reducible refine o_dr _ ?_ | with_reducible refine o_d1 ?_ | with_reducible refine o_set ?_ | (with_reducible refine o_new ?_ ?_; (focus (simp)); (focus (simp))) | with_reducible refine o_al _ ?_ | (with_reducible apply o_be; with_reducible assumption))); done) | ((repeat (first | with_reducible assumption | with_reducible exact Below.refl _ _ | with_reducible refine Below.drew ?_ | with_reducible refine below_drewN ?_ _ | with_reducible refine bw_alloc ?_ _ | (with_reducible refine bw_set ?_ ?_ _; focus (dsimp only; omega)) | (with_reducible apply bw_behind; with_reducible assumption))); done) | (refine hT.behind ?_; (repeat (first | with_reducible assumption | with_reducible exact Below.refl _ _ | with_reducible refine Below.drew ?_ | with_reducible refine below_drewN ?_ _ | with_reducible refine bw_alloc ?_ _ | (with_reducible refine bw_set ?_ ?_ _; focus (dsimp only; omega)) | (with_reducible apply bw_behind; with_reducible assumption))); done) | (simp [go_sem, *]; omega) | (simp (maxDischargeDepth := 4) [go_sem, *]; done))
  rintro w0r ⟨hT0r, hB0r, cr0, cr1, cr2, cr3, cr4, cr5, cr6, cr7, cr8, cr9, cr10⟩
  have yr0 := behind_cell0 cr0
  have yr1 := behind_cell0 cr1
  have yr2 := behind_cell0 cr2
  have yr3 := behind_cell0 cr3
  have yr4 := behind_cell0 cr4
  have yr5 := behind_cell0 cr5
  have yr6 := behind_cell0 cr6
  have yr7 := behind_cell0 cr7
  have yr8 := behind_cell0 cr8
  have yr9 := behind_cell0 cr9
  have yr10 := behind_cell0 cr10
  have hsome := Behind.any w0r
  clear cr0 cr1 cr2 cr3 cr4 cr5 cr6 cr7 cr8 cr9 cr10
  refine wp_region_behind w0r (by kernel_rfl) (by kernel_rfl) (Below.refl _ _) ?_
  repeat (go_big_quiet_step (first | (go_at_call 17; with_reducible first | exact behind_call Cc12.out hT0r _) | (go_at_call 19; with_reducible first | exact behind_call CcO.out hT0r _)))
  refine wpQuiet_nil ?_
  rintro _ ⟨y, rfl⟩
  have hTy := hT0r.behind y.below
  have hBy := bw_behind y.below hB0r
  have xr0 := yr0 y
  have xr1 := yr1 y
  have xr2 := yr2 y
  have xr3 := yr3 y
  have xr4 := yr4 y
  have xr5 := yr5 y
  have xr6 := yr6 y
  have xr7 := yr7 y
  have xr8 := yr8 y
  have xr9 := yr9 y
  have xr10 := yr10 y
  clear hsome yr0 yr1 yr2 yr3 yr4 yr5 yr6 yr7 yr8 yr9 yr10
  obtain ⟨w1r, hw1⟩ : ∃ W, W = y.world := ⟨_, rfl⟩
  rw [← hw1] at hTy hBy xr0 xr1 xr2 xr3 xr4 xr5 xr6 xr7 xr8 xr9 xr10 ⊢
  clear hw1 y hT0r hB0r
  go_wp2
  refine bodyPost_ret (v := .bool true) (by simp (maxDischargeDepth := 4) [results, Tryd.results8, go_sem, *]) rfl ?_
  refine ⟨rfl, ?_⟩
  repeat (first | with_reducible assumption | with_reducible exact Below.refl _ _ | with_reducible refine Below.drew ?_ | with_reducible refine below_drewN ?_ _ | with_reducible refine bw_alloc ?_ _ | (with_reducible refine bw_set ?_ ?_ _; focus (dsimp only; omega)) | (with_reducible apply bw_behind; with_reducible assumption))

set_option maxRecDepth 100000 in
set_option maxHeartbeats 8000000 in
theorem walk_yy (LA LC : Bool) (M A D N A1 M2 M3 B U P3 P K ND M4 : Int) (c1 : ∀ W, Tab W → Calls Tryd.prog 14 #[.agg #[.bool true, .int .u64 M, .int .u64 A], .int .u64 D] W (Makes (.agg #[.bool true, .int .u64 M, .int .u64 A1]) W)) (c2 : ∀ W, Tab W → Calls Tryd.prog 14 #[.agg #[.bool true, .int .u64 M, .int .u64 A1], .int .u64 ND] W (Makes (.agg #[.bool true, .int .u64 M, .int .u64 A]) W)) (c3 : ∀ W, Tab W → Calls Tryd.prog 15 #[.agg #[.bool true, .int .u64 M, .int .u64 A], .int .u64 N, .bool true] W (Makes (.agg #[.bool true, .int .u64 M2, .int .u64 A]) W)) (c4 : ∀ W, Tab W → Calls Tryd.prog 35 #[.agg #[.bool true, .int .u64 M2, .int .u64 A]] W (Makes (.int .u64 N) W)) (c5 : ∀ W, Tab W → Calls Tryd.prog 36 #[.agg #[.bool true, .int .u64 M2, .int .u64 A]] W (Makes (.int .u64 A) W)) (c6 : ∀ W, Tab W → Calls Tryd.prog 37 #[.agg #[.bool true, .int .u64 M2, .int .u64 A]] W (Makes (.int .u64 0) W)) (c7 : ∀ W, Tab W → Calls Tryd.prog 15 #[.agg #[.bool true, .int .u64 M, .int .u64 A], .int .u64 N, .bool false] W (Makes (.agg #[.bool true, .int .u64 M4, .int .u64 A]) W)) (c8 : ∀ W, Tab W → Calls Tryd.prog 38 #[.agg #[.bool true, .int .u64 M2, .int .u64 A], .agg #[.bool true, .int .u64 M, .int .u64 A]] W (Makes (.bool true) W)) (c9 : ∀ W, Tab W → Calls Tryd.prog 17 #[.agg #[.bool true, .int .u64 M, .int .u64 A], .int .u64 D] W (Makes (.agg #[.bool true, .int .u64 M3, .int .u64 A]) W)) (c10 : ∀ W, Tab W → Calls Tryd.prog 33 #[.agg #[.bool true, .int .u64 M3, .int .u64 A]] W (Makes (.tuple #[.agg #[.int .u64 B, .int .u64 U, .int .u64 P3, .int .u64 K], .bool LA]) W)) (c11 : ∀ W, Tab W → Calls Tryd.prog 33 #[.agg #[.bool true, .int .u64 M, .int .u64 A]] W (Makes (.tuple #[.agg #[.int .u64 B, .int .u64 U, .int .u64 P, .int .u64 K], .bool LC]) W)) (c12 : ∀ W, Tab W → Calls Tryd.prog 17 #[.agg #[.bool true, .int .u64 M3, .int .u64 A], .int .u64 D] W (Makes (.agg #[.bool true, .int .u64 M3, .int .u64 A]) W)) (cO : ∀ W, Tab W → Calls Tryd.prog 19 #[] W (Makes (.bool true) W)) (hP : bits .and .u64 P D = P3) (hN : IntKind.u64.wrap (-D) = ND) (w : World) (hT : Tab w) :
    Calls Tryd.prog 8 #[.agg #[.bool true, .int .u64 M, .int .u64 A], .int .u64 D, .int .u64 N] w (Makes (.bool true) w) := by
  have Cc1 := hide c1
  have Cc2 := hide c2
  have Cc3 := hide c3
  have Cc4 := hide c4
  have Cc5 := hide c5
  have Cc6 := hide c6
  have Cc7 := hide c7
  have Cc8 := hide c8
  have Cc9 := hide c9
  have Cc10 := hide c10
  have Cc11 := hide c11
  have Cc12 := hide c12
  have CcO := hide cO
  clear c1 c2 c3 c4 c5 c6 c7 c8 c9 c10 c11 c12 cO
  have FT := field_tag
  have NE := ne_cap true true M A M A
  rw [decide_eq_true ⟨rfl, rfl, rfl⟩] at NE
  have E1 := eq_cap true true M3 A M3 A
  rw [decide_eq_true ⟨rfl, rfl, rfl⟩] at E1
  have E2 := eq_span B U B U
  rw [decide_eq_true ⟨rfl, rfl⟩] at E2
  have SS := cell_same
  have LB' := ltB_add
  have LS := ltB_self
  have LA' := alloc_reads
  have LH := alloc_holds
  go_enter Tryd.func8, Tryd.ntmps8
  go_upto_region 2 with (first | (go_at_call 14; (first | ((with_reducible refine (Cc1.out _ ?_).mono ?_); (refine hT.behind ?_; repeat (first | with_reducible assumption | with_reducible exact Below.refl _ _ | with_reducible refine Below.drew ?_ | with_reducible refine below_drewN ?_ _ | with_reducible refine bw_alloc ?_ _ | (with_reducible refine bw_set ?_ ?_ _; focus (dsimp only; omega)) | (with_reducible apply bw_behind; with_reducible assumption))))); rintro e wa ⟨rfl, hba⟩; have hra := below_reads hba; have hha := below_holds hba; obtain ⟨ma, hsa⟩ := below_grew hba))

  refine wp_abs (fun W => Tab W ∧ Below w.heap.size w W ∧ W.cell? ⟨w.heap.size, 0, none⟩ = some (.bool true) ∧ W.cell? ⟨w.heap.size, 1, none⟩ = some (.int .u64 M) ∧ W.cell? ⟨w.heap.size, 2, none⟩ = some (.int .u64 A) ∧ W.cell? ⟨w.heap.size + 1 + ma, 0, none⟩ = some (.bool true) ∧ W.cell? ⟨w.heap.size + 1 + ma, 1, none⟩ = some (.int .u64 M) ∧ W.cell? ⟨w.heap.size + 1 + ma, 2, none⟩ = some (.int .u64 A1)) ?_ ?_
  · refine ⟨?_, ?_, ?_, ?_, ?_, ?_, ?_, ?_⟩
    all_goals (first | with_reducible assumption | ((repeat (first | with_reducible assumption | with_reducible refine c_dr _ ?_ | with_reducible refine c_d1 ?_ | with_reducible refine c_al _ ?_ | (with_reducible refine c_set ?_ ?_; focus (dsimp only; omega)) | (with_reducible apply c_be; with_reducible assumption))); done) | ((repeat (first | with_reducible assumption | with_reducible refine o_dr _ ?_ | with_reducible refine o_d1 ?_ | with_reducible refine o_set ?_ | (with_reducible refine o_new ?_ ?_; (focus (simp)); (focus (simp))) | with_reducible refine o_al _ ?_ | (with_reducible apply o_be; with_reducible assumption))); done) | ((repeat (first | with_reducible assumption | with_reducible exact Below.refl _ _ | with_reducible refine Below.drew ?_ | with_reducible refine below_drewN ?_ _ | with_reducible refine bw_alloc ?_ _ | (with_reducible refine bw_set ?_ ?_ _; focus (dsimp only; omega)) | (with_reducible apply bw_behind; with_reducible assumption))); done) | (refine hT.behind ?_; (repeat (first | with_reducible assumption | with_reducible exact Below.refl _ _ | with_reducible refine Below.drew ?_ | with_reducible refine below_drewN ?_ _ | with_reducible refine bw_alloc ?_ _ | (with_reducible refine bw_set ?_ ?_ _; focus (dsimp only; omega)) | (with_reducible apply bw_behind; with_reducible assumption))); done) | (simp [go_sem, *]; omega) | (simp (maxDischargeDepth := 4) [go_sem, *]; done))
  rintro w0p ⟨hT0p, hB0p, cp0, cp1, cp2, cp3, cp4, cp5⟩
  have yp0 := behind_cell0 cp0
  have yp1 := behind_cell0 cp1
  have yp2 := behind_cell0 cp2
  have yp3 := behind_cell0 cp3
  have yp4 := behind_cell0 cp4
  have yp5 := behind_cell0 cp5
  have hsome := Behind.any w0p
  clear cp0 cp1 cp2 cp3 cp4 cp5
  refine wp_region_behind w0p (by kernel_rfl) (by kernel_rfl) (Below.refl _ _) ?_
  repeat (go_big_quiet_step (first | (go_at_call 14; with_reducible first | exact behind_call Cc2.out hT0p _)))
  refine wpQuiet_nil ?_
  rintro _ ⟨y, rfl⟩
  have hTy := hT0p.behind y.below
  have hBy := bw_behind y.below hB0p
  have xp0 := yp0 y
  have xp1 := yp1 y
  have xp2 := yp2 y
  have xp3 := yp3 y
  have xp4 := yp4 y
  have xp5 := yp5 y
  clear hsome yp0 yp1 yp2 yp3 yp4 yp5
  obtain ⟨w1p, hw1⟩ : ∃ W, W = y.world := ⟨_, rfl⟩
  rw [← hw1] at hTy hBy xp0 xp1 xp2 xp3 xp4 xp5 ⊢
  clear hw1 y hT0p hB0p
  have hlt := World.block_lt_of_cell? w1p _ xp0
  obtain ⟨k1, hk1⟩ : ∃ k, w1p.heap.size = w.heap.size + 1 + k := ⟨w1p.heap.size - (w.heap.size + 1), by dsimp only at hlt; omega⟩
  clear hlt
  clear xp3 xp4 xp5
  go_upto_region 5 with (first | (go_at_call 15; (first | ((with_reducible refine (Cc3.out _ ?_).mono ?_); (refine hT.behind ?_; repeat (first | with_reducible assumption | with_reducible exact Below.refl _ _ | with_reducible refine Below.drew ?_ | with_reducible refine below_drewN ?_ _ | with_reducible refine bw_alloc ?_ _ | (with_reducible refine bw_set ?_ ?_ _; focus (dsimp only; omega)) | (with_reducible apply bw_behind; with_reducible assumption))))); rintro e wb ⟨rfl, hbb⟩; have hrb := below_reads hbb; have hhb := below_holds hbb; obtain ⟨mb, hsb⟩ := below_grew hbb))

  refine wp_abs (fun W => Tab W ∧ Below w.heap.size w W ∧ W.cell? ⟨w.heap.size, 0, none⟩ = some (.bool true) ∧ W.cell? ⟨w.heap.size, 1, none⟩ = some (.int .u64 M) ∧ W.cell? ⟨w.heap.size, 2, none⟩ = some (.int .u64 A) ∧ W.cell? ⟨w.heap.size + 1 + k1 + mb, 0, none⟩ = some (.bool true) ∧ W.cell? ⟨w.heap.size + 1 + k1 + mb, 1, none⟩ = some (.int .u64 M2) ∧ W.cell? ⟨w.heap.size + 1 + k1 + mb, 2, none⟩ = some (.int .u64 A)) ?_ ?_
  · refine ⟨?_, ?_, ?_, ?_, ?_, ?_, ?_, ?_⟩
    all_goals (first | with_reducible assumption | ((repeat (first | with_reducible assumption | with_reducible refine c_dr _ ?_ | with_reducible refine c_d1 ?_ | with_reducible refine c_al _ ?_ | (with_reducible refine c_set ?_ ?_; focus (dsimp only; omega)) | (with_reducible apply c_be; with_reducible assumption))); done) | ((repeat (first | with_reducible assumption | with_reducible refine o_dr _ ?_ | with_reducible refine o_d1 ?_ | with_reducible refine o_set ?_ | (with_reducible refine o_new ?_ ?_; (focus (simp)); (focus (simp))) | with_reducible refine o_al _ ?_ | (with_reducible apply o_be; with_reducible assumption))); done) | ((repeat (first | with_reducible assumption | with_reducible exact Below.refl _ _ | with_reducible refine Below.drew ?_ | with_reducible refine below_drewN ?_ _ | with_reducible refine bw_alloc ?_ _ | (with_reducible refine bw_set ?_ ?_ _; focus (dsimp only; omega)) | (with_reducible apply bw_behind; with_reducible assumption))); done) | (refine hT.behind ?_; (repeat (first | with_reducible assumption | with_reducible exact Below.refl _ _ | with_reducible refine Below.drew ?_ | with_reducible refine below_drewN ?_ _ | with_reducible refine bw_alloc ?_ _ | (with_reducible refine bw_set ?_ ?_ _; focus (dsimp only; omega)) | (with_reducible apply bw_behind; with_reducible assumption))); done) | (simp [go_sem, *]; omega) | (simp (maxDischargeDepth := 4) [go_sem, *]; done))
  rintro w0q ⟨hT0q, hB0q, cq0, cq1, cq2, cq3, cq4, cq5⟩
  have yq0 := behind_cell0 cq0
  have yq1 := behind_cell0 cq1
  have yq2 := behind_cell0 cq2
  have yq3 := behind_cell0 cq3
  have yq4 := behind_cell0 cq4
  have yq5 := behind_cell0 cq5
  have hsome := Behind.any w0q
  clear cq0 cq1 cq2 cq3 cq4 cq5
  refine wp_region_behind w0q (by kernel_rfl) (by kernel_rfl) (Below.refl _ _) ?_
  repeat (go_big_quiet_step (first | (go_at_call 35; with_reducible first | exact behind_call Cc4.out hT0q _) | (go_at_call 36; with_reducible first | exact behind_call Cc5.out hT0q _) | (go_at_call 37; with_reducible first | exact behind_call Cc6.out hT0q _) | (go_at_call 15; with_reducible first | exact behind_call Cc7.out hT0q _) | (go_at_call 38; with_reducible first | exact behind_call Cc8.out hT0q _)))
  refine wpQuiet_nil ?_
  rintro _ ⟨y, rfl⟩
  have hTy := hT0q.behind y.below
  have hBy := bw_behind y.below hB0q
  have xq0 := yq0 y
  have xq1 := yq1 y
  have xq2 := yq2 y
  have xq3 := yq3 y
  have xq4 := yq4 y
  have xq5 := yq5 y
  clear hsome yq0 yq1 yq2 yq3 yq4 yq5
  obtain ⟨w1q, hw1⟩ : ∃ W, W = y.world := ⟨_, rfl⟩
  rw [← hw1] at hTy hBy xq0 xq1 xq2 xq3 xq4 xq5 ⊢
  clear hw1 y hT0q hB0q
  have hlt := World.block_lt_of_cell? w1q _ xq0
  obtain ⟨k2, hk2⟩ : ∃ k, w1q.heap.size = w.heap.size + 1 + k := ⟨w1q.heap.size - (w.heap.size + 1), by dsimp only at hlt; omega⟩
  clear hlt
  clear xq3 xq4 xq5
  go_upto_region 10 with (first | (go_at_call 17; (first | ((with_reducible refine (Cc9.out _ ?_).mono ?_); (refine hT.behind ?_; repeat (first | with_reducible assumption | with_reducible exact Below.refl _ _ | with_reducible refine Below.drew ?_ | with_reducible refine below_drewN ?_ _ | with_reducible refine bw_alloc ?_ _ | (with_reducible refine bw_set ?_ ?_ _; focus (dsimp only; omega)) | (with_reducible apply bw_behind; with_reducible assumption))))); rintro e wd ⟨rfl, hbd⟩; have hrd := below_reads hbd; have hhd := below_holds hbd; obtain ⟨md, hsd⟩ := below_grew hbd) | (go_at_call 33; first | ((first | ((with_reducible refine (Cc10.out _ ?_).mono ?_); (refine hT.behind ?_; repeat (first | with_reducible assumption | with_reducible exact Below.refl _ _ | with_reducible refine Below.drew ?_ | with_reducible refine below_drewN ?_ _ | with_reducible refine bw_alloc ?_ _ | (with_reducible refine bw_set ?_ ?_ _; focus (dsimp only; omega)) | (with_reducible apply bw_behind; with_reducible assumption))))); rintro e we ⟨rfl, hbe⟩; have hre := below_reads hbe; have hhe := below_holds hbe; obtain ⟨me, hse⟩ := below_grew hbe) | ((first | ((with_reducible refine (Cc11.out _ ?_).mono ?_); (refine hT.behind ?_; repeat (first | with_reducible assumption | with_reducible exact Below.refl _ _ | with_reducible refine Below.drew ?_ | with_reducible refine below_drewN ?_ _ | with_reducible refine bw_alloc ?_ _ | (with_reducible refine bw_set ?_ ?_ _; focus (dsimp only; omega)) | (with_reducible apply bw_behind; with_reducible assumption))))); rintro e wf ⟨rfl, hbf⟩; have hrf := below_reads hbf; have hhf := below_holds hbf; obtain ⟨mf, hsf⟩ := below_grew hbf)))

  refine wp_abs (fun W => Tab W ∧ Below w.heap.size w W ∧ W.cell? ⟨w.heap.size + 1 + k2 + md, 0, none⟩ = some (.bool true) ∧ W.cell? ⟨w.heap.size + 1 + k2 + md, 1, none⟩ = some (.int .u64 M3) ∧ W.cell? ⟨w.heap.size + 1 + k2 + md, 2, none⟩ = some (.int .u64 A) ∧ W.cell? ⟨w.heap.size + 1 + k2 + md + 1 + me, 0, none⟩ = some (.int .u64 B) ∧ W.cell? ⟨w.heap.size + 1 + k2 + md + 1 + me, 1, none⟩ = some (.int .u64 U) ∧ W.cell? ⟨w.heap.size + 1 + k2 + md + 1 + me, 2, none⟩ = some (.int .u64 P3) ∧ W.cell? ⟨w.heap.size + 1 + k2 + md + 1 + me, 3, none⟩ = some (.int .u64 K) ∧ W.cell? ⟨w.heap.size + 1 + k2 + md + 1 + me + 1 + mf, 0, none⟩ = some (.int .u64 B) ∧ W.cell? ⟨w.heap.size + 1 + k2 + md + 1 + me + 1 + mf, 1, none⟩ = some (.int .u64 U) ∧ W.cell? ⟨w.heap.size + 1 + k2 + md + 1 + me + 1 + mf, 2, none⟩ = some (.int .u64 P) ∧ W.cell? ⟨w.heap.size + 1 + k2 + md + 1 + me + 1 + mf, 3, none⟩ = some (.int .u64 K)) ?_ ?_
  · refine ⟨?_, ?_, ?_, ?_, ?_, ?_, ?_, ?_, ?_, ?_, ?_, ?_, ?_⟩
    all_goals (first | with_reducible assumption | ((repeat (first | with_reducible assumption | with_reducible refine c_dr _ ?_ | with_reducible refine c_d1 ?_ | with_reducible refine c_al _ ?_ | (with_reducible refine c_set ?_ ?_; focus (dsimp only; omega)) | (with_reducible apply c_be; with_reducible assumption))); done) | ((repeat (first | with_reducible assumption | with_reducible refine o_dr _ ?_ | with_reducible refine o_d1 ?_ | with_reducible refine o_set ?_ | (with_reducible refine o_new ?_ ?_; (focus (simp)); (focus (simp))) | with_reducible refine o_al _ ?_ | (with_reducible apply o_be; with_reducible assumption))); done) | ((repeat (first | with_reducible assumption | with_reducible exact Below.refl _ _ | with_reducible refine Below.drew ?_ | with_reducible refine below_drewN ?_ _ | with_reducible refine bw_alloc ?_ _ | (with_reducible refine bw_set ?_ ?_ _; focus (dsimp only; omega)) | (with_reducible apply bw_behind; with_reducible assumption))); done) | (refine hT.behind ?_; (repeat (first | with_reducible assumption | with_reducible exact Below.refl _ _ | with_reducible refine Below.drew ?_ | with_reducible refine below_drewN ?_ _ | with_reducible refine bw_alloc ?_ _ | (with_reducible refine bw_set ?_ ?_ _; focus (dsimp only; omega)) | (with_reducible apply bw_behind; with_reducible assumption))); done) | (simp [go_sem, *]; omega) | (simp (maxDischargeDepth := 4) [go_sem, *]; done))
  rintro w0r ⟨hT0r, hB0r, cr0, cr1, cr2, cr3, cr4, cr5, cr6, cr7, cr8, cr9, cr10⟩
  have yr0 := behind_cell0 cr0
  have yr1 := behind_cell0 cr1
  have yr2 := behind_cell0 cr2
  have yr3 := behind_cell0 cr3
  have yr4 := behind_cell0 cr4
  have yr5 := behind_cell0 cr5
  have yr6 := behind_cell0 cr6
  have yr7 := behind_cell0 cr7
  have yr8 := behind_cell0 cr8
  have yr9 := behind_cell0 cr9
  have yr10 := behind_cell0 cr10
  have hsome := Behind.any w0r
  clear cr0 cr1 cr2 cr3 cr4 cr5 cr6 cr7 cr8 cr9 cr10
  refine wp_region_behind w0r (by kernel_rfl) (by kernel_rfl) (Below.refl _ _) ?_
  repeat (go_big_quiet_step (first | (go_at_call 17; with_reducible first | exact behind_call Cc12.out hT0r _) | (go_at_call 19; with_reducible first | exact behind_call CcO.out hT0r _)))
  refine wpQuiet_nil ?_
  rintro _ ⟨y, rfl⟩
  have hTy := hT0r.behind y.below
  have hBy := bw_behind y.below hB0r
  have xr0 := yr0 y
  have xr1 := yr1 y
  have xr2 := yr2 y
  have xr3 := yr3 y
  have xr4 := yr4 y
  have xr5 := yr5 y
  have xr6 := yr6 y
  have xr7 := yr7 y
  have xr8 := yr8 y
  have xr9 := yr9 y
  have xr10 := yr10 y
  clear hsome yr0 yr1 yr2 yr3 yr4 yr5 yr6 yr7 yr8 yr9 yr10
  obtain ⟨w1r, hw1⟩ : ∃ W, W = y.world := ⟨_, rfl⟩
  rw [← hw1] at hTy hBy xr0 xr1 xr2 xr3 xr4 xr5 xr6 xr7 xr8 xr9 xr10 ⊢
  clear hw1 y hT0r hB0r
  go_wp2
  refine bodyPost_ret (v := .bool true) (by simp (maxDischargeDepth := 4) [results, Tryd.results8, go_sem, *]) rfl ?_
  refine ⟨rfl, ?_⟩
  repeat (first | with_reducible assumption | with_reducible exact Below.refl _ _ | with_reducible refine Below.drew ?_ | with_reducible refine below_drewN ?_ _ | with_reducible refine bw_alloc ?_ _ | (with_reducible refine bw_set ?_ ?_ _; focus (dsimp only; omega)) | (with_reducible apply bw_behind; with_reducible assumption))

theorem walk (q : Bool) (m a d n : BitVec 64) (w : World) (hT : Tab w) : Calls Tryd.prog 8 #[.agg #[.bool q, .int .u64 (m.toNat : Int), .int .u64 (a.toNat : Int)], .int .u64 (d.toNat : Int), .int .u64 (n.toNat : Int)] w fun e w' => e = .returned (.bool true) ∧ Below w.heap.size w w' := by
  have hm := toNat_lt m
  have hn := toNat_lt n
  have ha := toNat_lt a
  have hd := toNat_lt d
  generalize m.toNat = m at *
  generalize a.toNat = a at *
  generalize n.toNat = n at *
  generalize d.toNat = d at *
  have hA := andM_parts m d
  have c1 := fun W hW => move_any q m a d hm W hW
  have c9 := fun W hW => and_any q m a d hm hd W hW
  have hM3 : andM m d < 18446744073709551616 := by omega
  have c10 := fun W hW => look_any (openB q m a) (andM m d) a hM3 W hW
  have c11 := fun W hW => look_any q m a hm W hW
  have c12 := fun W hW => and_any (openB q m a) (andM m d) a d hM3 hd W hW
  obtain ⟨l1, l2, l3⟩ := andM_look m d a
  have hO : openB (openB q m a) (andM m d) a = openB q m a := by
    cases ho : openB q m a with
    | false => unfold openB liveB; simp
    | true =>
      obtain ⟨o1, o2, o3⟩ := open_tag ho
      exact open_of rfl (by rw [andM_right hm]; exact o2) (by rw [hA.2.2.2.2.1]; exact o3)
  rw [l2, l3, hA.2.2.2.2.1] at c10
  rw [andM_twice, hO] at c12
  have hP := bits_and (a := mP m) (b := d) (by have := mP_lt m; omega) hd
  rw [← hA.2.2.2.1] at hP
  have cO := fun W hW => one_any W hW
  have hneg : IntKind.u64.wrap (-(d : Int)) = (((18446744073709551616 - d) % 18446744073709551616 : Nat) : Int) := by
    show (-(d : Int)) % 18446744073709551616 = _
    omega
  have hback : (((a + d) % 18446744073709551616) + (18446744073709551616 - d) % 18446744073709551616) % 18446744073709551616 = a := by omega
  have htag : addrQ q m a ((a + d) % 18446744073709551616) = true → q = true ∧ openB q m a = true ∧ ∀ W, Tab W → Calls Tryd.prog 14 #[.agg #[.bool (true), .int .u64 ((m : Nat) : Int), .int .u64 (((a + d) % 18446744073709551616 : Nat) : Int)], .int .u64 (((18446744073709551616 - d) % 18446744073709551616 : Nat) : Int)] W (Makes (.agg #[.bool (true), .int .u64 ((m : Nat) : Int), .int .u64 ((a : Nat) : Int)]) W) := fun h => by
    have hgo := h
    unfold addrQ at h
    rw [Bool.and_eq_true, Bool.and_eq_true, decide_eq_true_eq] at h
    obtain ⟨ho, hl, e1, e2⟩ := h
    obtain ⟨o1, o2, o3⟩ := open_tag ho
    refine ⟨o1, ho, fun W hW => ?_⟩
    have k := move_any true m ((a + d) % 18446744073709551616) ((18446744073709551616 - d) % 18446744073709551616) hm W hW
    rw [hback] at k
    have hr := look_right o2 rfl hl
    have : addrQ true m ((a + d) % 18446744073709551616) a = true := by
      unfold addrQ
      rw [open_of rfl hr o3, (right_lt o2).2.2, decide_eq_true ⟨e1.symm, e2.symm⟩]
      rfl
    rw [this] at k
    exact k
  have hbnd : (∃ M2 : Nat, ∀ W, Tab W → Calls Tryd.prog 15 #[.agg #[.bool (q), .int .u64 ((m : Nat) : Int), .int .u64 ((a : Nat) : Int)], .int .u64 ((n : Nat) : Int), .bool true] W (Makes (.agg #[.bool (false), .int .u64 ((M2 : Nat) : Int), .int .u64 ((a : Nat) : Int)]) W)) ∨
      (∃ M2 M4 : Nat, q = true ∧ openB q m a = true ∧ M2 < 18446744073709551616 ∧ (∀ W, Tab W → Calls Tryd.prog 15 #[.agg #[.bool (q), .int .u64 ((m : Nat) : Int), .int .u64 ((a : Nat) : Int)], .int .u64 ((n : Nat) : Int), .bool true] W (Makes (.agg #[.bool (true), .int .u64 ((M2 : Nat) : Int), .int .u64 ((a : Nat) : Int)]) W)) ∧ (∀ W, Tab W → Calls Tryd.prog 15 #[.agg #[.bool (q), .int .u64 ((m : Nat) : Int), .int .u64 ((a : Nat) : Int)], .int .u64 ((n : Nat) : Int), .bool false] W (Makes (.agg #[.bool (true), .int .u64 ((M4 : Nat) : Int), .int .u64 ((a : Nat) : Int)]) W)) ∧
        lB M2 a = a ∧ lT M2 a = a + n ∧ a < 281474976710656 ∧ withinC M2 a m a = true) := by
    by_cases hv : a < 281474976710656 ∧ a + n ≤ 281474976710656
    · obtain ⟨e, D, U, M2, hb⟩ := bnd_ex m a n hv
      have k1 := fun W hW => bound_yes q true m a n e D U M2 hm hb W hW
      have k2 := fun W hW => bound_yes q false m a n e D U M2 hm hb W hW
      obtain ⟨b1, b2, b3, b4, b5, b6, b7⟩ := hb.made
      cases hq : bndQ q m a n true D U with
      | false =>
        rw [hq] at k1
        exact .inl ⟨M2, k1⟩
      | true =>
        rw [hq] at k1
        have hq2 := hq
        unfold bndQ at hq
        rw [Bool.not_true, Bool.false_or, Bool.and_eq_true, Bool.and_eq_true, decide_eq_true_eq, decide_eq_true_eq] at hq
        obtain ⟨ho, ⟨g1, g2⟩, g3, g4⟩ := hq
        obtain ⟨o1, o2, o3⟩ := open_tag ho
        have : bndQ q m a n false D U = true := by
          unfold bndQ
          rw [ho, decide_eq_true ⟨g1, g2⟩]
          rfl
        rw [this] at k2
        refine .inr ⟨M2, M2, o1, ho, b7, k1, k2, by rw [b2]; exact g3, by rw [b3]; exact g4, hv.1, ?_⟩
        unfold withinC
        rw [b6, o2, b2, b3, b4, sub_refl, decide_eq_true ⟨g1, g2⟩]
        rfl
    · exact .inl ⟨m, fun W hW => bound_no q true m a n hm ha hn hv W hW⟩
  rcases hbnd with ⟨M2, c3⟩ | ⟨M2, M4, o1, ho, b7, c3, c7, e1, e2, hlt, hw⟩
  · cases ht : addrQ q m a ((a + d) % 18446744073709551616) with
    | false =>
      rw [ht] at c1
      exact walk_nn _ _ _ _ _ _ _ _ _ _ _ _ _ _ _ _ c1 c3 c9 c10 c11 c12 cO hP w hT
    | true =>
      obtain ⟨o1, ho, c2⟩ := htag ht
      rw [ht] at c1
      rw [ho] at c9 c10 c12
      subst o1
      exact walk_yn _ _ _ _ _ _ _ _ _ _ _ _ _ _ _ c1 c2 c3 c9 c10 c11 c12 cO hP hneg w hT
  · have c4 := fun W hW => length_any true M2 a b7 W hW
    have c5 := fun W hW => base_any true M2 a b7 W hW
    have c6 := fun W hW => offset_any true M2 a b7 W hW
    have c8 := fun W hW => tunder_any true q M2 a m a b7 hm W hW
    rw [e1, e2, Nat.add_sub_cancel_left] at c4
    rw [e1] at c5 c6
    rw [show (a + (18446744073709551616 - a)) % 18446744073709551616 = 0 by omega] at c6
    rw [hw, Bool.and_true, o1, decide_eq_true rfl] at c8
    cases ht : addrQ q m a ((a + d) % 18446744073709551616) with
    | false =>
      rw [ht] at c1
      rw [ho] at c9 c10 c12
      subst o1
      exact walk_ny _ _ _ _ _ _ _ _ _ _ _ _ _ _ _ c1 c3 c4 c5 c6 c7 c8 c9 c10 c11 c12 cO hP w hT
    | true =>
      obtain ⟨_, _, c2⟩ := htag ht
      rw [ht] at c1
      rw [ho] at c9 c10 c12
      subst o1
      exact walk_yy _ _ _ _ _ _ _ _ _ _ _ _ _ _ _ _ c1 c2 c3 c4 c5 c6 c7 c8 c9 c10 c11 c12 cO hP hneg w hT
open Go.ChangeShapes Go.WideShapes Go.ChangeAt
set_option maxRecDepth 100000 in
theorem walks : Frame.WalksLaid [("mintmark/bounds.places", Rows.laid_mintmark_bounds_places)] 8 Tryd.f8 := by
  intro H enc W base args ds ps hL hval hA
  rw [Tryd.params8] at hA hval
  obtain ⟨v0, v1, v2, d0, d1, d2, p0, p1, p2, hargs, rfl, rfl, h0, h1, h2⟩ := trodAll_three hA
  obtain rfl : args = #[v0, v1, v2] := by cases args; simp_all
  obtain ⟨cs0, rfl, hf0⟩ := Frame.open_struct (F := 4) (ks := [.inr false, .inl .u64, .inl .u64]) Tryd.underlying24 (by kernel_rfl) (hval 0 24 v0 rfl rfl) h0
  match cs0, hf0 with
  | [_, _, _], ⟨⟨z0_0, rfl⟩, ⟨z0_1, rfl, wz0_1⟩, ⟨z0_2, rfl, wz0_2⟩, _⟩ =>
  obtain ⟨Z0_1, rfl⟩ := Frame.wf_u64 wz0_1
  obtain ⟨Z0_2, rfl⟩ := Frame.wf_u64 wz0_2
  obtain ⟨x1, rfl, rfl, rfl, w1⟩ := open_int Tryd.underlying22 (hval 1 22 v1 rfl rfl) h1
  obtain ⟨x2, rfl, rfl, rfl, w2⟩ := open_int Tryd.underlying22 (hval 2 22 v2 rfl rfl) h2
  obtain ⟨X1, rfl⟩ := Frame.wf_u64 w1
  obtain ⟨X2, rfl⟩ := Frame.wf_u64 w2
  exact walk z0_0 Z0_1 Z0_2 X1 X2 W (tab_of_laid hL)
set_option maxRecDepth 100000 in
theorem said : Rows.AlgebraReturnsSaid :=
  OpenClaim.holds_of_wide 8 Tryd.f8 rfl rfl rfl rfl rfl rfl rfl ⟨rfl, rfl, rfl, rfl, rfl⟩ rfl rfl rfl rfl rfl (by kernel_rfl) Tryd.func8 (by kernel_rfl)
    (of_decide_eq_true (by kernel_rfl)) (by unfold Func.isWrapper; first | (rw [if_pos (by decide +kernel)]; kernel_rfl) | (rw [if_neg (by decide +kernel)]; exact ⟨rfl, rfl⟩))
    (fun os started H enc _ => Frame.liftLaid [("mintmark/bounds.places", Rows.laid_mintmark_bounds_places)] os started H enc _ _ Rows.algebraReturnsSpec 4 (by kernel_rfl) Tryd.func8 Tryd.underlying4 (by kernel_rfl) rfl (by kernel_rfl)
      (fun ds h => by match ds, h with | [_, _, _], _ => exact ⟨rfl, rfl, rfl⟩)
      (ChangeSpec.witness_shaped (enc := enc) (C := Tryd.checked) (os := os) (X := fun w _ => laidMetH Tryd.prog [("mintmark/bounds.places", Rows.laid_mintmark_bounds_places)] w) false (World.doorLaid Tryd.prog 400 os) #[.agg #[.bool false, .int .u64 0, .int .u64 0], .int .u64 0, .int .u64 0] 8 rfl (World.shaped_of_RefB (by kernel_rfl) (by kernel_rfl)) (by kernel_rfl) (by kernel_rfl) (by kernel_rfl) (door_met os _)) walks)
set_option maxRecDepth 100000 in
theorem proved : Rows.AlgebraReturnsCardSaid :=
  Claim7.holds_tied_plain_at .later [] [.data] true _ false said (fun _ h => by cases h) (by kernel_rfl) (fun _ h => by cases h) algebraReturns_row_tie rfl ⟨rfl, rfl⟩ (by kernel_rfl) rfl
    (fun f fn hf hfn => by
      obtain rfl : f = 8 := Option.some.inj ((show Tryd.prog.funcNamed "mintmark/mintmarklaw06.AlgebraReturns" = some 8 by kernel_rfl).symm.trans hf) |>.symm
      obtain rfl : fn = Tryd.f8 := (Option.some.inj (Tryd.func8.symm.trans hfn)).symm
      exact ⟨by kernel_rfl, fun j t ht => by
        rw [Tryd.params8] at ht
        have hm : t ∈ [24, 22] := by have := Array.mem_of_getElem? ht; simp at this; simp; first | omega | grind
        have hall : ([24, 22].all fun u => !Tryd.prog.wantsStandIn u) = true := by kernel_rfl
        exact (show Tryd.prog.wantsStandIn t = false by simpa using List.all_eq_true.1 hall t hm)⟩)
    (by kernel_rfl)
end Go.Proofs.YtbncoiejbclpjaaDoor.AlgebraReturns
