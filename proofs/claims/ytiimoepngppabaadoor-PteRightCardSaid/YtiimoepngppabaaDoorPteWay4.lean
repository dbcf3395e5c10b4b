/-
  PteRight: the law's ways through its tests (d, e), told of letters: it returns true and turns nothing that was there, where the table of places holds what the program's text lays.
-/
import Derived.Test.YtiimoepngppabaaDoorPteRight
import Derived.Test.YtiimoepngppabaaDoorPteLaid
namespace Go.Proofs.YtiimoepngppabaaDoor.PteRight
open Go.RowKit Words FieldMath PteMath

set_option maxRecDepth 100000 in
set_option maxHeartbeats 8000000 in
theorem walk_d_way (b0 b1 b2 b3 b4 b5 b6 b7 b8 b9 b10 b11 : Bool) (N G H A : Int) (c1 : ∀ W, Tab W → Calls Tryd.prog 12 #[.agg #[.bool false, .bool b1, .bool b2, .bool b3, .bool b4, .bool b5, .bool b6, .bool b7, .bool b8, .bool b9, .bool b10, .bool b11, .int .u64 N]] W (Makes (.bool true) W)) (c2 : ∀ W, Tab W → Calls Tryd.prog 10 #[.agg #[.bool false, .bool b1, .bool b2, .bool b3, .bool b4, .bool b5, .bool b6, .bool b7, .bool b8, .bool b9, .bool b10, .bool b11, .int .u64 N]] W (Makes (.bool false) W)) (c3 : ∀ W, Tab W → Calls Tryd.prog 12 #[.agg #[.bool b0, .bool b1, .bool b2, .bool b3, .bool b4, .bool b5, .bool b6, .bool b7, .bool b8, .bool b9, .bool b10, .bool b11, .int .u64 N]] W (Makes (.bool false) W)) (c9 : ∀ W, Tab W → Calls Tryd.prog 12 #[.agg #[.bool true, .bool false, .bool false, .bool false, .bool false, .bool false, .bool false, .bool false, .bool false, .bool false, .bool false, .bool false, .int .u64 G]] W (Makes (.bool true) W)) (c10 : ∀ W, Tab W → Calls Tryd.prog 10 #[.agg #[.bool true, .bool false, .bool false, .bool false, .bool false, .bool false, .bool false, .bool false, .bool false, .bool false, .bool false, .bool false, .int .u64 G]] W (Makes (.bool false) W)) (c11 : ∀ W, Tab W → Calls Tryd.prog 6 #[.agg #[.bool true, .bool false, .bool false, .bool false, .bool false, .bool false, .bool false, .bool false, .bool false, .bool false, .bool false, .bool false, .int .u64 G]] W (Makes (.int .u64 A) W)) (c12 : ∀ W, Tab W → Calls Tryd.prog 8 #[.int .u64 A] W (Makes (.agg #[.bool true, .bool false, .bool false, .bool false, .bool false, .bool false, .bool false, .bool false, .bool false, .bool false, .bool false, .bool false, .int .u64 G]) W)) (hG : bits .and .u64 N 65535 = G) (hH : IntKind.u64.wrap (G * 1024) = H) (hA : IntKind.u64.wrap (1 + H) = A) (w : World) (hT : Tab w) : Calls Tryd.prog 5 #[.agg #[.bool b0, .bool b1, .bool b2, .bool b3, .bool b4, .bool b5, .bool b6, .bool b7, .bool b8, .bool b9, .bool b10, .bool b11, .int .u64 N]] w (Makes (.bool true) w) := by
  have Cc1 := hide c1
  have Cc2 := hide c2
  have Cc3 := hide c3
  have Cc9 := hide c9
  have Cc10 := hide c10
  have Cc11 := hide c11
  have Cc12 := hide c12
  clear c1 c2 c3 c9 c10 c11 c12
  have SS := cell_same
  have LB' := ltB_add
  have LS := ltB_self
  have LA' := alloc_reads
  have LH := alloc_holds
  have EI : ∀ W, (Op.equalIn 10000 24 (.agg #[.bool true, .bool false, .bool false, .bool false, .bool false, .bool false, .bool false, .bool false, .bool false, .bool false, .bool false, .bool false, .int .u64 G]) (.agg #[.bool true, .bool false, .bool false, .bool false, .bool false, .bool false, .bool false, .bool false, .bool false, .bool false, .bool false, .bool false, .int .u64 G])).run Tryd.prog W = .ok true W := fun W => by rw [eqi_e, decide_eq_true rfl]
  have EQ : ∀ W, (binOp .eql 24 (.agg #[.bool true, .bool false, .bool false, .bool false, .bool false, .bool false, .bool false, .bool false, .bool false, .bool false, .bool false, .bool false, .int .u64 G]) (.agg #[.bool true, .bool false, .bool false, .bool false, .bool false, .bool false, .bool false, .bool false, .bool false, .bool false, .bool false, .bool false, .int .u64 G])).run Tryd.prog W = .ok (.bool true) W := fun W => by rw [eq_e, decide_eq_true rfl]
  go_enter Tryd.func5, Tryd.ntmps5
  go_upto_region 3 with fail
  refine wp_abs (fun W => Below w.heap.size w W ∧ W.cell? ⟨w.heap.size, 0, none⟩ = some (.bool b0) ∧ W.cell? ⟨w.heap.size, 1, none⟩ = some (.bool b1) ∧ W.cell? ⟨w.heap.size, 2, none⟩ = some (.bool b2) ∧ W.cell? ⟨w.heap.size, 3, none⟩ = some (.bool b3) ∧ W.cell? ⟨w.heap.size, 4, none⟩ = some (.bool b4) ∧ W.cell? ⟨w.heap.size, 5, none⟩ = some (.bool b5) ∧ W.cell? ⟨w.heap.size, 6, none⟩ = some (.bool b6) ∧ W.cell? ⟨w.heap.size, 7, none⟩ = some (.bool b7) ∧ W.cell? ⟨w.heap.size, 8, none⟩ = some (.bool b8) ∧ W.cell? ⟨w.heap.size, 9, none⟩ = some (.bool b9) ∧ W.cell? ⟨w.heap.size, 10, none⟩ = some (.bool b10) ∧ W.cell? ⟨w.heap.size, 11, none⟩ = some (.bool b11) ∧ W.cell? ⟨w.heap.size, 12, none⟩ = some (.int .u64 N) ∧ W.cell? ⟨w.heap.size + 1, 0, none⟩ = some (.bool false) ∧ W.cell? ⟨w.heap.size + 1, 1, none⟩ = some (.bool b1) ∧ W.cell? ⟨w.heap.size + 1, 2, none⟩ = some (.bool b2) ∧ W.cell? ⟨w.heap.size + 1, 3, none⟩ = some (.bool b3) ∧ W.cell? ⟨w.heap.size + 1, 4, none⟩ = some (.bool b4) ∧ W.cell? ⟨w.heap.size + 1, 5, none⟩ = some (.bool b5) ∧ W.cell? ⟨w.heap.size + 1, 6, none⟩ = some (.bool b6) ∧ W.cell? ⟨w.heap.size + 1, 7, none⟩ = some (.bool b7) ∧ W.cell? ⟨w.heap.size + 1, 8, none⟩ = some (.bool b8) ∧ W.cell? ⟨w.heap.size + 1, 9, none⟩ = some (.bool b9) ∧ W.cell? ⟨w.heap.size + 1, 10, none⟩ = some (.bool b10) ∧ W.cell? ⟨w.heap.size + 1, 11, none⟩ = some (.bool b11) ∧ W.cell? ⟨w.heap.size + 1, 12, none⟩ = some (.int .u64 N)) ?_ ?_
  · refine ⟨?_, ?_, ?_, ?_, ?_, ?_, ?_, ?_, ?_, ?_, ?_, ?_, ?_, ?_, ?_, ?_, ?_, ?_, ?_, ?_, ?_, ?_, ?_, ?_, ?_, ?_, ?_⟩
    all_goals (first | with_reducible assumption | ((repeat (first | with_reducible assumption | with_reducible refine c_dr _ ?_ | with_reducible refine c_d1 ?_ | with_reducible refine c_al _ ?_ | (with_reducible refine c_set ?_ ?_; focus (dsimp only; omega)) | (with_reducible apply c_be; with_reducible assumption))); done) | ((repeat (first | with_reducible assumption | with_reducible refine o_dr _ ?_ | with_reducible refine o_d1 ?_ | with_reducible refine o_set ?_ | (with_reducible refine o_new ?_ ?_; (focus (simp)); (focus (simp))) | with_reducible refine o_al _ ?_ | (with_reducible apply o_be; with_reducible assumption))); done) | ((repeat (first | with_reducible assumption | with_reducible exact Below.refl _ _ | with_reducible refine Below.drew ?_ | with_reducible refine below_drewN ?_ _ | with_reducible refine bw_alloc ?_ _ | (with_reducible refine bw_set ?_ ?_ _; focus (dsimp only; omega)) | (with_reducible apply bw_behind; with_reducible assumption))); done) | (refine hT.behind ?_; (repeat (first | with_reducible assumption | with_reducible exact Below.refl _ _ | with_reducible refine Below.drew ?_ | with_reducible refine below_drewN ?_ _ | with_reducible refine bw_alloc ?_ _ | (with_reducible refine bw_set ?_ ?_ _; focus (dsimp only; omega)) | (with_reducible apply bw_behind; with_reducible assumption))); done) | (simp [go_sem, *]; omega) | (simp (maxDischargeDepth := 4) [go_sem, *]; done))
  rintro w3 ⟨hB_w3, e_0, e_1, e_2, e_3, e_4, e_5, e_6, e_7, e_8, e_9, e_10, e_11, e_12, f_0, f_1, f_2, f_3, f_4, f_5, f_6, f_7, f_8, f_9, f_10, f_11, f_12⟩
  have qe : ltB (w.heap.size) w3.heap.size = true := by unfold ltB; simpa using World.block_lt_of_cell? w3 _ e_0
  have qf : ltB (w.heap.size + 1) w3.heap.size = true := by unfold ltB; simpa using World.block_lt_of_cell? w3 _ f_0
  go_upto_region 5 with (first | (go_at_call 12; (first | ((with_reducible refine (Cc1.out _ ?_).mono ?_); (refine hT.behind ?_; repeat (first | with_reducible assumption | with_reducible exact Below.refl _ _ | with_reducible refine Below.drew ?_ | with_reducible refine below_drewN ?_ _ | with_reducible refine bw_alloc ?_ _ | (with_reducible refine bw_set ?_ ?_ _; focus (dsimp only; omega)) | (with_reducible apply bw_behind; with_reducible assumption))))); rintro e wa ⟨rfl, hba⟩; have hra := below_reads hba; have hha := below_holds hba; obtain ⟨ma, hsa⟩ := below_grew hba) | (go_at_call 10; (first | ((with_reducible refine (Cc2.out _ ?_).mono ?_); (refine hT.behind ?_; repeat (first | with_reducible assumption | with_reducible exact Below.refl _ _ | with_reducible refine Below.drew ?_ | with_reducible refine below_drewN ?_ _ | with_reducible refine bw_alloc ?_ _ | (with_reducible refine bw_set ?_ ?_ _; focus (dsimp only; omega)) | (with_reducible apply bw_behind; with_reducible assumption))))); rintro e wb ⟨rfl, hbb⟩; have hrb := below_reads hbb; have hhb := below_holds hbb; obtain ⟨mb, hsb⟩ := below_grew hbb))
  refine wp_abs (fun W => Below w.heap.size w W ∧ W.cell? ⟨w.heap.size, 0, none⟩ = some (.bool b0) ∧ W.cell? ⟨w.heap.size, 1, none⟩ = some (.bool b1) ∧ W.cell? ⟨w.heap.size, 2, none⟩ = some (.bool b2) ∧ W.cell? ⟨w.heap.size, 3, none⟩ = some (.bool b3) ∧ W.cell? ⟨w.heap.size, 4, none⟩ = some (.bool b4) ∧ W.cell? ⟨w.heap.size, 5, none⟩ = some (.bool b5) ∧ W.cell? ⟨w.heap.size, 6, none⟩ = some (.bool b6) ∧ W.cell? ⟨w.heap.size, 7, none⟩ = some (.bool b7) ∧ W.cell? ⟨w.heap.size, 8, none⟩ = some (.bool b8) ∧ W.cell? ⟨w.heap.size, 9, none⟩ = some (.bool b9) ∧ W.cell? ⟨w.heap.size, 10, none⟩ = some (.bool b10) ∧ W.cell? ⟨w.heap.size, 11, none⟩ = some (.bool b11) ∧ W.cell? ⟨w.heap.size, 12, none⟩ = some (.int .u64 N)) ?_ ?_
  · refine ⟨?_, ?_, ?_, ?_, ?_, ?_, ?_, ?_, ?_, ?_, ?_, ?_, ?_, ?_⟩
    all_goals (first | with_reducible assumption | ((repeat (first | with_reducible assumption | with_reducible refine c_dr _ ?_ | with_reducible refine c_d1 ?_ | with_reducible refine c_al _ ?_ | (with_reducible refine c_set ?_ ?_; focus (dsimp only; omega)) | (with_reducible apply c_be; with_reducible assumption))); done) | ((repeat (first | with_reducible assumption | with_reducible refine o_dr _ ?_ | with_reducible refine o_d1 ?_ | with_reducible refine o_set ?_ | (with_reducible refine o_new ?_ ?_; (focus (simp)); (focus (simp))) | with_reducible refine o_al _ ?_ | (with_reducible apply o_be; with_reducible assumption))); done) | ((repeat (first | with_reducible assumption | with_reducible exact Below.refl _ _ | with_reducible refine Below.drew ?_ | with_reducible refine below_drewN ?_ _ | with_reducible refine bw_alloc ?_ _ | (with_reducible refine bw_set ?_ ?_ _; focus (dsimp only; omega)) | (with_reducible apply bw_behind; with_reducible assumption))); done) | (refine hT.behind ?_; (repeat (first | with_reducible assumption | with_reducible exact Below.refl _ _ | with_reducible refine Below.drew ?_ | with_reducible refine below_drewN ?_ _ | with_reducible refine bw_alloc ?_ _ | (with_reducible refine bw_set ?_ ?_ _; focus (dsimp only; omega)) | (with_reducible apply bw_behind; with_reducible assumption))); done) | (simp [go_sem, *]; omega) | (simp (maxDischargeDepth := 4) [go_sem, *]; done))
  rintro w5 ⟨hB_w5, g_0, g_1, g_2, g_3, g_4, g_5, g_6, g_7, g_8, g_9, g_10, g_11, g_12⟩
  have qg : ltB (w.heap.size) w5.heap.size = true := by unfold ltB; simpa using World.block_lt_of_cell? w5 _ g_0
  go_upto_region 14 with (first | (go_at_call 12; (first | ((with_reducible refine (Cc3.out _ ?_).mono ?_); (refine hT.behind ?_; repeat (first | with_reducible assumption | with_reducible exact Below.refl _ _ | with_reducible refine Below.drew ?_ | with_reducible refine below_drewN ?_ _ | with_reducible refine bw_alloc ?_ _ | (with_reducible refine bw_set ?_ ?_ _; focus (dsimp only; omega)) | (with_reducible apply bw_behind; with_reducible assumption))))); rintro e wc ⟨rfl, hbc⟩; have hrc := below_reads hbc; have hhc := below_holds hbc; obtain ⟨mc, hsc⟩ := below_grew hbc))
  refine wp_abs (fun W => Below w.heap.size w W ∧ W.cell? ⟨w.heap.size, 12, none⟩ = some (.int .u64 N)) ?_ ?_
  · refine ⟨?_, ?_⟩
    all_goals (first | with_reducible assumption | ((repeat (first | with_reducible assumption | with_reducible refine c_dr _ ?_ | with_reducible refine c_d1 ?_ | with_reducible refine c_al _ ?_ | (with_reducible refine c_set ?_ ?_; focus (dsimp only; omega)) | (with_reducible apply c_be; with_reducible assumption))); done) | ((repeat (first | with_reducible assumption | with_reducible refine o_dr _ ?_ | with_reducible refine o_d1 ?_ | with_reducible refine o_set ?_ | (with_reducible refine o_new ?_ ?_; (focus (simp)); (focus (simp))) | with_reducible refine o_al _ ?_ | (with_reducible apply o_be; with_reducible assumption))); done) | ((repeat (first | with_reducible assumption | with_reducible exact Below.refl _ _ | with_reducible refine Below.drew ?_ | with_reducible refine below_drewN ?_ _ | with_reducible refine bw_alloc ?_ _ | (with_reducible refine bw_set ?_ ?_ _; focus (dsimp only; omega)) | (with_reducible apply bw_behind; with_reducible assumption))); done) | (refine hT.behind ?_; (repeat (first | with_reducible assumption | with_reducible exact Below.refl _ _ | with_reducible refine Below.drew ?_ | with_reducible refine below_drewN ?_ _ | with_reducible refine bw_alloc ?_ _ | (with_reducible refine bw_set ?_ ?_ _; focus (dsimp only; omega)) | (with_reducible apply bw_behind; with_reducible assumption))); done) | (simp [go_sem, *]; omega) | (simp (maxDischargeDepth := 4) [go_sem, *]; done))
  rintro w14 ⟨hB_w14, m_12⟩
  have qm : ltB (w.heap.size) w14.heap.size = true := by unfold ltB; simpa using World.block_lt_of_cell? w14 _ m_12
  go_upto_region 15 with fail
  refine wp_abs (fun W => Tab W ∧ Below w.heap.size w W ∧ W.cell? ⟨w14.heap.size, 0, none⟩ = some (.bool true) ∧ W.cell? ⟨w14.heap.size, 1, none⟩ = some (.bool false) ∧ W.cell? ⟨w14.heap.size, 2, none⟩ = some (.bool false) ∧ W.cell? ⟨w14.heap.size, 3, none⟩ = some (.bool false) ∧ W.cell? ⟨w14.heap.size, 4, none⟩ = some (.bool false) ∧ W.cell? ⟨w14.heap.size, 5, none⟩ = some (.bool false) ∧ W.cell? ⟨w14.heap.size, 6, none⟩ = some (.bool false) ∧ W.cell? ⟨w14.heap.size, 7, none⟩ = some (.bool false) ∧ W.cell? ⟨w14.heap.size, 8, none⟩ = some (.bool false) ∧ W.cell? ⟨w14.heap.size, 9, none⟩ = some (.bool false) ∧ W.cell? ⟨w14.heap.size, 10, none⟩ = some (.bool false) ∧ W.cell? ⟨w14.heap.size, 11, none⟩ = some (.bool false) ∧ W.cell? ⟨w14.heap.size, 12, none⟩ = some (.int .u64 G)) ?_ ?_
  · refine ⟨?_, ?_, ?_, ?_, ?_, ?_, ?_, ?_, ?_, ?_, ?_, ?_, ?_, ?_, ?_⟩
    all_goals (first | with_reducible assumption | ((repeat (first | with_reducible assumption | with_reducible refine c_dr _ ?_ | with_reducible refine c_d1 ?_ | with_reducible refine c_al _ ?_ | (with_reducible refine c_set ?_ ?_; focus (dsimp only; omega)) | (with_reducible apply c_be; with_reducible assumption))); done) | ((repeat (first | with_reducible assumption | with_reducible refine o_dr _ ?_ | with_reducible refine o_d1 ?_ | with_reducible refine o_set ?_ | (with_reducible refine o_new ?_ ?_; (focus (simp)); (focus (simp))) | with_reducible refine o_al _ ?_ | (with_reducible apply o_be; with_reducible assumption))); done) | ((repeat (first | with_reducible assumption | with_reducible exact Below.refl _ _ | with_reducible refine Below.drew ?_ | with_reducible refine below_drewN ?_ _ | with_reducible refine bw_alloc ?_ _ | (with_reducible refine bw_set ?_ ?_ _; focus (dsimp only; omega)) | (with_reducible apply bw_behind; with_reducible assumption))); done) | (refine hT.behind ?_; (repeat (first | with_reducible assumption | with_reducible exact Below.refl _ _ | with_reducible refine Below.drew ?_ | with_reducible refine below_drewN ?_ _ | with_reducible refine bw_alloc ?_ _ | (with_reducible refine bw_set ?_ ?_ _; focus (dsimp only; omega)) | (with_reducible apply bw_behind; with_reducible assumption))); done) | (simp [go_sem, *]; omega) | (simp (maxDischargeDepth := 4) [go_sem, *]; done))
  rintro w0t ⟨hT0t, hB0t, ct0, ct1, ct2, ct3, ct4, ct5, ct6, ct7, ct8, ct9, ct10, ct11, ct12⟩
  have yt0 := behind_cell0 ct0
  have yt1 := behind_cell0 ct1
  have yt2 := behind_cell0 ct2
  have yt3 := behind_cell0 ct3
  have yt4 := behind_cell0 ct4
  have yt5 := behind_cell0 ct5
  have yt6 := behind_cell0 ct6
  have yt7 := behind_cell0 ct7
  have yt8 := behind_cell0 ct8
  have yt9 := behind_cell0 ct9
  have yt10 := behind_cell0 ct10
  have yt11 := behind_cell0 ct11
  have yt12 := behind_cell0 ct12
  have hsome := Behind.any w0t
  clear ct0 ct1 ct2 ct3 ct4 ct5 ct6 ct7 ct8 ct9 ct10 ct11 ct12
  refine wp_region_behind w0t (by kernel_rfl) (by kernel_rfl) (Below.refl _ _) ?_
  repeat (go_big_quiet_step (first | (go_at_call 12; with_reducible first | exact behind_call Cc9.out hT0t _) | (go_at_call 10; with_reducible first | exact behind_call Cc10.out hT0t _) | (go_at_call 6; with_reducible first | exact behind_call Cc11.out hT0t _) | (go_at_call 8; with_reducible first | exact behind_call Cc12.out hT0t _)))
  refine wpQuiet_nil ?_
  rintro _ ⟨y, rfl⟩
  have hTy := hT0t.behind y.below
  have hBy := bw_behind y.below hB0t
  have xt0 := yt0 y
  have xt1 := yt1 y
  have xt2 := yt2 y
  have xt3 := yt3 y
  have xt4 := yt4 y
  have xt5 := yt5 y
  have xt6 := yt6 y
  have xt7 := yt7 y
  have xt8 := yt8 y
  have xt9 := yt9 y
  have xt10 := yt10 y
  have xt11 := yt11 y
  have xt12 := yt12 y
  clear hsome yt0 yt1 yt2 yt3 yt4 yt5 yt6 yt7 yt8 yt9 yt10 yt11 yt12
  obtain ⟨w1t, hw1⟩ : ∃ W, W = y.world := ⟨_, rfl⟩
  rw [← hw1] at hTy hBy xt0 xt1 xt2 xt3 xt4 xt5 xt6 xt7 xt8 xt9 xt10 xt11 xt12 ⊢
  clear hw1 y hT0t hB0t
  go_wp2_with fail
  go_ret
  refine ⟨rfl, ?_⟩
  repeat (first | with_reducible assumption | with_reducible exact Below.refl _ _ | with_reducible refine Below.drew ?_ | with_reducible refine below_drewN ?_ _ | with_reducible refine bw_alloc ?_ _ | (with_reducible refine bw_set ?_ ?_ _; focus (dsimp only; omega)) | (with_reducible apply bw_behind; with_reducible assumption))

set_option maxRecDepth 100000 in
set_option maxHeartbeats 8000000 in
theorem walk_e_way (b0 b1 b2 b3 b4 b5 b6 b7 b8 b9 b10 b11 : Bool) (N G H A : Int) (c1 : ∀ W, Tab W → Calls Tryd.prog 12 #[.agg #[.bool false, .bool b1, .bool b2, .bool b3, .bool b4, .bool b5, .bool b6, .bool b7, .bool b8, .bool b9, .bool b10, .bool b11, .int .u64 N]] W (Makes (.bool true) W)) (c2 : ∀ W, Tab W → Calls Tryd.prog 10 #[.agg #[.bool false, .bool b1, .bool b2, .bool b3, .bool b4, .bool b5, .bool b6, .bool b7, .bool b8, .bool b9, .bool b10, .bool b11, .int .u64 N]] W (Makes (.bool false) W)) (c3 : ∀ W, Tab W → Calls Tryd.prog 12 #[.agg #[.bool b0, .bool b1, .bool b2, .bool b3, .bool b4, .bool b5, .bool b6, .bool b7, .bool b8, .bool b9, .bool b10, .bool b11, .int .u64 N]] W (Makes (.bool true) W)) (c4 : ∀ W, Tab W → Calls Tryd.prog 10 #[.agg #[.bool b0, .bool b1, .bool b2, .bool b3, .bool b4, .bool b5, .bool b6, .bool b7, .bool b8, .bool b9, .bool b10, .bool b11, .int .u64 N]] W (Makes (.bool false) W)) (c9 : ∀ W, Tab W → Calls Tryd.prog 12 #[.agg #[.bool true, .bool false, .bool false, .bool false, .bool false, .bool false, .bool false, .bool false, .bool false, .bool false, .bool false, .bool false, .int .u64 G]] W (Makes (.bool true) W)) (c10 : ∀ W, Tab W → Calls Tryd.prog 10 #[.agg #[.bool true, .bool false, .bool false, .bool false, .bool false, .bool false, .bool false, .bool false, .bool false, .bool false, .bool false, .bool false, .int .u64 G]] W (Makes (.bool false) W)) (c11 : ∀ W, Tab W → Calls Tryd.prog 6 #[.agg #[.bool true, .bool false, .bool false, .bool false, .bool false, .bool false, .bool false, .bool false, .bool false, .bool false, .bool false, .bool false, .int .u64 G]] W (Makes (.int .u64 A) W)) (c12 : ∀ W, Tab W → Calls Tryd.prog 8 #[.int .u64 A] W (Makes (.agg #[.bool true, .bool false, .bool false, .bool false, .bool false, .bool false, .bool false, .bool false, .bool false, .bool false, .bool false, .bool false, .int .u64 G]) W)) (hG : bits .and .u64 N 65535 = G) (hH : IntKind.u64.wrap (G * 1024) = H) (hA : IntKind.u64.wrap (1 + H) = A) (w : World) (hT : Tab w) : Calls Tryd.prog 5 #[.agg #[.bool b0, .bool b1, .bool b2, .bool b3, .bool b4, .bool b5, .bool b6, .bool b7, .bool b8, .bool b9, .bool b10, .bool b11, .int .u64 N]] w (Makes (.bool true) w) := by
  have Cc1 := hide c1
  have Cc2 := hide c2
  have Cc3 := hide c3
  have Cc4 := hide c4
  have Cc9 := hide c9
  have Cc10 := hide c10
  have Cc11 := hide c11
  have Cc12 := hide c12
  clear c1 c2 c3 c4 c9 c10 c11 c12
  have SS := cell_same
  have LB' := ltB_add
  have LS := ltB_self
  have LA' := alloc_reads
  have LH := alloc_holds
  have EI : ∀ W, (Op.equalIn 10000 24 (.agg #[.bool true, .bool false, .bool false, .bool false, .bool false, .bool false, .bool false, .bool false, .bool false, .bool false, .bool false, .bool false, .int .u64 G]) (.agg #[.bool true, .bool false, .bool false, .bool false, .bool false, .bool false, .bool false, .bool false, .bool false, .bool false, .bool false, .bool false, .int .u64 G])).run Tryd.prog W = .ok true W := fun W => by rw [eqi_e, decide_eq_true rfl]
  have EQ : ∀ W, (binOp .eql 24 (.agg #[.bool true, .bool false, .bool false, .bool false, .bool false, .bool false, .bool false, .bool false, .bool false, .bool false, .bool false, .bool false, .int .u64 G]) (.agg #[.bool true, .bool false, .bool false, .bool false, .bool false, .bool false, .bool false, .bool false, .bool false, .bool false, .bool false, .bool false, .int .u64 G])).run Tryd.prog W = .ok (.bool true) W := fun W => by rw [eq_e, decide_eq_true rfl]
  go_enter Tryd.func5, Tryd.ntmps5
  go_upto_region 3 with fail
  refine wp_abs (fun W => Below w.heap.size w W ∧ W.cell? ⟨w.heap.size, 0, none⟩ = some (.bool b0) ∧ W.cell? ⟨w.heap.size, 1, none⟩ = some (.bool b1) ∧ W.cell? ⟨w.heap.size, 2, none⟩ = some (.bool b2) ∧ W.cell? ⟨w.heap.size, 3, none⟩ = some (.bool b3) ∧ W.cell? ⟨w.heap.size, 4, none⟩ = some (.bool b4) ∧ W.cell? ⟨w.heap.size, 5, none⟩ = some (.bool b5) ∧ W.cell? ⟨w.heap.size, 6, none⟩ = some (.bool b6) ∧ W.cell? ⟨w.heap.size, 7, none⟩ = some (.bool b7) ∧ W.cell? ⟨w.heap.size, 8, none⟩ = some (.bool b8) ∧ W.cell? ⟨w.heap.size, 9, none⟩ = some (.bool b9) ∧ W.cell? ⟨w.heap.size, 10, none⟩ = some (.bool b10) ∧ W.cell? ⟨w.heap.size, 11, none⟩ = some (.bool b11) ∧ W.cell? ⟨w.heap.size, 12, none⟩ = some (.int .u64 N) ∧ W.cell? ⟨w.heap.size + 1, 0, none⟩ = some (.bool false) ∧ W.cell? ⟨w.heap.size + 1, 1, none⟩ = some (.bool b1) ∧ W.cell? ⟨w.heap.size + 1, 2, none⟩ = some (.bool b2) ∧ W.cell? ⟨w.heap.size + 1, 3, none⟩ = some (.bool b3) ∧ W.cell? ⟨w.heap.size + 1, 4, none⟩ = some (.bool b4) ∧ W.cell? ⟨w.heap.size + 1, 5, none⟩ = some (.bool b5) ∧ W.cell? ⟨w.heap.size + 1, 6, none⟩ = some (.bool b6) ∧ W.cell? ⟨w.heap.size + 1, 7, none⟩ = some (.bool b7) ∧ W.cell? ⟨w.heap.size + 1, 8, none⟩ = some (.bool b8) ∧ W.cell? ⟨w.heap.size + 1, 9, none⟩ = some (.bool b9) ∧ W.cell? ⟨w.heap.size + 1, 10, none⟩ = some (.bool b10) ∧ W.cell? ⟨w.heap.size + 1, 11, none⟩ = some (.bool b11) ∧ W.cell? ⟨w.heap.size + 1, 12, none⟩ = some (.int .u64 N)) ?_ ?_
  · refine ⟨?_, ?_, ?_, ?_, ?_, ?_, ?_, ?_, ?_, ?_, ?_, ?_, ?_, ?_, ?_, ?_, ?_, ?_, ?_, ?_, ?_, ?_, ?_, ?_, ?_, ?_, ?_⟩
    all_goals (first | with_reducible assumption | ((repeat (first | with_reducible assumption | with_reducible refine c_dr _ ?_ | with_reducible refine c_d1 ?_ | with_reducible refine c_al _ ?_ | (with_reducible refine c_set ?_ ?_; focus (dsimp only; omega)) | (with_reducible apply c_be; with_reducible assumption))); done) | ((repeat (first | with_reducible assumption | with_reducible refine o_dr _ ?_ | with_reducible refine o_d1 ?_ | with_reducible refine o_set ?_ | (with_reducible refine o_new ?_ ?_; (focus (simp)); (focus (simp))) | with_reducible refine o_al _ ?_ | (with_reducible apply o_be; with_reducible assumption))); done) | ((repeat (first | with_reducible assumption | with_reducible exact Below.refl _ _ | with_reducible refine Below.drew ?_ | with_reducible refine below_drewN ?_ _ | with_reducible refine bw_alloc ?_ _ | (with_reducible refine bw_set ?_ ?_ _; focus (dsimp only; omega)) | (with_reducible apply bw_behind; with_reducible assumption))); done) | (refine hT.behind ?_; (repeat (first | with_reducible assumption | with_reducible exact Below.refl _ _ | with_reducible refine Below.drew ?_ | with_reducible refine below_drewN ?_ _ | with_reducible refine bw_alloc ?_ _ | (with_reducible refine bw_set ?_ ?_ _; focus (dsimp only; omega)) | (with_reducible apply bw_behind; with_reducible assumption))); done) | (simp [go_sem, *]; omega) | (simp (maxDischargeDepth := 4) [go_sem, *]; done))
  rintro w3 ⟨hB_w3, e_0, e_1, e_2, e_3, e_4, e_5, e_6, e_7, e_8, e_9, e_10, e_11, e_12, f_0, f_1, f_2, f_3, f_4, f_5, f_6, f_7, f_8, f_9, f_10, f_11, f_12⟩
  have qe : ltB (w.heap.size) w3.heap.size = true := by unfold ltB; simpa using World.block_lt_of_cell? w3 _ e_0
  have qf : ltB (w.heap.size + 1) w3.heap.size = true := by unfold ltB; simpa using World.block_lt_of_cell? w3 _ f_0
  go_upto_region 5 with (first | (go_at_call 12; (first | ((with_reducible refine (Cc1.out _ ?_).mono ?_); (refine hT.behind ?_; repeat (first | with_reducible assumption | with_reducible exact Below.refl _ _ | with_reducible refine Below.drew ?_ | with_reducible refine below_drewN ?_ _ | with_reducible refine bw_alloc ?_ _ | (with_reducible refine bw_set ?_ ?_ _; focus (dsimp only; omega)) | (with_reducible apply bw_behind; with_reducible assumption))))); rintro e wa ⟨rfl, hba⟩; have hra := below_reads hba; have hha := below_holds hba; obtain ⟨ma, hsa⟩ := below_grew hba) | (go_at_call 10; (first | ((with_reducible refine (Cc2.out _ ?_).mono ?_); (refine hT.behind ?_; repeat (first | with_reducible assumption | with_reducible exact Below.refl _ _ | with_reducible refine Below.drew ?_ | with_reducible refine below_drewN ?_ _ | with_reducible refine bw_alloc ?_ _ | (with_reducible refine bw_set ?_ ?_ _; focus (dsimp only; omega)) | (with_reducible apply bw_behind; with_reducible assumption))))); rintro e wb ⟨rfl, hbb⟩; have hrb := below_reads hbb; have hhb := below_holds hbb; obtain ⟨mb, hsb⟩ := below_grew hbb))
  refine wp_abs (fun W => Below w.heap.size w W ∧ W.cell? ⟨w.heap.size, 0, none⟩ = some (.bool b0) ∧ W.cell? ⟨w.heap.size, 1, none⟩ = some (.bool b1) ∧ W.cell? ⟨w.heap.size, 2, none⟩ = some (.bool b2) ∧ W.cell? ⟨w.heap.size, 3, none⟩ = some (.bool b3) ∧ W.cell? ⟨w.heap.size, 4, none⟩ = some (.bool b4) ∧ W.cell? ⟨w.heap.size, 5, none⟩ = some (.bool b5) ∧ W.cell? ⟨w.heap.size, 6, none⟩ = some (.bool b6) ∧ W.cell? ⟨w.heap.size, 7, none⟩ = some (.bool b7) ∧ W.cell? ⟨w.heap.size, 8, none⟩ = some (.bool b8) ∧ W.cell? ⟨w.heap.size, 9, none⟩ = some (.bool b9) ∧ W.cell? ⟨w.heap.size, 10, none⟩ = some (.bool b10) ∧ W.cell? ⟨w.heap.size, 11, none⟩ = some (.bool b11) ∧ W.cell? ⟨w.heap.size, 12, none⟩ = some (.int .u64 N)) ?_ ?_
  · refine ⟨?_, ?_, ?_, ?_, ?_, ?_, ?_, ?_, ?_, ?_, ?_, ?_, ?_, ?_⟩
    all_goals (first | with_reducible assumption | ((repeat (first | with_reducible assumption | with_reducible refine c_dr _ ?_ | with_reducible refine c_d1 ?_ | with_reducible refine c_al _ ?_ | (with_reducible refine c_set ?_ ?_; focus (dsimp only; omega)) | (with_reducible apply c_be; with_reducible assumption))); done) | ((repeat (first | with_reducible assumption | with_reducible refine o_dr _ ?_ | with_reducible refine o_d1 ?_ | with_reducible refine o_set ?_ | (with_reducible refine o_new ?_ ?_; (focus (simp)); (focus (simp))) | with_reducible refine o_al _ ?_ | (with_reducible apply o_be; with_reducible assumption))); done) | ((repeat (first | with_reducible assumption | with_reducible exact Below.refl _ _ | with_reducible refine Below.drew ?_ | with_reducible refine below_drewN ?_ _ | with_reducible refine bw_alloc ?_ _ | (with_reducible refine bw_set ?_ ?_ _; focus (dsimp only; omega)) | (with_reducible apply bw_behind; with_reducible assumption))); done) | (refine hT.behind ?_; (repeat (first | with_reducible assumption | with_reducible exact Below.refl _ _ | with_reducible refine Below.drew ?_ | with_reducible refine below_drewN ?_ _ | with_reducible refine bw_alloc ?_ _ | (with_reducible refine bw_set ?_ ?_ _; focus (dsimp only; omega)) | (with_reducible apply bw_behind; with_reducible assumption))); done) | (simp [go_sem, *]; omega) | (simp (maxDischargeDepth := 4) [go_sem, *]; done))
  rintro w5 ⟨hB_w5, g_0, g_1, g_2, g_3, g_4, g_5, g_6, g_7, g_8, g_9, g_10, g_11, g_12⟩
  have qg : ltB (w.heap.size) w5.heap.size = true := by unfold ltB; simpa using World.block_lt_of_cell? w5 _ g_0
  go_upto_region 14 with (first | (go_at_call 12; (first | ((with_reducible refine (Cc3.out _ ?_).mono ?_); (refine hT.behind ?_; repeat (first | with_reducible assumption | with_reducible exact Below.refl _ _ | with_reducible refine Below.drew ?_ | with_reducible refine below_drewN ?_ _ | with_reducible refine bw_alloc ?_ _ | (with_reducible refine bw_set ?_ ?_ _; focus (dsimp only; omega)) | (with_reducible apply bw_behind; with_reducible assumption))))); rintro e wc ⟨rfl, hbc⟩; have hrc := below_reads hbc; have hhc := below_holds hbc; obtain ⟨mc, hsc⟩ := below_grew hbc) | (go_at_call 10; (first | ((with_reducible refine (Cc4.out _ ?_).mono ?_); (refine hT.behind ?_; repeat (first | with_reducible assumption | with_reducible exact Below.refl _ _ | with_reducible refine Below.drew ?_ | with_reducible refine below_drewN ?_ _ | with_reducible refine bw_alloc ?_ _ | (with_reducible refine bw_set ?_ ?_ _; focus (dsimp only; omega)) | (with_reducible apply bw_behind; with_reducible assumption))))); rintro e wd ⟨rfl, hbd⟩; have hrd := below_reads hbd; have hhd := below_holds hbd; obtain ⟨md, hsd⟩ := below_grew hbd))
  refine wp_abs (fun W => Below w.heap.size w W ∧ W.cell? ⟨w.heap.size, 12, none⟩ = some (.int .u64 N)) ?_ ?_
  · refine ⟨?_, ?_⟩
    all_goals (first | with_reducible assumption | ((repeat (first | with_reducible assumption | with_reducible refine c_dr _ ?_ | with_reducible refine c_d1 ?_ | with_reducible refine c_al _ ?_ | (with_reducible refine c_set ?_ ?_; focus (dsimp only; omega)) | (with_reducible apply c_be; with_reducible assumption))); done) | ((repeat (first | with_reducible assumption | with_reducible refine o_dr _ ?_ | with_reducible refine o_d1 ?_ | with_reducible refine o_set ?_ | (with_reducible refine o_new ?_ ?_; (focus (simp)); (focus (simp))) | with_reducible refine o_al _ ?_ | (with_reducible apply o_be; with_reducible assumption))); done) | ((repeat (first | with_reducible assumption | with_reducible exact Below.refl _ _ | with_reducible refine Below.drew ?_ | with_reducible refine below_drewN ?_ _ | with_reducible refine bw_alloc ?_ _ | (with_reducible refine bw_set ?_ ?_ _; focus (dsimp only; omega)) | (with_reducible apply bw_behind; with_reducible assumption))); done) | (refine hT.behind ?_; (repeat (first | with_reducible assumption | with_reducible exact Below.refl _ _ | with_reducible refine Below.drew ?_ | with_reducible refine below_drewN ?_ _ | with_reducible refine bw_alloc ?_ _ | (with_reducible refine bw_set ?_ ?_ _; focus (dsimp only; omega)) | (with_reducible apply bw_behind; with_reducible assumption))); done) | (simp [go_sem, *]; omega) | (simp (maxDischargeDepth := 4) [go_sem, *]; done))
  rintro w14 ⟨hB_w14, m_12⟩
  have qm : ltB (w.heap.size) w14.heap.size = true := by unfold ltB; simpa using World.block_lt_of_cell? w14 _ m_12
  go_upto_region 15 with fail
  refine wp_abs (fun W => Tab W ∧ Below w.heap.size w W ∧ W.cell? ⟨w14.heap.size, 0, none⟩ = some (.bool true) ∧ W.cell? ⟨w14.heap.size, 1, none⟩ = some (.bool false) ∧ W.cell? ⟨w14.heap.size, 2, none⟩ = some (.bool false) ∧ W.cell? ⟨w14.heap.size, 3, none⟩ = some (.bool false) ∧ W.cell? ⟨w14.heap.size, 4, none⟩ = some (.bool false) ∧ W.cell? ⟨w14.heap.size, 5, none⟩ = some (.bool false) ∧ W.cell? ⟨w14.heap.size, 6, none⟩ = some (.bool false) ∧ W.cell? ⟨w14.heap.size, 7, none⟩ = some (.bool false) ∧ W.cell? ⟨w14.heap.size, 8, none⟩ = some (.bool false) ∧ W.cell? ⟨w14.heap.size, 9, none⟩ = some (.bool false) ∧ W.cell? ⟨w14.heap.size, 10, none⟩ = some (.bool false) ∧ W.cell? ⟨w14.heap.size, 11, none⟩ = some (.bool false) ∧ W.cell? ⟨w14.heap.size, 12, none⟩ = some (.int .u64 G)) ?_ ?_
  · refine ⟨?_, ?_, ?_, ?_, ?_, ?_, ?_, ?_, ?_, ?_, ?_, ?_, ?_, ?_, ?_⟩
    all_goals (first | with_reducible assumption | ((repeat (first | with_reducible assumption | with_reducible refine c_dr _ ?_ | with_reducible refine c_d1 ?_ | with_reducible refine c_al _ ?_ | (with_reducible refine c_set ?_ ?_; focus (dsimp only; omega)) | (with_reducible apply c_be; with_reducible assumption))); done) | ((repeat (first | with_reducible assumption | with_reducible refine o_dr _ ?_ | with_reducible refine o_d1 ?_ | with_reducible refine o_set ?_ | (with_reducible refine o_new ?_ ?_; (focus (simp)); (focus (simp))) | with_reducible refine o_al _ ?_ | (with_reducible apply o_be; with_reducible assumption))); done) | ((repeat (first | with_reducible assumption | with_reducible exact Below.refl _ _ | with_reducible refine Below.drew ?_ | with_reducible refine below_drewN ?_ _ | with_reducible refine bw_alloc ?_ _ | (with_reducible refine bw_set ?_ ?_ _; focus (dsimp only; omega)) | (with_reducible apply bw_behind; with_reducible assumption))); done) | (refine hT.behind ?_; (repeat (first | with_reducible assumption | with_reducible exact Below.refl _ _ | with_reducible refine Below.drew ?_ | with_reducible refine below_drewN ?_ _ | with_reducible refine bw_alloc ?_ _ | (with_reducible refine bw_set ?_ ?_ _; focus (dsimp only; omega)) | (with_reducible apply bw_behind; with_reducible assumption))); done) | (simp [go_sem, *]; omega) | (simp (maxDischargeDepth := 4) [go_sem, *]; done))
  rintro w0t ⟨hT0t, hB0t, ct0, ct1, ct2, ct3, ct4, ct5, ct6, ct7, ct8, ct9, ct10, ct11, ct12⟩
  have yt0 := behind_cell0 ct0
  have yt1 := behind_cell0 ct1
  have yt2 := behind_cell0 ct2
  have yt3 := behind_cell0 ct3
  have yt4 := behind_cell0 ct4
  have yt5 := behind_cell0 ct5
  have yt6 := behind_cell0 ct6
  have yt7 := behind_cell0 ct7
  have yt8 := behind_cell0 ct8
  have yt9 := behind_cell0 ct9
  have yt10 := behind_cell0 ct10
  have yt11 := behind_cell0 ct11
  have yt12 := behind_cell0 ct12
  have hsome := Behind.any w0t
  clear ct0 ct1 ct2 ct3 ct4 ct5 ct6 ct7 ct8 ct9 ct10 ct11 ct12
  refine wp_region_behind w0t (by kernel_rfl) (by kernel_rfl) (Below.refl _ _) ?_
  repeat (go_big_quiet_step (first | (go_at_call 12; with_reducible first | exact behind_call Cc9.out hT0t _) | (go_at_call 10; with_reducible first | exact behind_call Cc10.out hT0t _) | (go_at_call 6; with_reducible first | exact behind_call Cc11.out hT0t _) | (go_at_call 8; with_reducible first | exact behind_call Cc12.out hT0t _)))
  refine wpQuiet_nil ?_
  rintro _ ⟨y, rfl⟩
  have hTy := hT0t.behind y.below
  have hBy := bw_behind y.below hB0t
  have xt0 := yt0 y
  have xt1 := yt1 y
  have xt2 := yt2 y
  have xt3 := yt3 y
  have xt4 := yt4 y
  have xt5 := yt5 y
  have xt6 := yt6 y
  have xt7 := yt7 y
  have xt8 := yt8 y
  have xt9 := yt9 y
  have xt10 := yt10 y
  have xt11 := yt11 y
  have xt12 := yt12 y
  clear hsome yt0 yt1 yt2 yt3 yt4 yt5 yt6 yt7 yt8 yt9 yt10 yt11 yt12
  obtain ⟨w1t, hw1⟩ : ∃ W, W = y.world := ⟨_, rfl⟩
  rw [← hw1] at hTy hBy xt0 xt1 xt2 xt3 xt4 xt5 xt6 xt7 xt8 xt9 xt10 xt11 xt12 ⊢
  clear hw1 y hT0t hB0t
  go_wp2_with fail
  go_ret
  refine ⟨rfl, ?_⟩
  repeat (first | with_reducible assumption | with_reducible exact Below.refl _ _ | with_reducible refine Below.drew ?_ | with_reducible refine below_drewN ?_ _ | with_reducible refine bw_alloc ?_ _ | (with_reducible refine bw_set ?_ ?_ _; focus (dsimp only; omega)) | (with_reducible apply bw_behind; with_reducible assumption))
end Go.Proofs.YtiimoepngppabaaDoor.PteRight
