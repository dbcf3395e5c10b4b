/-
  InstBack holds: for every i and w the law returns true and turns nothing that was there, where the tables of names and words hold what the program's text lays.
-/
import Derived.Test.YtdgkadoebcdmeaaDoorInstLaw
namespace Go.Proofs.YtdgkadoebcdmeaaDoor.InstBack
open Go.RowKit Words FieldMath InstMath

set_option maxRecDepth 100000 in
set_option maxHeartbeats 8000000 in
theorem walk_nt (K a b c m X Y e0 e1 e2 e3 e4 : Int) (T : ByteArray) (c1 : ∀ W, Tab2 W → Calls Tryd.prog 7 #[.agg #[.int .i64 K, .int .i64 a, .int .i64 b, .int .i64 c, .int .i64 m]] W (Makes (.tuple #[.int .u32 Y, .bool false]) W)) (c4 : ∀ W, Tab2 W → Calls Tryd.prog 12 #[.int .i64 K] W (Makes (.int .u8 0) W)) (c5 : ∀ W, Tab2 W → Calls Tryd.prog 9 #[.int .u32 X] W (Makes (.tuple #[.agg #[.int .i64 e0, .int .i64 e1, .int .i64 e2, .int .i64 e3, .int .i64 e4], .bool true]) W)) (c6 : ∀ W, Tab2 W → Calls Tryd.prog 7 #[.agg #[.int .i64 e0, .int .i64 e1, .int .i64 e2, .int .i64 e3, .int .i64 e4]] W (Makes (.tuple #[.int .u32 X, .bool true]) W)) (c7 : ∀ W, Tab2 W → Calls Tryd.prog 14 #[.int .i64 K] W (Makes (.string T) W)) (c8 : ∀ W, Tab2 W → Calls Tryd.prog 13 #[.string T] W (Makes (.int .i64 0) W)) (c9 : ∀ W, Tab2 W → Calls Tryd.prog 11 #[] W (Makes (.bool true) W)) (w : World) (hT : Tab2 w) :
    Calls Tryd.prog 4 #[.agg #[.int .i64 K, .int .i64 a, .int .i64 b, .int .i64 c, .int .i64 m], .int .u32 X] w (Makes (.bool true) w) := by
  have Cc1 := hide c1
  have Cc4 := hide c4
  have Cc5 := hide c5
  have Cc6 := hide c6
  have Cc7 := hide c7
  have Cc8 := hide c8
  have Cc9 := hide c9
  clear c1 c4 c5 c6 c7 c8 c9
  have SS := cell_same
  have LB' := ltB_add
  have LS := ltB_self
  have LA' := alloc_reads
  have LH := alloc_holds
  go_enter Tryd.func4, Tryd.ntmps4
  go_upto_region 15 with (first | (go_at_call 7; (first | ((with_reducible refine (Cc1.out _ ?_).mono ?_); (refine hT.behind ?_; repeat (first | with_reducible assumption | with_reducible exact Below.refl _ _ | with_reducible refine Below.drew ?_ | with_reducible refine below_drewN ?_ _ | with_reducible refine bw_alloc ?_ _ | (with_reducible refine bw_set ?_ ?_ _; focus (dsimp only; omega)) | (with_reducible apply bw_behind; with_reducible assumption)))) | ((with_reducible refine (Cc6.out _ ?_).mono ?_); (refine hT.behind ?_; repeat (first | with_reducible assumption | with_reducible exact Below.refl _ _ | with_reducible refine Below.drew ?_ | with_reducible refine below_drewN ?_ _ | with_reducible refine bw_alloc ?_ _ | (with_reducible refine bw_set ?_ ?_ _; focus (dsimp only; omega)) | (with_reducible apply bw_behind; with_reducible assumption))))); rintro e wq0 ⟨rfl, hbq0⟩; have hrq0 := below_reads hbq0; have hhq0 := below_holds hbq0; obtain ⟨mq0, hsq0⟩ := below_grew hbq0) | (go_at_call 12; (first | ((with_reducible refine (Cc4.out _ ?_).mono ?_); (refine hT.behind ?_; repeat (first | with_reducible assumption | with_reducible exact Below.refl _ _ | with_reducible refine Below.drew ?_ | with_reducible refine below_drewN ?_ _ | with_reducible refine bw_alloc ?_ _ | (with_reducible refine bw_set ?_ ?_ _; focus (dsimp only; omega)) | (with_reducible apply bw_behind; with_reducible assumption))))); rintro e wq1 ⟨rfl, hbq1⟩; have hrq1 := below_reads hbq1; have hhq1 := below_holds hbq1; obtain ⟨mq1, hsq1⟩ := below_grew hbq1) | (go_at_call 9; (first | ((with_reducible refine (Cc5.out _ ?_).mono ?_); (refine hT.behind ?_; repeat (first | with_reducible assumption | with_reducible exact Below.refl _ _ | with_reducible refine Below.drew ?_ | with_reducible refine below_drewN ?_ _ | with_reducible refine bw_alloc ?_ _ | (with_reducible refine bw_set ?_ ?_ _; focus (dsimp only; omega)) | (with_reducible apply bw_behind; with_reducible assumption))))); rintro e wq2 ⟨rfl, hbq2⟩; have hrq2 := below_reads hbq2; have hhq2 := below_holds hbq2; obtain ⟨mq2, hsq2⟩ := below_grew hbq2) | (go_at_call 14; (first | ((with_reducible refine (Cc7.out _ ?_).mono ?_); (refine hT.behind ?_; repeat (first | with_reducible assumption | with_reducible exact Below.refl _ _ | with_reducible refine Below.drew ?_ | with_reducible refine below_drewN ?_ _ | with_reducible refine bw_alloc ?_ _ | (with_reducible refine bw_set ?_ ?_ _; focus (dsimp only; omega)) | (with_reducible apply bw_behind; with_reducible assumption))))); rintro e wq3 ⟨rfl, hbq3⟩; have hrq3 := below_reads hbq3; have hhq3 := below_holds hbq3; obtain ⟨mq3, hsq3⟩ := below_grew hbq3) | (go_at_call 13; (first | ((with_reducible refine (Cc8.out _ ?_).mono ?_); (refine hT.behind ?_; repeat (first | with_reducible assumption | with_reducible exact Below.refl _ _ | with_reducible refine Below.drew ?_ | with_reducible refine below_drewN ?_ _ | with_reducible refine bw_alloc ?_ _ | (with_reducible refine bw_set ?_ ?_ _; focus (dsimp only; omega)) | (with_reducible apply bw_behind; with_reducible assumption))))); rintro e wq4 ⟨rfl, hbq4⟩; have hrq4 := below_reads hbq4; have hhq4 := below_holds hbq4; obtain ⟨mq4, hsq4⟩ := below_grew hbq4) | (go_at_call 11; (first | ((with_reducible refine (Cc9.out _ ?_).mono ?_); (refine hT.behind ?_; repeat (first | with_reducible assumption | with_reducible exact Below.refl _ _ | with_reducible refine Below.drew ?_ | with_reducible refine below_drewN ?_ _ | with_reducible refine bw_alloc ?_ _ | (with_reducible refine bw_set ?_ ?_ _; focus (dsimp only; omega)) | (with_reducible apply bw_behind; with_reducible assumption))))); rintro e wq5 ⟨rfl, hbq5⟩; have hrq5 := below_reads hbq5; have hhq5 := below_holds hbq5; obtain ⟨mq5, hsq5⟩ := below_grew hbq5))

  refine wp_abs (fun W => Tab2 W ∧ Below w.heap.size w W ∧ W.cell? ⟨w.heap.size, 0, none⟩ = some (.int .i64 K)) ?_ ?_
  · refine ⟨?_, ?_, ?_⟩
    all_goals (first | with_reducible assumption | ((repeat (first | with_reducible assumption | with_reducible refine c_dr _ ?_ | with_reducible refine c_d1 ?_ | with_reducible refine c_al _ ?_ | (with_reducible refine c_set ?_ ?_; focus (dsimp only; omega)) | (with_reducible apply c_be; with_reducible assumption))); done) | ((repeat (first | with_reducible assumption | with_reducible refine o_dr _ ?_ | with_reducible refine o_d1 ?_ | with_reducible refine o_set ?_ | (with_reducible refine o_new ?_ ?_; (focus (simp)); (focus (simp))) | with_reducible refine o_al _ ?_ | (with_reducible apply o_be; with_reducible assumption))); done) | ((repeat (first | with_reducible assumption | with_reducible exact Below.refl _ _ | with_reducible refine Below.drew ?_ | with_reducible refine below_drewN ?_ _ | with_reducible refine bw_alloc ?_ _ | (with_reducible refine bw_set ?_ ?_ _; focus (dsimp only; omega)) | (with_reducible apply bw_behind; with_reducible assumption))); done) | (refine hT.behind ?_; (repeat (first | with_reducible assumption | with_reducible exact Below.refl _ _ | with_reducible refine Below.drew ?_ | with_reducible refine below_drewN ?_ _ | with_reducible refine bw_alloc ?_ _ | (with_reducible refine bw_set ?_ ?_ _; focus (dsimp only; omega)) | (with_reducible apply bw_behind; with_reducible assumption))); done) | (simp [go_sem, *]; omega) | (simp (maxDischargeDepth := 4) [go_sem, *]; done))
  rintro w0 ⟨hT0, hB0, c0⟩
  have y0 := behind_cell0 c0
  have hsome := Behind.any w0
  clear c0
  refine wp_region_behind w0 (by kernel_rfl) (by kernel_rfl) (Below.refl _ _) ?_
  repeat (go_big_quiet_step (first | (go_at_call 14; with_reducible first | exact behind_call Cc7.out hT0 _) | (go_at_call 13; with_reducible first | exact behind_call Cc8.out hT0 _) | (go_at_call 12; with_reducible first | exact behind_call Cc4.out hT0 _) | (go_at_call 11; with_reducible first | exact behind_call Cc9.out hT0 _)))
  refine wpQuiet_nil ?_
  rintro _ ⟨y, rfl⟩
  have hTy := hT0.behind y.below
  have hBy := bw_behind y.below hB0
  have x0 := y0 y
  clear hsome y0
  obtain ⟨w1, hw1⟩ : ∃ W, W = y.world := ⟨_, rfl⟩
  rw [← hw1] at hTy hBy x0 ⊢
  clear hw1 y hT0 hB0
  go_wp2
  go_ret
  refine ⟨rfl, ?_⟩
  repeat (first | with_reducible assumption | with_reducible exact Below.refl _ _ | with_reducible refine Below.drew ?_ | with_reducible refine below_drewN ?_ _ | with_reducible refine bw_alloc ?_ _ | (with_reducible refine bw_set ?_ ?_ _; focus (dsimp only; omega)) | (with_reducible apply bw_behind; with_reducible assumption))

set_option maxRecDepth 100000 in
set_option maxHeartbeats 8000000 in
theorem walk_nf (K a b c m X Y e0 e1 e2 e3 e4 : Int) (T : ByteArray) (c1 : ∀ W, Tab2 W → Calls Tryd.prog 7 #[.agg #[.int .i64 K, .int .i64 a, .int .i64 b, .int .i64 c, .int .i64 m]] W (Makes (.tuple #[.int .u32 Y, .bool false]) W)) (c4 : ∀ W, Tab2 W → Calls Tryd.prog 12 #[.int .i64 K] W (Makes (.int .u8 0) W)) (c5 : ∀ W, Tab2 W → Calls Tryd.prog 9 #[.int .u32 X] W (Makes (.tuple #[.agg #[.int .i64 e0, .int .i64 e1, .int .i64 e2, .int .i64 e3, .int .i64 e4], .bool false]) W)) (c7 : ∀ W, Tab2 W → Calls Tryd.prog 14 #[.int .i64 K] W (Makes (.string T) W)) (c8 : ∀ W, Tab2 W → Calls Tryd.prog 13 #[.string T] W (Makes (.int .i64 0) W)) (c9 : ∀ W, Tab2 W → Calls Tryd.prog 11 #[] W (Makes (.bool true) W)) (w : World) (hT : Tab2 w) :
    Calls Tryd.prog 4 #[.agg #[.int .i64 K, .int .i64 a, .int .i64 b, .int .i64 c, .int .i64 m], .int .u32 X] w (Makes (.bool true) w) := by
  have Cc1 := hide c1
  have Cc4 := hide c4
  have Cc5 := hide c5
  have Cc7 := hide c7
  have Cc8 := hide c8
  have Cc9 := hide c9
  clear c1 c4 c5 c7 c8 c9
  have SS := cell_same
  have LB' := ltB_add
  have LS := ltB_self
  have LA' := alloc_reads
  have LH := alloc_holds
  go_enter Tryd.func4, Tryd.ntmps4
  go_upto_region 15 with (first | (go_at_call 7; (first | ((with_reducible refine (Cc1.out _ ?_).mono ?_); (refine hT.behind ?_; repeat (first | with_reducible assumption | with_reducible exact Below.refl _ _ | with_reducible refine Below.drew ?_ | with_reducible refine below_drewN ?_ _ | with_reducible refine bw_alloc ?_ _ | (with_reducible refine bw_set ?_ ?_ _; focus (dsimp only; omega)) | (with_reducible apply bw_behind; with_reducible assumption))))); rintro e wq0 ⟨rfl, hbq0⟩; have hrq0 := below_reads hbq0; have hhq0 := below_holds hbq0; obtain ⟨mq0, hsq0⟩ := below_grew hbq0) | (go_at_call 12; (first | ((with_reducible refine (Cc4.out _ ?_).mono ?_); (refine hT.behind ?_; repeat (first | with_reducible assumption | with_reducible exact Below.refl _ _ | with_reducible refine Below.drew ?_ | with_reducible refine below_drewN ?_ _ | with_reducible refine bw_alloc ?_ _ | (with_reducible refine bw_set ?_ ?_ _; focus (dsimp only; omega)) | (with_reducible apply bw_behind; with_reducible assumption))))); rintro e wq1 ⟨rfl, hbq1⟩; have hrq1 := below_reads hbq1; have hhq1 := below_holds hbq1; obtain ⟨mq1, hsq1⟩ := below_grew hbq1) | (go_at_call 9; (first | ((with_reducible refine (Cc5.out _ ?_).mono ?_); (refine hT.behind ?_; repeat (first | with_reducible assumption | with_reducible exact Below.refl _ _ | with_reducible refine Below.drew ?_ | with_reducible refine below_drewN ?_ _ | with_reducible refine bw_alloc ?_ _ | (with_reducible refine bw_set ?_ ?_ _; focus (dsimp only; omega)) | (with_reducible apply bw_behind; with_reducible assumption))))); rintro e wq2 ⟨rfl, hbq2⟩; have hrq2 := below_reads hbq2; have hhq2 := below_holds hbq2; obtain ⟨mq2, hsq2⟩ := below_grew hbq2) | (go_at_call 14; (first | ((with_reducible refine (Cc7.out _ ?_).mono ?_); (refine hT.behind ?_; repeat (first | with_reducible assumption | with_reducible exact Below.refl _ _ | with_reducible refine Below.drew ?_ | with_reducible refine below_drewN ?_ _ | with_reducible refine bw_alloc ?_ _ | (with_reducible refine bw_set ?_ ?_ _; focus (dsimp only; omega)) | (with_reducible apply bw_behind; with_reducible assumption))))); rintro e wq3 ⟨rfl, hbq3⟩; have hrq3 := below_reads hbq3; have hhq3 := below_holds hbq3; obtain ⟨mq3, hsq3⟩ := below_grew hbq3) | (go_at_call 13; (first | ((with_reducible refine (Cc8.out _ ?_).mono ?_); (refine hT.behind ?_; repeat (first | with_reducible assumption | with_reducible exact Below.refl _ _ | with_reducible refine Below.drew ?_ | with_reducible refine below_drewN ?_ _ | with_reducible refine bw_alloc ?_ _ | (with_reducible refine bw_set ?_ ?_ _; focus (dsimp only; omega)) | (with_reducible apply bw_behind; with_reducible assumption))))); rintro e wq4 ⟨rfl, hbq4⟩; have hrq4 := below_reads hbq4; have hhq4 := below_holds hbq4; obtain ⟨mq4, hsq4⟩ := below_grew hbq4) | (go_at_call 11; (first | ((with_reducible refine (Cc9.out _ ?_).mono ?_); (refine hT.behind ?_; repeat (first | with_reducible assumption | with_reducible exact Below.refl _ _ | with_reducible refine Below.drew ?_ | with_reducible refine below_drewN ?_ _ | with_reducible refine bw_alloc ?_ _ | (with_reducible refine bw_set ?_ ?_ _; focus (dsimp only; omega)) | (with_reducible apply bw_behind; with_reducible assumption))))); rintro e wq5 ⟨rfl, hbq5⟩; have hrq5 := below_reads hbq5; have hhq5 := below_holds hbq5; obtain ⟨mq5, hsq5⟩ := below_grew hbq5))

  refine wp_abs (fun W => Tab2 W ∧ Below w.heap.size w W ∧ W.cell? ⟨w.heap.size, 0, none⟩ = some (.int .i64 K)) ?_ ?_
  · refine ⟨?_, ?_, ?_⟩
    all_goals (first | with_reducible assumption | ((repeat (first | with_reducible assumption | with_reducible refine c_dr _ ?_ | with_reducible refine c_d1 ?_ | with_reducible refine c_al _ ?_ | (with_reducible refine c_set ?_ ?_; focus (dsimp only; omega)) | (with_reducible apply c_be; with_reducible assumption))); done) | ((repeat (first | with_reducible assumption | with_reducible refine o_dr _ ?_ | with_reducible refine o_d1 ?_ | with_reducible refine o_set ?_ | (with_reducible refine o_new ?_ ?_; (focus (simp)); (focus (simp))) | with_reducible refine o_al _ ?_ | (with_reducible apply o_be; with_reducible assumption))); done) | ((repeat (first | with_reducible assumption | with_reducible exact Below.refl _ _ | with_reducible refine Below.drew ?_ | with_reducible refine below_drewN ?_ _ | with_reducible refine bw_alloc ?_ _ | (with_reducible refine bw_set ?_ ?_ _; focus (dsimp only; omega)) | (with_reducible apply bw_behind; with_reducible assumption))); done) | (refine hT.behind ?_; (repeat (first | with_reducible assumption | with_reducible exact Below.refl _ _ | with_reducible refine Below.drew ?_ | with_reducible refine below_drewN ?_ _ | with_reducible refine bw_alloc ?_ _ | (with_reducible refine bw_set ?_ ?_ _; focus (dsimp only; omega)) | (with_reducible apply bw_behind; with_reducible assumption))); done) | (simp [go_sem, *]; omega) | (simp (maxDischargeDepth := 4) [go_sem, *]; done))
  rintro w0 ⟨hT0, hB0, c0⟩
  have y0 := behind_cell0 c0
  have hsome := Behind.any w0
  clear c0
  refine wp_region_behind w0 (by kernel_rfl) (by kernel_rfl) (Below.refl _ _) ?_
  repeat (go_big_quiet_step (first | (go_at_call 14; with_reducible first | exact behind_call Cc7.out hT0 _) | (go_at_call 13; with_reducible first | exact behind_call Cc8.out hT0 _) | (go_at_call 12; with_reducible first | exact behind_call Cc4.out hT0 _) | (go_at_call 11; with_reducible first | exact behind_call Cc9.out hT0 _)))
  refine wpQuiet_nil ?_
  rintro _ ⟨y, rfl⟩
  have hTy := hT0.behind y.below
  have hBy := bw_behind y.below hB0
  have x0 := y0 y
  clear hsome y0
  obtain ⟨w1, hw1⟩ : ∃ W, W = y.world := ⟨_, rfl⟩
  rw [← hw1] at hTy hBy x0 ⊢
  clear hw1 y hT0 hB0
  go_wp2
  go_ret
  refine ⟨rfl, ?_⟩
  repeat (first | with_reducible assumption | with_reducible exact Below.refl _ _ | with_reducible refine Below.drew ?_ | with_reducible refine below_drewN ?_ _ | with_reducible refine bw_alloc ?_ _ | (with_reducible refine bw_set ?_ ?_ _; focus (dsimp only; omega)) | (with_reducible apply bw_behind; with_reducible assumption))

set_option maxRecDepth 100000 in
set_option maxHeartbeats 8000000 in
theorem walk_yt (K a b c m X Y S e0 e1 e2 e3 e4 : Int) (T : ByteArray) (c1 : ∀ W, Tab2 W → Calls Tryd.prog 7 #[.agg #[.int .i64 K, .int .i64 a, .int .i64 b, .int .i64 c, .int .i64 m]] W (Makes (.tuple #[.int .u32 Y, .bool false]) W)) (c4 : ∀ W, Tab2 W → Calls Tryd.prog 12 #[.int .i64 K] W (Makes (.int .u8 S) W)) (c5 : ∀ W, Tab2 W → Calls Tryd.prog 9 #[.int .u32 X] W (Makes (.tuple #[.agg #[.int .i64 e0, .int .i64 e1, .int .i64 e2, .int .i64 e3, .int .i64 e4], .bool true]) W)) (c6 : ∀ W, Tab2 W → Calls Tryd.prog 7 #[.agg #[.int .i64 e0, .int .i64 e1, .int .i64 e2, .int .i64 e3, .int .i64 e4]] W (Makes (.tuple #[.int .u32 X, .bool true]) W)) (c7 : ∀ W, Tab2 W → Calls Tryd.prog 14 #[.int .i64 K] W (Makes (.string T) W)) (c8 : ∀ W, Tab2 W → Calls Tryd.prog 13 #[.string T] W (Makes (.int .i64 K) W)) (c9 : ∀ W, Tab2 W → Calls Tryd.prog 11 #[] W (Makes (.bool true) W)) (hk : (K == 0) = false) (hs : (S == 0) = false) (w : World) (hT : Tab2 w) :
    Calls Tryd.prog 4 #[.agg #[.int .i64 K, .int .i64 a, .int .i64 b, .int .i64 c, .int .i64 m], .int .u32 X] w (Makes (.bool true) w) := by
  have Cc1 := hide c1
  have Cc4 := hide c4
  have Cc5 := hide c5
  have Cc6 := hide c6
  have Cc7 := hide c7
  have Cc8 := hide c8
  have Cc9 := hide c9
  clear c1 c4 c5 c6 c7 c8 c9
  have SS := cell_same
  have LB' := ltB_add
  have LS := ltB_self
  have LA' := alloc_reads
  have LH := alloc_holds
  go_enter Tryd.func4, Tryd.ntmps4
  go_upto_region 15 with (first | (go_at_call 7; (first | ((with_reducible refine (Cc1.out _ ?_).mono ?_); (refine hT.behind ?_; repeat (first | with_reducible assumption | with_reducible exact Below.refl _ _ | with_reducible refine Below.drew ?_ | with_reducible refine below_drewN ?_ _ | with_reducible refine bw_alloc ?_ _ | (with_reducible refine bw_set ?_ ?_ _; focus (dsimp only; omega)) | (with_reducible apply bw_behind; with_reducible assumption)))) | ((with_reducible refine (Cc6.out _ ?_).mono ?_); (refine hT.behind ?_; repeat (first | with_reducible assumption | with_reducible exact Below.refl _ _ | with_reducible refine Below.drew ?_ | with_reducible refine below_drewN ?_ _ | with_reducible refine bw_alloc ?_ _ | (with_reducible refine bw_set ?_ ?_ _; focus (dsimp only; omega)) | (with_reducible apply bw_behind; with_reducible assumption))))); rintro e wq0 ⟨rfl, hbq0⟩; have hrq0 := below_reads hbq0; have hhq0 := below_holds hbq0; obtain ⟨mq0, hsq0⟩ := below_grew hbq0) | (go_at_call 12; (first | ((with_reducible refine (Cc4.out _ ?_).mono ?_); (refine hT.behind ?_; repeat (first | with_reducible assumption | with_reducible exact Below.refl _ _ | with_reducible refine Below.drew ?_ | with_reducible refine below_drewN ?_ _ | with_reducible refine bw_alloc ?_ _ | (with_reducible refine bw_set ?_ ?_ _; focus (dsimp only; omega)) | (with_reducible apply bw_behind; with_reducible assumption))))); rintro e wq1 ⟨rfl, hbq1⟩; have hrq1 := below_reads hbq1; have hhq1 := below_holds hbq1; obtain ⟨mq1, hsq1⟩ := below_grew hbq1) | (go_at_call 9; (first | ((with_reducible refine (Cc5.out _ ?_).mono ?_); (refine hT.behind ?_; repeat (first | with_reducible assumption | with_reducible exact Below.refl _ _ | with_reducible refine Below.drew ?_ | with_reducible refine below_drewN ?_ _ | with_reducible refine bw_alloc ?_ _ | (with_reducible refine bw_set ?_ ?_ _; focus (dsimp only; omega)) | (with_reducible apply bw_behind; with_reducible assumption))))); rintro e wq2 ⟨rfl, hbq2⟩; have hrq2 := below_reads hbq2; have hhq2 := below_holds hbq2; obtain ⟨mq2, hsq2⟩ := below_grew hbq2) | (go_at_call 14; (first | ((with_reducible refine (Cc7.out _ ?_).mono ?_); (refine hT.behind ?_; repeat (first | with_reducible assumption | with_reducible exact Below.refl _ _ | with_reducible refine Below.drew ?_ | with_reducible refine below_drewN ?_ _ | with_reducible refine bw_alloc ?_ _ | (with_reducible refine bw_set ?_ ?_ _; focus (dsimp only; omega)) | (with_reducible apply bw_behind; with_reducible assumption))))); rintro e wq3 ⟨rfl, hbq3⟩; have hrq3 := below_reads hbq3; have hhq3 := below_holds hbq3; obtain ⟨mq3, hsq3⟩ := below_grew hbq3) | (go_at_call 13; (first | ((with_reducible refine (Cc8.out _ ?_).mono ?_); (refine hT.behind ?_; repeat (first | with_reducible assumption | with_reducible exact Below.refl _ _ | with_reducible refine Below.drew ?_ | with_reducible refine below_drewN ?_ _ | with_reducible refine bw_alloc ?_ _ | (with_reducible refine bw_set ?_ ?_ _; focus (dsimp only; omega)) | (with_reducible apply bw_behind; with_reducible assumption))))); rintro e wq4 ⟨rfl, hbq4⟩; have hrq4 := below_reads hbq4; have hhq4 := below_holds hbq4; obtain ⟨mq4, hsq4⟩ := below_grew hbq4) | (go_at_call 11; (first | ((with_reducible refine (Cc9.out _ ?_).mono ?_); (refine hT.behind ?_; repeat (first | with_reducible assumption | with_reducible exact Below.refl _ _ | with_reducible refine Below.drew ?_ | with_reducible refine below_drewN ?_ _ | with_reducible refine bw_alloc ?_ _ | (with_reducible refine bw_set ?_ ?_ _; focus (dsimp only; omega)) | (with_reducible apply bw_behind; with_reducible assumption))))); rintro e wq5 ⟨rfl, hbq5⟩; have hrq5 := below_reads hbq5; have hhq5 := below_holds hbq5; obtain ⟨mq5, hsq5⟩ := below_grew hbq5))

  refine wp_abs (fun W => Tab2 W ∧ Below w.heap.size w W ∧ W.cell? ⟨w.heap.size, 0, none⟩ = some (.int .i64 K)) ?_ ?_
  · refine ⟨?_, ?_, ?_⟩
    all_goals (first | with_reducible assumption | ((repeat (first | with_reducible assumption | with_reducible refine c_dr _ ?_ | with_reducible refine c_d1 ?_ | with_reducible refine c_al _ ?_ | (with_reducible refine c_set ?_ ?_; focus (dsimp only; omega)) | (with_reducible apply c_be; with_reducible assumption))); done) | ((repeat (first | with_reducible assumption | with_reducible refine o_dr _ ?_ | with_reducible refine o_d1 ?_ | with_reducible refine o_set ?_ | (with_reducible refine o_new ?_ ?_; (focus (simp)); (focus (simp))) | with_reducible refine o_al _ ?_ | (with_reducible apply o_be; with_reducible assumption))); done) | ((repeat (first | with_reducible assumption | with_reducible exact Below.refl _ _ | with_reducible refine Below.drew ?_ | with_reducible refine below_drewN ?_ _ | with_reducible refine bw_alloc ?_ _ | (with_reducible refine bw_set ?_ ?_ _; focus (dsimp only; omega)) | (with_reducible apply bw_behind; with_reducible assumption))); done) | (refine hT.behind ?_; (repeat (first | with_reducible assumption | with_reducible exact Below.refl _ _ | with_reducible refine Below.drew ?_ | with_reducible refine below_drewN ?_ _ | with_reducible refine bw_alloc ?_ _ | (with_reducible refine bw_set ?_ ?_ _; focus (dsimp only; omega)) | (with_reducible apply bw_behind; with_reducible assumption))); done) | (simp [go_sem, *]; omega) | (simp (maxDischargeDepth := 4) [go_sem, *]; done))
  rintro w0 ⟨hT0, hB0, c0⟩
  have y0 := behind_cell0 c0
  have hsome := Behind.any w0
  clear c0
  refine wp_region_behind w0 (by kernel_rfl) (by kernel_rfl) (Below.refl _ _) ?_
  repeat (go_big_quiet_step (first | (go_at_call 14; with_reducible first | exact behind_call Cc7.out hT0 _) | (go_at_call 13; with_reducible first | exact behind_call Cc8.out hT0 _) | (go_at_call 12; with_reducible first | exact behind_call Cc4.out hT0 _) | (go_at_call 11; with_reducible first | exact behind_call Cc9.out hT0 _)))
  refine wpQuiet_nil ?_
  rintro _ ⟨y, rfl⟩
  have hTy := hT0.behind y.below
  have hBy := bw_behind y.below hB0
  have x0 := y0 y
  clear hsome y0
  obtain ⟨w1, hw1⟩ : ∃ W, W = y.world := ⟨_, rfl⟩
  rw [← hw1] at hTy hBy x0 ⊢
  clear hw1 y hT0 hB0
  go_wp2
  go_ret
  refine ⟨rfl, ?_⟩
  repeat (first | with_reducible assumption | with_reducible exact Below.refl _ _ | with_reducible refine Below.drew ?_ | with_reducible refine below_drewN ?_ _ | with_reducible refine bw_alloc ?_ _ | (with_reducible refine bw_set ?_ ?_ _; focus (dsimp only; omega)) | (with_reducible apply bw_behind; with_reducible assumption))

set_option maxRecDepth 100000 in
set_option maxHeartbeats 8000000 in
theorem walk_yf (K a b c m X Y S e0 e1 e2 e3 e4 : Int) (T : ByteArray) (c1 : ∀ W, Tab2 W → Calls Tryd.prog 7 #[.agg #[.int .i64 K, .int .i64 a, .int .i64 b, .int .i64 c, .int .i64 m]] W (Makes (.tuple #[.int .u32 Y, .bool false]) W)) (c4 : ∀ W, Tab2 W → Calls Tryd.prog 12 #[.int .i64 K] W (Makes (.int .u8 S) W)) (c5 : ∀ W, Tab2 W → Calls Tryd.prog 9 #[.int .u32 X] W (Makes (.tuple #[.agg #[.int .i64 e0, .int .i64 e1, .int .i64 e2, .int .i64 e3, .int .i64 e4], .bool false]) W)) (c7 : ∀ W, Tab2 W → Calls Tryd.prog 14 #[.int .i64 K] W (Makes (.string T) W)) (c8 : ∀ W, Tab2 W → Calls Tryd.prog 13 #[.string T] W (Makes (.int .i64 K) W)) (c9 : ∀ W, Tab2 W → Calls Tryd.prog 11 #[] W (Makes (.bool true) W)) (hk : (K == 0) = false) (hs : (S == 0) = false) (w : World) (hT : Tab2 w) :
    Calls Tryd.prog 4 #[.agg #[.int .i64 K, .int .i64 a, .int .i64 b, .int .i64 c, .int .i64 m], .int .u32 X] w (Makes (.bool true) w) := by
  have Cc1 := hide c1
  have Cc4 := hide c4
  have Cc5 := hide c5
  have Cc7 := hide c7
  have Cc8 := hide c8
  have Cc9 := hide c9
  clear c1 c4 c5 c7 c8 c9
  have SS := cell_same
  have LB' := ltB_add
  have LS := ltB_self
  have LA' := alloc_reads
  have LH := alloc_holds
  go_enter Tryd.func4, Tryd.ntmps4
  go_upto_region 15 with (first | (go_at_call 7; (first | ((with_reducible refine (Cc1.out _ ?_).mono ?_); (refine hT.behind ?_; repeat (first | with_reducible assumption | with_reducible exact Below.refl _ _ | with_reducible refine Below.drew ?_ | with_reducible refine below_drewN ?_ _ | with_reducible refine bw_alloc ?_ _ | (with_reducible refine bw_set ?_ ?_ _; focus (dsimp only; omega)) | (with_reducible apply bw_behind; with_reducible assumption))))); rintro e wq0 ⟨rfl, hbq0⟩; have hrq0 := below_reads hbq0; have hhq0 := below_holds hbq0; obtain ⟨mq0, hsq0⟩ := below_grew hbq0) | (go_at_call 12; (first | ((with_reducible refine (Cc4.out _ ?_).mono ?_); (refine hT.behind ?_; repeat (first | with_reducible assumption | with_reducible exact Below.refl _ _ | with_reducible refine Below.drew ?_ | with_reducible refine below_drewN ?_ _ | with_reducible refine bw_alloc ?_ _ | (with_reducible refine bw_set ?_ ?_ _; focus (dsimp only; omega)) | (with_reducible apply bw_behind; with_reducible assumption))))); rintro e wq1 ⟨rfl, hbq1⟩; have hrq1 := below_reads hbq1; have hhq1 := below_holds hbq1; obtain ⟨mq1, hsq1⟩ := below_grew hbq1) | (go_at_call 9; (first | ((with_reducible refine (Cc5.out _ ?_).mono ?_); (refine hT.behind ?_; repeat (first | with_reducible assumption | with_reducible exact Below.refl _ _ | with_reducible refine Below.drew ?_ | with_reducible refine below_drewN ?_ _ | with_reducible refine bw_alloc ?_ _ | (with_reducible refine bw_set ?_ ?_ _; focus (dsimp only; omega)) | (with_reducible apply bw_behind; with_reducible assumption))))); rintro e wq2 ⟨rfl, hbq2⟩; have hrq2 := below_reads hbq2; have hhq2 := below_holds hbq2; obtain ⟨mq2, hsq2⟩ := below_grew hbq2) | (go_at_call 14; (first | ((with_reducible refine (Cc7.out _ ?_).mono ?_); (refine hT.behind ?_; repeat (first | with_reducible assumption | with_reducible exact Below.refl _ _ | with_reducible refine Below.drew ?_ | with_reducible refine below_drewN ?_ _ | with_reducible refine bw_alloc ?_ _ | (with_reducible refine bw_set ?_ ?_ _; focus (dsimp only; omega)) | (with_reducible apply bw_behind; with_reducible assumption))))); rintro e wq3 ⟨rfl, hbq3⟩; have hrq3 := below_reads hbq3; have hhq3 := below_holds hbq3; obtain ⟨mq3, hsq3⟩ := below_grew hbq3) | (go_at_call 13; (first | ((with_reducible refine (Cc8.out _ ?_).mono ?_); (refine hT.behind ?_; repeat (first | with_reducible assumption | with_reducible exact Below.refl _ _ | with_reducible refine Below.drew ?_ | with_reducible refine below_drewN ?_ _ | with_reducible refine bw_alloc ?_ _ | (with_reducible refine bw_set ?_ ?_ _; focus (dsimp only; omega)) | (with_reducible apply bw_behind; with_reducible assumption))))); rintro e wq4 ⟨rfl, hbq4⟩; have hrq4 := below_reads hbq4; have hhq4 := below_holds hbq4; obtain ⟨mq4, hsq4⟩ := below_grew hbq4) | (go_at_call 11; (first | ((with_reducible refine (Cc9.out _ ?_).mono ?_); (refine hT.behind ?_; repeat (first | with_reducible assumption | with_reducible exact Below.refl _ _ | with_reducible refine Below.drew ?_ | with_reducible refine below_drewN ?_ _ | with_reducible refine bw_alloc ?_ _ | (with_reducible refine bw_set ?_ ?_ _; focus (dsimp only; omega)) | (with_reducible apply bw_behind; with_reducible assumption))))); rintro e wq5 ⟨rfl, hbq5⟩; have hrq5 := below_reads hbq5; have hhq5 := below_holds hbq5; obtain ⟨mq5, hsq5⟩ := below_grew hbq5))

  refine wp_abs (fun W => Tab2 W ∧ Below w.heap.size w W ∧ W.cell? ⟨w.heap.size, 0, none⟩ = some (.int .i64 K)) ?_ ?_
  · refine ⟨?_, ?_, ?_⟩
    all_goals (first | with_reducible assumption | ((repeat (first | with_reducible assumption | with_reducible refine c_dr _ ?_ | with_reducible refine c_d1 ?_ | with_reducible refine c_al _ ?_ | (with_reducible refine c_set ?_ ?_; focus (dsimp only; omega)) | (with_reducible apply c_be; with_reducible assumption))); done) | ((repeat (first | with_reducible assumption | with_reducible refine o_dr _ ?_ | with_reducible refine o_d1 ?_ | with_reducible refine o_set ?_ | (with_reducible refine o_new ?_ ?_; (focus (simp)); (focus (simp))) | with_reducible refine o_al _ ?_ | (with_reducible apply o_be; with_reducible assumption))); done) | ((repeat (first | with_reducible assumption | with_reducible exact Below.refl _ _ | with_reducible refine Below.drew ?_ | with_reducible refine below_drewN ?_ _ | with_reducible refine bw_alloc ?_ _ | (with_reducible refine bw_set ?_ ?_ _; focus (dsimp only; omega)) | (with_reducible apply bw_behind; with_reducible assumption))); done) | (refine hT.behind ?_; (repeat (first | with_reducible assumption | with_reducible exact Below.refl _ _ | with_reducible refine Below.drew ?_ | with_reducible refine below_drewN ?_ _ | with_reducible refine bw_alloc ?_ _ | (with_reducible refine bw_set ?_ ?_ _; focus (dsimp only; omega)) | (with_reducible apply bw_behind; with_reducible assumption))); done) | (simp [go_sem, *]; omega) | (simp (maxDischargeDepth := 4) [go_sem, *]; done))
  rintro w0 ⟨hT0, hB0, c0⟩
  have y0 := behind_cell0 c0
  have hsome := Behind.any w0
  clear c0
  refine wp_region_behind w0 (by kernel_rfl) (by kernel_rfl) (Below.refl _ _) ?_
  repeat (go_big_quiet_step (first | (go_at_call 14; with_reducible first | exact behind_call Cc7.out hT0 _) | (go_at_call 13; with_reducible first | exact behind_call Cc8.out hT0 _) | (go_at_call 12; with_reducible first | exact behind_call Cc4.out hT0 _) | (go_at_call 11; with_reducible first | exact behind_call Cc9.out hT0 _)))
  refine wpQuiet_nil ?_
  rintro _ ⟨y, rfl⟩
  have hTy := hT0.behind y.below
  have hBy := bw_behind y.below hB0
  have x0 := y0 y
  clear hsome y0
  obtain ⟨w1, hw1⟩ : ∃ W, W = y.world := ⟨_, rfl⟩
  rw [← hw1] at hTy hBy x0 ⊢
  clear hw1 y hT0 hB0
  go_wp2
  go_ret
  refine ⟨rfl, ?_⟩
  repeat (first | with_reducible assumption | with_reducible exact Below.refl _ _ | with_reducible refine Below.drew ?_ | with_reducible refine below_drewN ?_ _ | with_reducible refine bw_alloc ?_ _ | (with_reducible refine bw_set ?_ ?_ _; focus (dsimp only; omega)) | (with_reducible apply bw_behind; with_reducible assumption))

set_option maxRecDepth 100000 in
set_option maxHeartbeats 8000000 in
theorem walk_Rt (K a b c m X Y e0 e1 e2 e3 e4 : Int) (T : ByteArray) (c1 : ∀ W, Tab2 W → Calls Tryd.prog 7 #[.agg #[.int .i64 K, .int .i64 a, .int .i64 b, .int .i64 c, .int .i64 m]] W (Makes (.tuple #[.int .u32 Y, .bool true]) W)) (c2 : ∀ W, Tab2 W → Calls Tryd.prog 9 #[.int .u32 Y] W (Makes (.tuple #[.agg #[.int .i64 K, .int .i64 a, .int .i64 b, .int .i64 c, .int .i64 0], .bool true]) W)) (c3 : ∀ W, Tab2 W → Calls Tryd.prog 7 #[.agg #[.int .i64 K, .int .i64 a, .int .i64 b, .int .i64 c, .int .i64 0]] W (Makes (.tuple #[.int .u32 Y, .bool true]) W)) (c4 : ∀ W, Tab2 W → Calls Tryd.prog 12 #[.int .i64 K] W (Makes (.int .u8 82) W)) (c5 : ∀ W, Tab2 W → Calls Tryd.prog 9 #[.int .u32 X] W (Makes (.tuple #[.agg #[.int .i64 e0, .int .i64 e1, .int .i64 e2, .int .i64 e3, .int .i64 e4], .bool true]) W)) (c6 : ∀ W, Tab2 W → Calls Tryd.prog 7 #[.agg #[.int .i64 e0, .int .i64 e1, .int .i64 e2, .int .i64 e3, .int .i64 e4]] W (Makes (.tuple #[.int .u32 X, .bool true]) W)) (c7 : ∀ W, Tab2 W → Calls Tryd.prog 14 #[.int .i64 K] W (Makes (.string T) W)) (c8 : ∀ W, Tab2 W → Calls Tryd.prog 13 #[.string T] W (Makes (.int .i64 K) W)) (c9 : ∀ W, Tab2 W → Calls Tryd.prog 11 #[] W (Makes (.bool true) W)) (hk : (K == 0) = false) (w : World) (hT : Tab2 w) :
    Calls Tryd.prog 4 #[.agg #[.int .i64 K, .int .i64 a, .int .i64 b, .int .i64 c, .int .i64 m], .int .u32 X] w (Makes (.bool true) w) := by
  have Cc1 := hide c1
  have Cc2 := hide c2
  have Cc3 := hide c3
  have Cc4 := hide c4
  have Cc5 := hide c5
  have Cc6 := hide c6
  have Cc7 := hide c7
  have Cc8 := hide c8
  have Cc9 := hide c9
  clear c1 c2 c3 c4 c5 c6 c7 c8 c9
  have E0 := ne_i K a b c 0 K a b c 0
  rw [show (!same5 K a b c 0 K a b c 0) = false by simp [same5]] at E0
  have SS := cell_same
  have LB' := ltB_add
  have LS := ltB_self
  have LA' := alloc_reads
  have LH := alloc_holds
  go_enter Tryd.func4, Tryd.ntmps4
  go_upto_region 15 with (first | (go_at_call 7; (first | ((with_reducible refine (Cc1.out _ ?_).mono ?_); (refine hT.behind ?_; repeat (first | with_reducible assumption | with_reducible exact Below.refl _ _ | with_reducible refine Below.drew ?_ | with_reducible refine below_drewN ?_ _ | with_reducible refine bw_alloc ?_ _ | (with_reducible refine bw_set ?_ ?_ _; focus (dsimp only; omega)) | (with_reducible apply bw_behind; with_reducible assumption)))) | ((with_reducible refine (Cc3.out _ ?_).mono ?_); (refine hT.behind ?_; repeat (first | with_reducible assumption | with_reducible exact Below.refl _ _ | with_reducible refine Below.drew ?_ | with_reducible refine below_drewN ?_ _ | with_reducible refine bw_alloc ?_ _ | (with_reducible refine bw_set ?_ ?_ _; focus (dsimp only; omega)) | (with_reducible apply bw_behind; with_reducible assumption)))) | ((with_reducible refine (Cc6.out _ ?_).mono ?_); (refine hT.behind ?_; repeat (first | with_reducible assumption | with_reducible exact Below.refl _ _ | with_reducible refine Below.drew ?_ | with_reducible refine below_drewN ?_ _ | with_reducible refine bw_alloc ?_ _ | (with_reducible refine bw_set ?_ ?_ _; focus (dsimp only; omega)) | (with_reducible apply bw_behind; with_reducible assumption))))); rintro e wq0 ⟨rfl, hbq0⟩; have hrq0 := below_reads hbq0; have hhq0 := below_holds hbq0; obtain ⟨mq0, hsq0⟩ := below_grew hbq0) | (go_at_call 9; (first | ((with_reducible refine (Cc2.out _ ?_).mono ?_); (refine hT.behind ?_; repeat (first | with_reducible assumption | with_reducible exact Below.refl _ _ | with_reducible refine Below.drew ?_ | with_reducible refine below_drewN ?_ _ | with_reducible refine bw_alloc ?_ _ | (with_reducible refine bw_set ?_ ?_ _; focus (dsimp only; omega)) | (with_reducible apply bw_behind; with_reducible assumption)))) | ((with_reducible refine (Cc5.out _ ?_).mono ?_); (refine hT.behind ?_; repeat (first | with_reducible assumption | with_reducible exact Below.refl _ _ | with_reducible refine Below.drew ?_ | with_reducible refine below_drewN ?_ _ | with_reducible refine bw_alloc ?_ _ | (with_reducible refine bw_set ?_ ?_ _; focus (dsimp only; omega)) | (with_reducible apply bw_behind; with_reducible assumption))))); rintro e wq1 ⟨rfl, hbq1⟩; have hrq1 := below_reads hbq1; have hhq1 := below_holds hbq1; obtain ⟨mq1, hsq1⟩ := below_grew hbq1) | (go_at_call 12; (first | ((with_reducible refine (Cc4.out _ ?_).mono ?_); (refine hT.behind ?_; repeat (first | with_reducible assumption | with_reducible exact Below.refl _ _ | with_reducible refine Below.drew ?_ | with_reducible refine below_drewN ?_ _ | with_reducible refine bw_alloc ?_ _ | (with_reducible refine bw_set ?_ ?_ _; focus (dsimp only; omega)) | (with_reducible apply bw_behind; with_reducible assumption))))); rintro e wq2 ⟨rfl, hbq2⟩; have hrq2 := below_reads hbq2; have hhq2 := below_holds hbq2; obtain ⟨mq2, hsq2⟩ := below_grew hbq2) | (go_at_call 14; (first | ((with_reducible refine (Cc7.out _ ?_).mono ?_); (refine hT.behind ?_; repeat (first | with_reducible assumption | with_reducible exact Below.refl _ _ | with_reducible refine Below.drew ?_ | with_reducible refine below_drewN ?_ _ | with_reducible refine bw_alloc ?_ _ | (with_reducible refine bw_set ?_ ?_ _; focus (dsimp only; omega)) | (with_reducible apply bw_behind; with_reducible assumption))))); rintro e wq3 ⟨rfl, hbq3⟩; have hrq3 := below_reads hbq3; have hhq3 := below_holds hbq3; obtain ⟨mq3, hsq3⟩ := below_grew hbq3) | (go_at_call 13; (first | ((with_reducible refine (Cc8.out _ ?_).mono ?_); (refine hT.behind ?_; repeat (first | with_reducible assumption | with_reducible exact Below.refl _ _ | with_reducible refine Below.drew ?_ | with_reducible refine below_drewN ?_ _ | with_reducible refine bw_alloc ?_ _ | (with_reducible refine bw_set ?_ ?_ _; focus (dsimp only; omega)) | (with_reducible apply bw_behind; with_reducible assumption))))); rintro e wq4 ⟨rfl, hbq4⟩; have hrq4 := below_reads hbq4; have hhq4 := below_holds hbq4; obtain ⟨mq4, hsq4⟩ := below_grew hbq4) | (go_at_call 11; (first | ((with_reducible refine (Cc9.out _ ?_).mono ?_); (refine hT.behind ?_; repeat (first | with_reducible assumption | with_reducible exact Below.refl _ _ | with_reducible refine Below.drew ?_ | with_reducible refine below_drewN ?_ _ | with_reducible refine bw_alloc ?_ _ | (with_reducible refine bw_set ?_ ?_ _; focus (dsimp only; omega)) | (with_reducible apply bw_behind; with_reducible assumption))))); rintro e wq5 ⟨rfl, hbq5⟩; have hrq5 := below_reads hbq5; have hhq5 := below_holds hbq5; obtain ⟨mq5, hsq5⟩ := below_grew hbq5))

  refine wp_abs (fun W => Tab2 W ∧ Below w.heap.size w W ∧ W.cell? ⟨w.heap.size, 0, none⟩ = some (.int .i64 K)) ?_ ?_
  · refine ⟨?_, ?_, ?_⟩
    all_goals (first | with_reducible assumption | ((repeat (first | with_reducible assumption | with_reducible refine c_dr _ ?_ | with_reducible refine c_d1 ?_ | with_reducible refine c_al _ ?_ | (with_reducible refine c_set ?_ ?_; focus (dsimp only; omega)) | (with_reducible apply c_be; with_reducible assumption))); done) | ((repeat (first | with_reducible assumption | with_reducible refine o_dr _ ?_ | with_reducible refine o_d1 ?_ | with_reducible refine o_set ?_ | (with_reducible refine o_new ?_ ?_; (focus (simp)); (focus (simp))) | with_reducible refine o_al _ ?_ | (with_reducible apply o_be; with_reducible assumption))); done) | ((repeat (first | with_reducible assumption | with_reducible exact Below.refl _ _ | with_reducible refine Below.drew ?_ | with_reducible refine below_drewN ?_ _ | with_reducible refine bw_alloc ?_ _ | (with_reducible refine bw_set ?_ ?_ _; focus (dsimp only; omega)) | (with_reducible apply bw_behind; with_reducible assumption))); done) | (refine hT.behind ?_; (repeat (first | with_reducible assumption | with_reducible exact Below.refl _ _ | with_reducible refine Below.drew ?_ | with_reducible refine below_drewN ?_ _ | with_reducible refine bw_alloc ?_ _ | (with_reducible refine bw_set ?_ ?_ _; focus (dsimp only; omega)) | (with_reducible apply bw_behind; with_reducible assumption))); done) | (simp [go_sem, *]; omega) | (simp (maxDischargeDepth := 4) [go_sem, *]; done))
  rintro w0 ⟨hT0, hB0, c0⟩
  have y0 := behind_cell0 c0
  have hsome := Behind.any w0
  clear c0
  refine wp_region_behind w0 (by kernel_rfl) (by kernel_rfl) (Below.refl _ _) ?_
  repeat (go_big_quiet_step (first | (go_at_call 14; with_reducible first | exact behind_call Cc7.out hT0 _) | (go_at_call 13; with_reducible first | exact behind_call Cc8.out hT0 _) | (go_at_call 12; with_reducible first | exact behind_call Cc4.out hT0 _) | (go_at_call 11; with_reducible first | exact behind_call Cc9.out hT0 _)))
  refine wpQuiet_nil ?_
  rintro _ ⟨y, rfl⟩
  have hTy := hT0.behind y.below
  have hBy := bw_behind y.below hB0
  have x0 := y0 y
  clear hsome y0
  obtain ⟨w1, hw1⟩ : ∃ W, W = y.world := ⟨_, rfl⟩
  rw [← hw1] at hTy hBy x0 ⊢
  clear hw1 y hT0 hB0
  go_wp2
  go_ret
  refine ⟨rfl, ?_⟩
  repeat (first | with_reducible assumption | with_reducible exact Below.refl _ _ | with_reducible refine Below.drew ?_ | with_reducible refine below_drewN ?_ _ | with_reducible refine bw_alloc ?_ _ | (with_reducible refine bw_set ?_ ?_ _; focus (dsimp only; omega)) | (with_reducible apply bw_behind; with_reducible assumption))

set_option maxRecDepth 100000 in
set_option maxHeartbeats 8000000 in
theorem walk_Rf (K a b c m X Y e0 e1 e2 e3 e4 : Int) (T : ByteArray) (c1 : ∀ W, Tab2 W → Calls Tryd.prog 7 #[.agg #[.int .i64 K, .int .i64 a, .int .i64 b, .int .i64 c, .int .i64 m]] W (Makes (.tuple #[.int .u32 Y, .bool true]) W)) (c2 : ∀ W, Tab2 W → Calls Tryd.prog 9 #[.int .u32 Y] W (Makes (.tuple #[.agg #[.int .i64 K, .int .i64 a, .int .i64 b, .int .i64 c, .int .i64 0], .bool true]) W)) (c3 : ∀ W, Tab2 W → Calls Tryd.prog 7 #[.agg #[.int .i64 K, .int .i64 a, .int .i64 b, .int .i64 c, .int .i64 0]] W (Makes (.tuple #[.int .u32 Y, .bool true]) W)) (c4 : ∀ W, Tab2 W → Calls Tryd.prog 12 #[.int .i64 K] W (Makes (.int .u8 82) W)) (c5 : ∀ W, Tab2 W → Calls Tryd.prog 9 #[.int .u32 X] W (Makes (.tuple #[.agg #[.int .i64 e0, .int .i64 e1, .int .i64 e2, .int .i64 e3, .int .i64 e4], .bool false]) W)) (c7 : ∀ W, Tab2 W → Calls Tryd.prog 14 #[.int .i64 K] W (Makes (.string T) W)) (c8 : ∀ W, Tab2 W → Calls Tryd.prog 13 #[.string T] W (Makes (.int .i64 K) W)) (c9 : ∀ W, Tab2 W → Calls Tryd.prog 11 #[] W (Makes (.bool true) W)) (hk : (K == 0) = false) (w : World) (hT : Tab2 w) :
    Calls Tryd.prog 4 #[.agg #[.int .i64 K, .int .i64 a, .int .i64 b, .int .i64 c, .int .i64 m], .int .u32 X] w (Makes (.bool true) w) := by
  have Cc1 := hide c1
  have Cc2 := hide c2
  have Cc3 := hide c3
  have Cc4 := hide c4
  have Cc5 := hide c5
  have Cc7 := hide c7
  have Cc8 := hide c8
  have Cc9 := hide c9
  clear c1 c2 c3 c4 c5 c7 c8 c9
  have E0 := ne_i K a b c 0 K a b c 0
  rw [show (!same5 K a b c 0 K a b c 0) = false by simp [same5]] at E0
  have SS := cell_same
  have LB' := ltB_add
  have LS := ltB_self
  have LA' := alloc_reads
  have LH := alloc_holds
  go_enter Tryd.func4, Tryd.ntmps4
  go_upto_region 15 with (first | (go_at_call 7; (first | ((with_reducible refine (Cc1.out _ ?_).mono ?_); (refine hT.behind ?_; repeat (first | with_reducible assumption | with_reducible exact Below.refl _ _ | with_reducible refine Below.drew ?_ | with_reducible refine below_drewN ?_ _ | with_reducible refine bw_alloc ?_ _ | (with_reducible refine bw_set ?_ ?_ _; focus (dsimp only; omega)) | (with_reducible apply bw_behind; with_reducible assumption)))) | ((with_reducible refine (Cc3.out _ ?_).mono ?_); (refine hT.behind ?_; repeat (first | with_reducible assumption | with_reducible exact Below.refl _ _ | with_reducible refine Below.drew ?_ | with_reducible refine below_drewN ?_ _ | with_reducible refine bw_alloc ?_ _ | (with_reducible refine bw_set ?_ ?_ _; focus (dsimp only; omega)) | (with_reducible apply bw_behind; with_reducible assumption))))); rintro e wq0 ⟨rfl, hbq0⟩; have hrq0 := below_reads hbq0; have hhq0 := below_holds hbq0; obtain ⟨mq0, hsq0⟩ := below_grew hbq0) | (go_at_call 9; (first | ((with_reducible refine (Cc2.out _ ?_).mono ?_); (refine hT.behind ?_; repeat (first | with_reducible assumption | with_reducible exact Below.refl _ _ | with_reducible refine Below.drew ?_ | with_reducible refine below_drewN ?_ _ | with_reducible refine bw_alloc ?_ _ | (with_reducible refine bw_set ?_ ?_ _; focus (dsimp only; omega)) | (with_reducible apply bw_behind; with_reducible assumption)))) | ((with_reducible refine (Cc5.out _ ?_).mono ?_); (refine hT.behind ?_; repeat (first | with_reducible assumption | with_reducible exact Below.refl _ _ | with_reducible refine Below.drew ?_ | with_reducible refine below_drewN ?_ _ | with_reducible refine bw_alloc ?_ _ | (with_reducible refine bw_set ?_ ?_ _; focus (dsimp only; omega)) | (with_reducible apply bw_behind; with_reducible assumption))))); rintro e wq1 ⟨rfl, hbq1⟩; have hrq1 := below_reads hbq1; have hhq1 := below_holds hbq1; obtain ⟨mq1, hsq1⟩ := below_grew hbq1) | (go_at_call 12; (first | ((with_reducible refine (Cc4.out _ ?_).mono ?_); (refine hT.behind ?_; repeat (first | with_reducible assumption | with_reducible exact Below.refl _ _ | with_reducible refine Below.drew ?_ | with_reducible refine below_drewN ?_ _ | with_reducible refine bw_alloc ?_ _ | (with_reducible refine bw_set ?_ ?_ _; focus (dsimp only; omega)) | (with_reducible apply bw_behind; with_reducible assumption))))); rintro e wq2 ⟨rfl, hbq2⟩; have hrq2 := below_reads hbq2; have hhq2 := below_holds hbq2; obtain ⟨mq2, hsq2⟩ := below_grew hbq2) | (go_at_call 14; (first | ((with_reducible refine (Cc7.out _ ?_).mono ?_); (refine hT.behind ?_; repeat (first | with_reducible assumption | with_reducible exact Below.refl _ _ | with_reducible refine Below.drew ?_ | with_reducible refine below_drewN ?_ _ | with_reducible refine bw_alloc ?_ _ | (with_reducible refine bw_set ?_ ?_ _; focus (dsimp only; omega)) | (with_reducible apply bw_behind; with_reducible assumption))))); rintro e wq3 ⟨rfl, hbq3⟩; have hrq3 := below_reads hbq3; have hhq3 := below_holds hbq3; obtain ⟨mq3, hsq3⟩ := below_grew hbq3) | (go_at_call 13; (first | ((with_reducible refine (Cc8.out _ ?_).mono ?_); (refine hT.behind ?_; repeat (first | with_reducible assumption | with_reducible exact Below.refl _ _ | with_reducible refine Below.drew ?_ | with_reducible refine below_drewN ?_ _ | with_reducible refine bw_alloc ?_ _ | (with_reducible refine bw_set ?_ ?_ _; focus (dsimp only; omega)) | (with_reducible apply bw_behind; with_reducible assumption))))); rintro e wq4 ⟨rfl, hbq4⟩; have hrq4 := below_reads hbq4; have hhq4 := below_holds hbq4; obtain ⟨mq4, hsq4⟩ := below_grew hbq4) | (go_at_call 11; (first | ((with_reducible refine (Cc9.out _ ?_).mono ?_); (refine hT.behind ?_; repeat (first | with_reducible assumption | with_reducible exact Below.refl _ _ | with_reducible refine Below.drew ?_ | with_reducible refine below_drewN ?_ _ | with_reducible refine bw_alloc ?_ _ | (with_reducible refine bw_set ?_ ?_ _; focus (dsimp only; omega)) | (with_reducible apply bw_behind; with_reducible assumption))))); rintro e wq5 ⟨rfl, hbq5⟩; have hrq5 := below_reads hbq5; have hhq5 := below_holds hbq5; obtain ⟨mq5, hsq5⟩ := below_grew hbq5))

  refine wp_abs (fun W => Tab2 W ∧ Below w.heap.size w W ∧ W.cell? ⟨w.heap.size, 0, none⟩ = some (.int .i64 K)) ?_ ?_
  · refine ⟨?_, ?_, ?_⟩
    all_goals (first | with_reducible assumption | ((repeat (first | with_reducible assumption | with_reducible refine c_dr _ ?_ | with_reducible refine c_d1 ?_ | with_reducible refine c_al _ ?_ | (with_reducible refine c_set ?_ ?_; focus (dsimp only; omega)) | (with_reducible apply c_be; with_reducible assumption))); done) | ((repeat (first | with_reducible assumption | with_reducible refine o_dr _ ?_ | with_reducible refine o_d1 ?_ | with_reducible refine o_set ?_ | (with_reducible refine o_new ?_ ?_; (focus (simp)); (focus (simp))) | with_reducible refine o_al _ ?_ | (with_reducible apply o_be; with_reducible assumption))); done) | ((repeat (first | with_reducible assumption | with_reducible exact Below.refl _ _ | with_reducible refine Below.drew ?_ | with_reducible refine below_drewN ?_ _ | with_reducible refine bw_alloc ?_ _ | (with_reducible refine bw_set ?_ ?_ _; focus (dsimp only; omega)) | (with_reducible apply bw_behind; with_reducible assumption))); done) | (refine hT.behind ?_; (repeat (first | with_reducible assumption | with_reducible exact Below.refl _ _ | with_reducible refine Below.drew ?_ | with_reducible refine below_drewN ?_ _ | with_reducible refine bw_alloc ?_ _ | (with_reducible refine bw_set ?_ ?_ _; focus (dsimp only; omega)) | (with_reducible apply bw_behind; with_reducible assumption))); done) | (simp [go_sem, *]; omega) | (simp (maxDischargeDepth := 4) [go_sem, *]; done))
  rintro w0 ⟨hT0, hB0, c0⟩
  have y0 := behind_cell0 c0
  have hsome := Behind.any w0
  clear c0
  refine wp_region_behind w0 (by kernel_rfl) (by kernel_rfl) (Below.refl _ _) ?_
  repeat (go_big_quiet_step (first | (go_at_call 14; with_reducible first | exact behind_call Cc7.out hT0 _) | (go_at_call 13; with_reducible first | exact behind_call Cc8.out hT0 _) | (go_at_call 12; with_reducible first | exact behind_call Cc4.out hT0 _) | (go_at_call 11; with_reducible first | exact behind_call Cc9.out hT0 _)))
  refine wpQuiet_nil ?_
  rintro _ ⟨y, rfl⟩
  have hTy := hT0.behind y.below
  have hBy := bw_behind y.below hB0
  have x0 := y0 y
  clear hsome y0
  obtain ⟨w1, hw1⟩ : ∃ W, W = y.world := ⟨_, rfl⟩
  rw [← hw1] at hTy hBy x0 ⊢
  clear hw1 y hT0 hB0
  go_wp2
  go_ret
  refine ⟨rfl, ?_⟩
  repeat (first | with_reducible assumption | with_reducible exact Below.refl _ _ | with_reducible refine Below.drew ?_ | with_reducible refine below_drewN ?_ _ | with_reducible refine bw_alloc ?_ _ | (with_reducible refine bw_set ?_ ?_ _; focus (dsimp only; omega)) | (with_reducible apply bw_behind; with_reducible assumption))

set_option maxRecDepth 100000 in
set_option maxHeartbeats 8000000 in
theorem walk_It (K a b c m X Y e0 e1 e2 e3 e4 : Int) (T : ByteArray) (c1 : ∀ W, Tab2 W → Calls Tryd.prog 7 #[.agg #[.int .i64 K, .int .i64 a, .int .i64 b, .int .i64 c, .int .i64 m]] W (Makes (.tuple #[.int .u32 Y, .bool true]) W)) (c2 : ∀ W, Tab2 W → Calls Tryd.prog 9 #[.int .u32 Y] W (Makes (.tuple #[.agg #[.int .i64 K, .int .i64 a, .int .i64 b, .int .i64 0, .int .i64 m], .bool true]) W)) (c3 : ∀ W, Tab2 W → Calls Tryd.prog 7 #[.agg #[.int .i64 K, .int .i64 a, .int .i64 b, .int .i64 0, .int .i64 m]] W (Makes (.tuple #[.int .u32 Y, .bool true]) W)) (c4 : ∀ W, Tab2 W → Calls Tryd.prog 12 #[.int .i64 K] W (Makes (.int .u8 73) W)) (c5 : ∀ W, Tab2 W → Calls Tryd.prog 9 #[.int .u32 X] W (Makes (.tuple #[.agg #[.int .i64 e0, .int .i64 e1, .int .i64 e2, .int .i64 e3, .int .i64 e4], .bool true]) W)) (c6 : ∀ W, Tab2 W → Calls Tryd.prog 7 #[.agg #[.int .i64 e0, .int .i64 e1, .int .i64 e2, .int .i64 e3, .int .i64 e4]] W (Makes (.tuple #[.int .u32 X, .bool true]) W)) (c7 : ∀ W, Tab2 W → Calls Tryd.prog 14 #[.int .i64 K] W (Makes (.string T) W)) (c8 : ∀ W, Tab2 W → Calls Tryd.prog 13 #[.string T] W (Makes (.int .i64 K) W)) (c9 : ∀ W, Tab2 W → Calls Tryd.prog 11 #[] W (Makes (.bool true) W)) (hk : (K == 0) = false) (w : World) (hT : Tab2 w) :
    Calls Tryd.prog 4 #[.agg #[.int .i64 K, .int .i64 a, .int .i64 b, .int .i64 c, .int .i64 m], .int .u32 X] w (Makes (.bool true) w) := by
  have Cc1 := hide c1
  have Cc2 := hide c2
  have Cc3 := hide c3
  have Cc4 := hide c4
  have Cc5 := hide c5
  have Cc6 := hide c6
  have Cc7 := hide c7
  have Cc8 := hide c8
  have Cc9 := hide c9
  clear c1 c2 c3 c4 c5 c6 c7 c8 c9
  have E0 := ne_i K a b 0 m K a b 0 m
  rw [show (!same5 K a b 0 m K a b 0 m) = false by simp [same5]] at E0
  have SS := cell_same
  have LB' := ltB_add
  have LS := ltB_self
  have LA' := alloc_reads
  have LH := alloc_holds
  go_enter Tryd.func4, Tryd.ntmps4
  go_upto_region 15 with (first | (go_at_call 7; (first | ((with_reducible refine (Cc1.out _ ?_).mono ?_); (refine hT.behind ?_; repeat (first | with_reducible assumption | with_reducible exact Below.refl _ _ | with_reducible refine Below.drew ?_ | with_reducible refine below_drewN ?_ _ | with_reducible refine bw_alloc ?_ _ | (with_reducible refine bw_set ?_ ?_ _; focus (dsimp only; omega)) | (with_reducible apply bw_behind; with_reducible assumption)))) | ((with_reducible refine (Cc3.out _ ?_).mono ?_); (refine hT.behind ?_; repeat (first | with_reducible assumption | with_reducible exact Below.refl _ _ | with_reducible refine Below.drew ?_ | with_reducible refine below_drewN ?_ _ | with_reducible refine bw_alloc ?_ _ | (with_reducible refine bw_set ?_ ?_ _; focus (dsimp only; omega)) | (with_reducible apply bw_behind; with_reducible assumption)))) | ((with_reducible refine (Cc6.out _ ?_).mono ?_); (refine hT.behind ?_; repeat (first | with_reducible assumption | with_reducible exact Below.refl _ _ | with_reducible refine Below.drew ?_ | with_reducible refine below_drewN ?_ _ | with_reducible refine bw_alloc ?_ _ | (with_reducible refine bw_set ?_ ?_ _; focus (dsimp only; omega)) | (with_reducible apply bw_behind; with_reducible assumption))))); rintro e wq0 ⟨rfl, hbq0⟩; have hrq0 := below_reads hbq0; have hhq0 := below_holds hbq0; obtain ⟨mq0, hsq0⟩ := below_grew hbq0) | (go_at_call 9; (first | ((with_reducible refine (Cc2.out _ ?_).mono ?_); (refine hT.behind ?_; repeat (first | with_reducible assumption | with_reducible exact Below.refl _ _ | with_reducible refine Below.drew ?_ | with_reducible refine below_drewN ?_ _ | with_reducible refine bw_alloc ?_ _ | (with_reducible refine bw_set ?_ ?_ _; focus (dsimp only; omega)) | (with_reducible apply bw_behind; with_reducible assumption)))) | ((with_reducible refine (Cc5.out _ ?_).mono ?_); (refine hT.behind ?_; repeat (first | with_reducible assumption | with_reducible exact Below.refl _ _ | with_reducible refine Below.drew ?_ | with_reducible refine below_drewN ?_ _ | with_reducible refine bw_alloc ?_ _ | (with_reducible refine bw_set ?_ ?_ _; focus (dsimp only; omega)) | (with_reducible apply bw_behind; with_reducible assumption))))); rintro e wq1 ⟨rfl, hbq1⟩; have hrq1 := below_reads hbq1; have hhq1 := below_holds hbq1; obtain ⟨mq1, hsq1⟩ := below_grew hbq1) | (go_at_call 12; (first | ((with_reducible refine (Cc4.out _ ?_).mono ?_); (refine hT.behind ?_; repeat (first | with_reducible assumption | with_reducible exact Below.refl _ _ | with_reducible refine Below.drew ?_ | with_reducible refine below_drewN ?_ _ | with_reducible refine bw_alloc ?_ _ | (with_reducible refine bw_set ?_ ?_ _; focus (dsimp only; omega)) | (with_reducible apply bw_behind; with_reducible assumption))))); rintro e wq2 ⟨rfl, hbq2⟩; have hrq2 := below_reads hbq2; have hhq2 := below_holds hbq2; obtain ⟨mq2, hsq2⟩ := below_grew hbq2) | (go_at_call 14; (first | ((with_reducible refine (Cc7.out _ ?_).mono ?_); (refine hT.behind ?_; repeat (first | with_reducible assumption | with_reducible exact Below.refl _ _ | with_reducible refine Below.drew ?_ | with_reducible refine below_drewN ?_ _ | with_reducible refine bw_alloc ?_ _ | (with_reducible refine bw_set ?_ ?_ _; focus (dsimp only; omega)) | (with_reducible apply bw_behind; with_reducible assumption))))); rintro e wq3 ⟨rfl, hbq3⟩; have hrq3 := below_reads hbq3; have hhq3 := below_holds hbq3; obtain ⟨mq3, hsq3⟩ := below_grew hbq3) | (go_at_call 13; (first | ((with_reducible refine (Cc8.out _ ?_).mono ?_); (refine hT.behind ?_; repeat (first | with_reducible assumption | with_reducible exact Below.refl _ _ | with_reducible refine Below.drew ?_ | with_reducible refine below_drewN ?_ _ | with_reducible refine bw_alloc ?_ _ | (with_reducible refine bw_set ?_ ?_ _; focus (dsimp only; omega)) | (with_reducible apply bw_behind; with_reducible assumption))))); rintro e wq4 ⟨rfl, hbq4⟩; have hrq4 := below_reads hbq4; have hhq4 := below_holds hbq4; obtain ⟨mq4, hsq4⟩ := below_grew hbq4) | (go_at_call 11; (first | ((with_reducible refine (Cc9.out _ ?_).mono ?_); (refine hT.behind ?_; repeat (first | with_reducible assumption | with_reducible exact Below.refl _ _ | with_reducible refine Below.drew ?_ | with_reducible refine below_drewN ?_ _ | with_reducible refine bw_alloc ?_ _ | (with_reducible refine bw_set ?_ ?_ _; focus (dsimp only; omega)) | (with_reducible apply bw_behind; with_reducible assumption))))); rintro e wq5 ⟨rfl, hbq5⟩; have hrq5 := below_reads hbq5; have hhq5 := below_holds hbq5; obtain ⟨mq5, hsq5⟩ := below_grew hbq5))

  refine wp_abs (fun W => Tab2 W ∧ Below w.heap.size w W ∧ W.cell? ⟨w.heap.size, 0, none⟩ = some (.int .i64 K)) ?_ ?_
  · refine ⟨?_, ?_, ?_⟩
    all_goals (first | with_reducible assumption | ((repeat (first | with_reducible assumption | with_reducible refine c_dr _ ?_ | with_reducible refine c_d1 ?_ | with_reducible refine c_al _ ?_ | (with_reducible refine c_set ?_ ?_; focus (dsimp only; omega)) | (with_reducible apply c_be; with_reducible assumption))); done) | ((repeat (first | with_reducible assumption | with_reducible refine o_dr _ ?_ | with_reducible refine o_d1 ?_ | with_reducible refine o_set ?_ | (with_reducible refine o_new ?_ ?_; (focus (simp)); (focus (simp))) | with_reducible refine o_al _ ?_ | (with_reducible apply o_be; with_reducible assumption))); done) | ((repeat (first | with_reducible assumption | with_reducible exact Below.refl _ _ | with_reducible refine Below.drew ?_ | with_reducible refine below_drewN ?_ _ | with_reducible refine bw_alloc ?_ _ | (with_reducible refine bw_set ?_ ?_ _; focus (dsimp only; omega)) | (with_reducible apply bw_behind; with_reducible assumption))); done) | (refine hT.behind ?_; (repeat (first | with_reducible assumption | with_reducible exact Below.refl _ _ | with_reducible refine Below.drew ?_ | with_reducible refine below_drewN ?_ _ | with_reducible refine bw_alloc ?_ _ | (with_reducible refine bw_set ?_ ?_ _; focus (dsimp only; omega)) | (with_reducible apply bw_behind; with_reducible assumption))); done) | (simp [go_sem, *]; omega) | (simp (maxDischargeDepth := 4) [go_sem, *]; done))
  rintro w0 ⟨hT0, hB0, c0⟩
  have y0 := behind_cell0 c0
  have hsome := Behind.any w0
  clear c0
  refine wp_region_behind w0 (by kernel_rfl) (by kernel_rfl) (Below.refl _ _) ?_
  repeat (go_big_quiet_step (first | (go_at_call 14; with_reducible first | exact behind_call Cc7.out hT0 _) | (go_at_call 13; with_reducible first | exact behind_call Cc8.out hT0 _) | (go_at_call 12; with_reducible first | exact behind_call Cc4.out hT0 _) | (go_at_call 11; with_reducible first | exact behind_call Cc9.out hT0 _)))
  refine wpQuiet_nil ?_
  rintro _ ⟨y, rfl⟩
  have hTy := hT0.behind y.below
  have hBy := bw_behind y.below hB0
  have x0 := y0 y
  clear hsome y0
  obtain ⟨w1, hw1⟩ : ∃ W, W = y.world := ⟨_, rfl⟩
  rw [← hw1] at hTy hBy x0 ⊢
  clear hw1 y hT0 hB0
  go_wp2
  go_ret
  refine ⟨rfl, ?_⟩
  repeat (first | with_reducible assumption | with_reducible exact Below.refl _ _ | with_reducible refine Below.drew ?_ | with_reducible refine below_drewN ?_ _ | with_reducible refine bw_alloc ?_ _ | (with_reducible refine bw_set ?_ ?_ _; focus (dsimp only; omega)) | (with_reducible apply bw_behind; with_reducible assumption))

set_option maxRecDepth 100000 in
set_option maxHeartbeats 8000000 in
theorem walk_If (K a b c m X Y e0 e1 e2 e3 e4 : Int) (T : ByteArray) (c1 : ∀ W, Tab2 W → Calls Tryd.prog 7 #[.agg #[.int .i64 K, .int .i64 a, .int .i64 b, .int .i64 c, .int .i64 m]] W (Makes (.tuple #[.int .u32 Y, .bool true]) W)) (c2 : ∀ W, Tab2 W → Calls Tryd.prog 9 #[.int .u32 Y] W (Makes (.tuple #[.agg #[.int .i64 K, .int .i64 a, .int .i64 b, .int .i64 0, .int .i64 m], .bool true]) W)) (c3 : ∀ W, Tab2 W → Calls Tryd.prog 7 #[.agg #[.int .i64 K, .int .i64 a, .int .i64 b, .int .i64 0, .int .i64 m]] W (Makes (.tuple #[.int .u32 Y, .bool true]) W)) (c4 : ∀ W, Tab2 W → Calls Tryd.prog 12 #[.int .i64 K] W (Makes (.int .u8 73) W)) (c5 : ∀ W, Tab2 W → Calls Tryd.prog 9 #[.int .u32 X] W (Makes (.tuple #[.agg #[.int .i64 e0, .int .i64 e1, .int .i64 e2, .int .i64 e3, .int .i64 e4], .bool false]) W)) (c7 : ∀ W, Tab2 W → Calls Tryd.prog 14 #[.int .i64 K] W (Makes (.string T) W)) (c8 : ∀ W, Tab2 W → Calls Tryd.prog 13 #[.string T] W (Makes (.int .i64 K) W)) (c9 : ∀ W, Tab2 W → Calls Tryd.prog 11 #[] W (Makes (.bool true) W)) (hk : (K == 0) = false) (w : World) (hT : Tab2 w) :
    Calls Tryd.prog 4 #[.agg #[.int .i64 K, .int .i64 a, .int .i64 b, .int .i64 c, .int .i64 m], .int .u32 X] w (Makes (.bool true) w) := by
  have Cc1 := hide c1
  have Cc2 := hide c2
  have Cc3 := hide c3
  have Cc4 := hide c4
  have Cc5 := hide c5
  have Cc7 := hide c7
  have Cc8 := hide c8
  have Cc9 := hide c9
  clear c1 c2 c3 c4 c5 c7 c8 c9
  have E0 := ne_i K a b 0 m K a b 0 m
  rw [show (!same5 K a b 0 m K a b 0 m) = false by simp [same5]] at E0
  have SS := cell_same
  have LB' := ltB_add
  have LS := ltB_self
  have LA' := alloc_reads
  have LH := alloc_holds
  go_enter Tryd.func4, Tryd.ntmps4
  go_upto_region 15 with (first | (go_at_call 7; (first | ((with_reducible refine (Cc1.out _ ?_).mono ?_); (refine hT.behind ?_; repeat (first | with_reducible assumption | with_reducible exact Below.refl _ _ | with_reducible refine Below.drew ?_ | with_reducible refine below_drewN ?_ _ | with_reducible refine bw_alloc ?_ _ | (with_reducible refine bw_set ?_ ?_ _; focus (dsimp only; omega)) | (with_reducible apply bw_behind; with_reducible assumption)))) | ((with_reducible refine (Cc3.out _ ?_).mono ?_); (refine hT.behind ?_; repeat (first | with_reducible assumption | with_reducible exact Below.refl _ _ | with_reducible refine Below.drew ?_ | with_reducible refine below_drewN ?_ _ | with_reducible refine bw_alloc ?_ _ | (with_reducible refine bw_set ?_ ?_ _; focus (dsimp only; omega)) | (with_reducible apply bw_behind; with_reducible assumption))))); rintro e wq0 ⟨rfl, hbq0⟩; have hrq0 := below_reads hbq0; have hhq0 := below_holds hbq0; obtain ⟨mq0, hsq0⟩ := below_grew hbq0) | (go_at_call 9; (first | ((with_reducible refine (Cc2.out _ ?_).mono ?_); (refine hT.behind ?_; repeat (first | with_reducible assumption | with_reducible exact Below.refl _ _ | with_reducible refine Below.drew ?_ | with_reducible refine below_drewN ?_ _ | with_reducible refine bw_alloc ?_ _ | (with_reducible refine bw_set ?_ ?_ _; focus (dsimp only; omega)) | (with_reducible apply bw_behind; with_reducible assumption)))) | ((with_reducible refine (Cc5.out _ ?_).mono ?_); (refine hT.behind ?_; repeat (first | with_reducible assumption | with_reducible exact Below.refl _ _ | with_reducible refine Below.drew ?_ | with_reducible refine below_drewN ?_ _ | with_reducible refine bw_alloc ?_ _ | (with_reducible refine bw_set ?_ ?_ _; focus (dsimp only; omega)) | (with_reducible apply bw_behind; with_reducible assumption))))); rintro e wq1 ⟨rfl, hbq1⟩; have hrq1 := below_reads hbq1; have hhq1 := below_holds hbq1; obtain ⟨mq1, hsq1⟩ := below_grew hbq1) | (go_at_call 12; (first | ((with_reducible refine (Cc4.out _ ?_).mono ?_); (refine hT.behind ?_; repeat (first | with_reducible assumption | with_reducible exact Below.refl _ _ | with_reducible refine Below.drew ?_ | with_reducible refine below_drewN ?_ _ | with_reducible refine bw_alloc ?_ _ | (with_reducible refine bw_set ?_ ?_ _; focus (dsimp only; omega)) | (with_reducible apply bw_behind; with_reducible assumption))))); rintro e wq2 ⟨rfl, hbq2⟩; have hrq2 := below_reads hbq2; have hhq2 := below_holds hbq2; obtain ⟨mq2, hsq2⟩ := below_grew hbq2) | (go_at_call 14; (first | ((with_reducible refine (Cc7.out _ ?_).mono ?_); (refine hT.behind ?_; repeat (first | with_reducible assumption | with_reducible exact Below.refl _ _ | with_reducible refine Below.drew ?_ | with_reducible refine below_drewN ?_ _ | with_reducible refine bw_alloc ?_ _ | (with_reducible refine bw_set ?_ ?_ _; focus (dsimp only; omega)) | (with_reducible apply bw_behind; with_reducible assumption))))); rintro e wq3 ⟨rfl, hbq3⟩; have hrq3 := below_reads hbq3; have hhq3 := below_holds hbq3; obtain ⟨mq3, hsq3⟩ := below_grew hbq3) | (go_at_call 13; (first | ((with_reducible refine (Cc8.out _ ?_).mono ?_); (refine hT.behind ?_; repeat (first | with_reducible assumption | with_reducible exact Below.refl _ _ | with_reducible refine Below.drew ?_ | with_reducible refine below_drewN ?_ _ | with_reducible refine bw_alloc ?_ _ | (with_reducible refine bw_set ?_ ?_ _; focus (dsimp only; omega)) | (with_reducible apply bw_behind; with_reducible assumption))))); rintro e wq4 ⟨rfl, hbq4⟩; have hrq4 := below_reads hbq4; have hhq4 := below_holds hbq4; obtain ⟨mq4, hsq4⟩ := below_grew hbq4) | (go_at_call 11; (first | ((with_reducible refine (Cc9.out _ ?_).mono ?_); (refine hT.behind ?_; repeat (first | with_reducible assumption | with_reducible exact Below.refl _ _ | with_reducible refine Below.drew ?_ | with_reducible refine below_drewN ?_ _ | with_reducible refine bw_alloc ?_ _ | (with_reducible refine bw_set ?_ ?_ _; focus (dsimp only; omega)) | (with_reducible apply bw_behind; with_reducible assumption))))); rintro e wq5 ⟨rfl, hbq5⟩; have hrq5 := below_reads hbq5; have hhq5 := below_holds hbq5; obtain ⟨mq5, hsq5⟩ := below_grew hbq5))

  refine wp_abs (fun W => Tab2 W ∧ Below w.heap.size w W ∧ W.cell? ⟨w.heap.size, 0, none⟩ = some (.int .i64 K)) ?_ ?_
  · refine ⟨?_, ?_, ?_⟩
    all_goals (first | with_reducible assumption | ((repeat (first | with_reducible assumption | with_reducible refine c_dr _ ?_ | with_reducible refine c_d1 ?_ | with_reducible refine c_al _ ?_ | (with_reducible refine c_set ?_ ?_; focus (dsimp only; omega)) | (with_reducible apply c_be; with_reducible assumption))); done) | ((repeat (first | with_reducible assumption | with_reducible refine o_dr _ ?_ | with_reducible refine o_d1 ?_ | with_reducible refine o_set ?_ | (with_reducible refine o_new ?_ ?_; (focus (simp)); (focus (simp))) | with_reducible refine o_al _ ?_ | (with_reducible apply o_be; with_reducible assumption))); done) | ((repeat (first | with_reducible assumption | with_reducible exact Below.refl _ _ | with_reducible refine Below.drew ?_ | with_reducible refine below_drewN ?_ _ | with_reducible refine bw_alloc ?_ _ | (with_reducible refine bw_set ?_ ?_ _; focus (dsimp only; omega)) | (with_reducible apply bw_behind; with_reducible assumption))); done) | (refine hT.behind ?_; (repeat (first | with_reducible assumption | with_reducible exact Below.refl _ _ | with_reducible refine Below.drew ?_ | with_reducible refine below_drewN ?_ _ | with_reducible refine bw_alloc ?_ _ | (with_reducible refine bw_set ?_ ?_ _; focus (dsimp only; omega)) | (with_reducible apply bw_behind; with_reducible assumption))); done) | (simp [go_sem, *]; omega) | (simp (maxDischargeDepth := 4) [go_sem, *]; done))
  rintro w0 ⟨hT0, hB0, c0⟩
  have y0 := behind_cell0 c0
  have hsome := Behind.any w0
  clear c0
  refine wp_region_behind w0 (by kernel_rfl) (by kernel_rfl) (Below.refl _ _) ?_
  repeat (go_big_quiet_step (first | (go_at_call 14; with_reducible first | exact behind_call Cc7.out hT0 _) | (go_at_call 13; with_reducible first | exact behind_call Cc8.out hT0 _) | (go_at_call 12; with_reducible first | exact behind_call Cc4.out hT0 _) | (go_at_call 11; with_reducible first | exact behind_call Cc9.out hT0 _)))
  refine wpQuiet_nil ?_
  rintro _ ⟨y, rfl⟩
  have hTy := hT0.behind y.below
  have hBy := bw_behind y.below hB0
  have x0 := y0 y
  clear hsome y0
  obtain ⟨w1, hw1⟩ : ∃ W, W = y.world := ⟨_, rfl⟩
  rw [← hw1] at hTy hBy x0 ⊢
  clear hw1 y hT0 hB0
  go_wp2
  go_ret
  refine ⟨rfl, ?_⟩
  repeat (first | with_reducible assumption | with_reducible exact Below.refl _ _ | with_reducible refine Below.drew ?_ | with_reducible refine below_drewN ?_ _ | with_reducible refine bw_alloc ?_ _ | (with_reducible refine bw_set ?_ ?_ _; focus (dsimp only; omega)) | (with_reducible apply bw_behind; with_reducible assumption))

set_option maxRecDepth 100000 in
set_option maxHeartbeats 8000000 in
theorem walk_Bt (K a b c m X Y e0 e1 e2 e3 e4 : Int) (T : ByteArray) (c1 : ∀ W, Tab2 W → Calls Tryd.prog 7 #[.agg #[.int .i64 K, .int .i64 a, .int .i64 b, .int .i64 c, .int .i64 m]] W (Makes (.tuple #[.int .u32 Y, .bool true]) W)) (c2 : ∀ W, Tab2 W → Calls Tryd.prog 9 #[.int .u32 Y] W (Makes (.tuple #[.agg #[.int .i64 K, .int .i64 0, .int .i64 b, .int .i64 c, .int .i64 m], .bool true]) W)) (c3 : ∀ W, Tab2 W → Calls Tryd.prog 7 #[.agg #[.int .i64 K, .int .i64 0, .int .i64 b, .int .i64 c, .int .i64 m]] W (Makes (.tuple #[.int .u32 Y, .bool true]) W)) (c4 : ∀ W, Tab2 W → Calls Tryd.prog 12 #[.int .i64 K] W (Makes (.int .u8 66) W)) (c5 : ∀ W, Tab2 W → Calls Tryd.prog 9 #[.int .u32 X] W (Makes (.tuple #[.agg #[.int .i64 e0, .int .i64 e1, .int .i64 e2, .int .i64 e3, .int .i64 e4], .bool true]) W)) (c6 : ∀ W, Tab2 W → Calls Tryd.prog 7 #[.agg #[.int .i64 e0, .int .i64 e1, .int .i64 e2, .int .i64 e3, .int .i64 e4]] W (Makes (.tuple #[.int .u32 X, .bool true]) W)) (c7 : ∀ W, Tab2 W → Calls Tryd.prog 14 #[.int .i64 K] W (Makes (.string T) W)) (c8 : ∀ W, Tab2 W → Calls Tryd.prog 13 #[.string T] W (Makes (.int .i64 K) W)) (c9 : ∀ W, Tab2 W → Calls Tryd.prog 11 #[] W (Makes (.bool true) W)) (hk : (K == 0) = false) (w : World) (hT : Tab2 w) :
    Calls Tryd.prog 4 #[.agg #[.int .i64 K, .int .i64 a, .int .i64 b, .int .i64 c, .int .i64 m], .int .u32 X] w (Makes (.bool true) w) := by
  have Cc1 := hide c1
  have Cc2 := hide c2
  have Cc3 := hide c3
  have Cc4 := hide c4
  have Cc5 := hide c5
  have Cc6 := hide c6
  have Cc7 := hide c7
  have Cc8 := hide c8
  have Cc9 := hide c9
  clear c1 c2 c3 c4 c5 c6 c7 c8 c9
  have E0 := ne_i K 0 b c m K 0 b c m
  rw [show (!same5 K 0 b c m K 0 b c m) = false by simp [same5]] at E0
  have SS := cell_same
  have LB' := ltB_add
  have LS := ltB_self
  have LA' := alloc_reads
  have LH := alloc_holds
  go_enter Tryd.func4, Tryd.ntmps4
  go_upto_region 15 with (first | (go_at_call 7; (first | ((with_reducible refine (Cc1.out _ ?_).mono ?_); (refine hT.behind ?_; repeat (first | with_reducible assumption | with_reducible exact Below.refl _ _ | with_reducible refine Below.drew ?_ | with_reducible refine below_drewN ?_ _ | with_reducible refine bw_alloc ?_ _ | (with_reducible refine bw_set ?_ ?_ _; focus (dsimp only; omega)) | (with_reducible apply bw_behind; with_reducible assumption)))) | ((with_reducible refine (Cc3.out _ ?_).mono ?_); (refine hT.behind ?_; repeat (first | with_reducible assumption | with_reducible exact Below.refl _ _ | with_reducible refine Below.drew ?_ | with_reducible refine below_drewN ?_ _ | with_reducible refine bw_alloc ?_ _ | (with_reducible refine bw_set ?_ ?_ _; focus (dsimp only; omega)) | (with_reducible apply bw_behind; with_reducible assumption)))) | ((with_reducible refine (Cc6.out _ ?_).mono ?_); (refine hT.behind ?_; repeat (first | with_reducible assumption | with_reducible exact Below.refl _ _ | with_reducible refine Below.drew ?_ | with_reducible refine below_drewN ?_ _ | with_reducible refine bw_alloc ?_ _ | (with_reducible refine bw_set ?_ ?_ _; focus (dsimp only; omega)) | (with_reducible apply bw_behind; with_reducible assumption))))); rintro e wq0 ⟨rfl, hbq0⟩; have hrq0 := below_reads hbq0; have hhq0 := below_holds hbq0; obtain ⟨mq0, hsq0⟩ := below_grew hbq0) | (go_at_call 9; (first | ((with_reducible refine (Cc2.out _ ?_).mono ?_); (refine hT.behind ?_; repeat (first | with_reducible assumption | with_reducible exact Below.refl _ _ | with_reducible refine Below.drew ?_ | with_reducible refine below_drewN ?_ _ | with_reducible refine bw_alloc ?_ _ | (with_reducible refine bw_set ?_ ?_ _; focus (dsimp only; omega)) | (with_reducible apply bw_behind; with_reducible assumption)))) | ((with_reducible refine (Cc5.out _ ?_).mono ?_); (refine hT.behind ?_; repeat (first | with_reducible assumption | with_reducible exact Below.refl _ _ | with_reducible refine Below.drew ?_ | with_reducible refine below_drewN ?_ _ | with_reducible refine bw_alloc ?_ _ | (with_reducible refine bw_set ?_ ?_ _; focus (dsimp only; omega)) | (with_reducible apply bw_behind; with_reducible assumption))))); rintro e wq1 ⟨rfl, hbq1⟩; have hrq1 := below_reads hbq1; have hhq1 := below_holds hbq1; obtain ⟨mq1, hsq1⟩ := below_grew hbq1) | (go_at_call 12; (first | ((with_reducible refine (Cc4.out _ ?_).mono ?_); (refine hT.behind ?_; repeat (first | with_reducible assumption | with_reducible exact Below.refl _ _ | with_reducible refine Below.drew ?_ | with_reducible refine below_drewN ?_ _ | with_reducible refine bw_alloc ?_ _ | (with_reducible refine bw_set ?_ ?_ _; focus (dsimp only; omega)) | (with_reducible apply bw_behind; with_reducible assumption))))); rintro e wq2 ⟨rfl, hbq2⟩; have hrq2 := below_reads hbq2; have hhq2 := below_holds hbq2; obtain ⟨mq2, hsq2⟩ := below_grew hbq2) | (go_at_call 14; (first | ((with_reducible refine (Cc7.out _ ?_).mono ?_); (refine hT.behind ?_; repeat (first | with_reducible assumption | with_reducible exact Below.refl _ _ | with_reducible refine Below.drew ?_ | with_reducible refine below_drewN ?_ _ | with_reducible refine bw_alloc ?_ _ | (with_reducible refine bw_set ?_ ?_ _; focus (dsimp only; omega)) | (with_reducible apply bw_behind; with_reducible assumption))))); rintro e wq3 ⟨rfl, hbq3⟩; have hrq3 := below_reads hbq3; have hhq3 := below_holds hbq3; obtain ⟨mq3, hsq3⟩ := below_grew hbq3) | (go_at_call 13; (first | ((with_reducible refine (Cc8.out _ ?_).mono ?_); (refine hT.behind ?_; repeat (first | with_reducible assumption | with_reducible exact Below.refl _ _ | with_reducible refine Below.drew ?_ | with_reducible refine below_drewN ?_ _ | with_reducible refine bw_alloc ?_ _ | (with_reducible refine bw_set ?_ ?_ _; focus (dsimp only; omega)) | (with_reducible apply bw_behind; with_reducible assumption))))); rintro e wq4 ⟨rfl, hbq4⟩; have hrq4 := below_reads hbq4; have hhq4 := below_holds hbq4; obtain ⟨mq4, hsq4⟩ := below_grew hbq4) | (go_at_call 11; (first | ((with_reducible refine (Cc9.out _ ?_).mono ?_); (refine hT.behind ?_; repeat (first | with_reducible assumption | with_reducible exact Below.refl _ _ | with_reducible refine Below.drew ?_ | with_reducible refine below_drewN ?_ _ | with_reducible refine bw_alloc ?_ _ | (with_reducible refine bw_set ?_ ?_ _; focus (dsimp only; omega)) | (with_reducible apply bw_behind; with_reducible assumption))))); rintro e wq5 ⟨rfl, hbq5⟩; have hrq5 := below_reads hbq5; have hhq5 := below_holds hbq5; obtain ⟨mq5, hsq5⟩ := below_grew hbq5))

  refine wp_abs (fun W => Tab2 W ∧ Below w.heap.size w W ∧ W.cell? ⟨w.heap.size, 0, none⟩ = some (.int .i64 K)) ?_ ?_
  · refine ⟨?_, ?_, ?_⟩
    all_goals (first | with_reducible assumption | ((repeat (first | with_reducible assumption | with_reducible refine c_dr _ ?_ | with_reducible refine c_d1 ?_ | with_reducible refine c_al _ ?_ | (with_reducible refine c_set ?_ ?_; focus (dsimp only; omega)) | (with_reducible apply c_be; with_reducible assumption))); done) | ((repeat (first | with_reducible assumption | with_reducible refine o_dr _ ?_ | with_reducible refine o_d1 ?_ | with_reducible refine o_set ?_ | (with_reducible refine o_new ?_ ?_; (focus (simp)); (focus (simp))) | with_reducible refine o_al _ ?_ | (with_reducible apply o_be; with_reducible assumption))); done) | ((repeat (first | with_reducible assumption | with_reducible exact Below.refl _ _ | with_reducible refine Below.drew ?_ | with_reducible refine below_drewN ?_ _ | with_reducible refine bw_alloc ?_ _ | (with_reducible refine bw_set ?_ ?_ _; focus (dsimp only; omega)) | (with_reducible apply bw_behind; with_reducible assumption))); done) | (refine hT.behind ?_; (repeat (first | with_reducible assumption | with_reducible exact Below.refl _ _ | with_reducible refine Below.drew ?_ | with_reducible refine below_drewN ?_ _ | with_reducible refine bw_alloc ?_ _ | (with_reducible refine bw_set ?_ ?_ _; focus (dsimp only; omega)) | (with_reducible apply bw_behind; with_reducible assumption))); done) | (simp [go_sem, *]; omega) | (simp (maxDischargeDepth := 4) [go_sem, *]; done))
  rintro w0 ⟨hT0, hB0, c0⟩
  have y0 := behind_cell0 c0
  have hsome := Behind.any w0
  clear c0
  refine wp_region_behind w0 (by kernel_rfl) (by kernel_rfl) (Below.refl _ _) ?_
  repeat (go_big_quiet_step (first | (go_at_call 14; with_reducible first | exact behind_call Cc7.out hT0 _) | (go_at_call 13; with_reducible first | exact behind_call Cc8.out hT0 _) | (go_at_call 12; with_reducible first | exact behind_call Cc4.out hT0 _) | (go_at_call 11; with_reducible first | exact behind_call Cc9.out hT0 _)))
  refine wpQuiet_nil ?_
  rintro _ ⟨y, rfl⟩
  have hTy := hT0.behind y.below
  have hBy := bw_behind y.below hB0
  have x0 := y0 y
  clear hsome y0
  obtain ⟨w1, hw1⟩ : ∃ W, W = y.world := ⟨_, rfl⟩
  rw [← hw1] at hTy hBy x0 ⊢
  clear hw1 y hT0 hB0
  go_wp2
  go_ret
  refine ⟨rfl, ?_⟩
  repeat (first | with_reducible assumption | with_reducible exact Below.refl _ _ | with_reducible refine Below.drew ?_ | with_reducible refine below_drewN ?_ _ | with_reducible refine bw_alloc ?_ _ | (with_reducible refine bw_set ?_ ?_ _; focus (dsimp only; omega)) | (with_reducible apply bw_behind; with_reducible assumption))

set_option maxRecDepth 100000 in
set_option maxHeartbeats 8000000 in
theorem walk_Bf (K a b c m X Y e0 e1 e2 e3 e4 : Int) (T : ByteArray) (c1 : ∀ W, Tab2 W → Calls Tryd.prog 7 #[.agg #[.int .i64 K, .int .i64 a, .int .i64 b, .int .i64 c, .int .i64 m]] W (Makes (.tuple #[.int .u32 Y, .bool true]) W)) (c2 : ∀ W, Tab2 W → Calls Tryd.prog 9 #[.int .u32 Y] W (Makes (.tuple #[.agg #[.int .i64 K, .int .i64 0, .int .i64 b, .int .i64 c, .int .i64 m], .bool true]) W)) (c3 : ∀ W, Tab2 W → Calls Tryd.prog 7 #[.agg #[.int .i64 K, .int .i64 0, .int .i64 b, .int .i64 c, .int .i64 m]] W (Makes (.tuple #[.int .u32 Y, .bool true]) W)) (c4 : ∀ W, Tab2 W → Calls Tryd.prog 12 #[.int .i64 K] W (Makes (.int .u8 66) W)) (c5 : ∀ W, Tab2 W → Calls Tryd.prog 9 #[.int .u32 X] W (Makes (.tuple #[.agg #[.int .i64 e0, .int .i64 e1, .int .i64 e2, .int .i64 e3, .int .i64 e4], .bool false]) W)) (c7 : ∀ W, Tab2 W → Calls Tryd.prog 14 #[.int .i64 K] W (Makes (.string T) W)) (c8 : ∀ W, Tab2 W → Calls Tryd.prog 13 #[.string T] W (Makes (.int .i64 K) W)) (c9 : ∀ W, Tab2 W → Calls Tryd.prog 11 #[] W (Makes (.bool true) W)) (hk : (K == 0) = false) (w : World) (hT : Tab2 w) :
    Calls Tryd.prog 4 #[.agg #[.int .i64 K, .int .i64 a, .int .i64 b, .int .i64 c, .int .i64 m], .int .u32 X] w (Makes (.bool true) w) := by
  have Cc1 := hide c1
  have Cc2 := hide c2
  have Cc3 := hide c3
  have Cc4 := hide c4
  have Cc5 := hide c5
  have Cc7 := hide c7
  have Cc8 := hide c8
  have Cc9 := hide c9
  clear c1 c2 c3 c4 c5 c7 c8 c9
  have E0 := ne_i K 0 b c m K 0 b c m
  rw [show (!same5 K 0 b c m K 0 b c m) = false by simp [same5]] at E0
  have SS := cell_same
  have LB' := ltB_add
  have LS := ltB_self
  have LA' := alloc_reads
  have LH := alloc_holds
  go_enter Tryd.func4, Tryd.ntmps4
  go_upto_region 15 with (first | (go_at_call 7; (first | ((with_reducible refine (Cc1.out _ ?_).mono ?_); (refine hT.behind ?_; repeat (first | with_reducible assumption | with_reducible exact Below.refl _ _ | with_reducible refine Below.drew ?_ | with_reducible refine below_drewN ?_ _ | with_reducible refine bw_alloc ?_ _ | (with_reducible refine bw_set ?_ ?_ _; focus (dsimp only; omega)) | (with_reducible apply bw_behind; with_reducible assumption)))) | ((with_reducible refine (Cc3.out _ ?_).mono ?_); (refine hT.behind ?_; repeat (first | with_reducible assumption | with_reducible exact Below.refl _ _ | with_reducible refine Below.drew ?_ | with_reducible refine below_drewN ?_ _ | with_reducible refine bw_alloc ?_ _ | (with_reducible refine bw_set ?_ ?_ _; focus (dsimp only; omega)) | (with_reducible apply bw_behind; with_reducible assumption))))); rintro e wq0 ⟨rfl, hbq0⟩; have hrq0 := below_reads hbq0; have hhq0 := below_holds hbq0; obtain ⟨mq0, hsq0⟩ := below_grew hbq0) | (go_at_call 9; (first | ((with_reducible refine (Cc2.out _ ?_).mono ?_); (refine hT.behind ?_; repeat (first | with_reducible assumption | with_reducible exact Below.refl _ _ | with_reducible refine Below.drew ?_ | with_reducible refine below_drewN ?_ _ | with_reducible refine bw_alloc ?_ _ | (with_reducible refine bw_set ?_ ?_ _; focus (dsimp only; omega)) | (with_reducible apply bw_behind; with_reducible assumption)))) | ((with_reducible refine (Cc5.out _ ?_).mono ?_); (refine hT.behind ?_; repeat (first | with_reducible assumption | with_reducible exact Below.refl _ _ | with_reducible refine Below.drew ?_ | with_reducible refine below_drewN ?_ _ | with_reducible refine bw_alloc ?_ _ | (with_reducible refine bw_set ?_ ?_ _; focus (dsimp only; omega)) | (with_reducible apply bw_behind; with_reducible assumption))))); rintro e wq1 ⟨rfl, hbq1⟩; have hrq1 := below_reads hbq1; have hhq1 := below_holds hbq1; obtain ⟨mq1, hsq1⟩ := below_grew hbq1) | (go_at_call 12; (first | ((with_reducible refine (Cc4.out _ ?_).mono ?_); (refine hT.behind ?_; repeat (first | with_reducible assumption | with_reducible exact Below.refl _ _ | with_reducible refine Below.drew ?_ | with_reducible refine below_drewN ?_ _ | with_reducible refine bw_alloc ?_ _ | (with_reducible refine bw_set ?_ ?_ _; focus (dsimp only; omega)) | (with_reducible apply bw_behind; with_reducible assumption))))); rintro e wq2 ⟨rfl, hbq2⟩; have hrq2 := below_reads hbq2; have hhq2 := below_holds hbq2; obtain ⟨mq2, hsq2⟩ := below_grew hbq2) | (go_at_call 14; (first | ((with_reducible refine (Cc7.out _ ?_).mono ?_); (refine hT.behind ?_; repeat (first | with_reducible assumption | with_reducible exact Below.refl _ _ | with_reducible refine Below.drew ?_ | with_reducible refine below_drewN ?_ _ | with_reducible refine bw_alloc ?_ _ | (with_reducible refine bw_set ?_ ?_ _; focus (dsimp only; omega)) | (with_reducible apply bw_behind; with_reducible assumption))))); rintro e wq3 ⟨rfl, hbq3⟩; have hrq3 := below_reads hbq3; have hhq3 := below_holds hbq3; obtain ⟨mq3, hsq3⟩ := below_grew hbq3) | (go_at_call 13; (first | ((with_reducible refine (Cc8.out _ ?_).mono ?_); (refine hT.behind ?_; repeat (first | with_reducible assumption | with_reducible exact Below.refl _ _ | with_reducible refine Below.drew ?_ | with_reducible refine below_drewN ?_ _ | with_reducible refine bw_alloc ?_ _ | (with_reducible refine bw_set ?_ ?_ _; focus (dsimp only; omega)) | (with_reducible apply bw_behind; with_reducible assumption))))); rintro e wq4 ⟨rfl, hbq4⟩; have hrq4 := below_reads hbq4; have hhq4 := below_holds hbq4; obtain ⟨mq4, hsq4⟩ := below_grew hbq4) | (go_at_call 11; (first | ((with_reducible refine (Cc9.out _ ?_).mono ?_); (refine hT.behind ?_; repeat (first | with_reducible assumption | with_reducible exact Below.refl _ _ | with_reducible refine Below.drew ?_ | with_reducible refine below_drewN ?_ _ | with_reducible refine bw_alloc ?_ _ | (with_reducible refine bw_set ?_ ?_ _; focus (dsimp only; omega)) | (with_reducible apply bw_behind; with_reducible assumption))))); rintro e wq5 ⟨rfl, hbq5⟩; have hrq5 := below_reads hbq5; have hhq5 := below_holds hbq5; obtain ⟨mq5, hsq5⟩ := below_grew hbq5))

  refine wp_abs (fun W => Tab2 W ∧ Below w.heap.size w W ∧ W.cell? ⟨w.heap.size, 0, none⟩ = some (.int .i64 K)) ?_ ?_
  · refine ⟨?_, ?_, ?_⟩
    all_goals (first | with_reducible assumption | ((repeat (first | with_reducible assumption | with_reducible refine c_dr _ ?_ | with_reducible refine c_d1 ?_ | with_reducible refine c_al _ ?_ | (with_reducible refine c_set ?_ ?_; focus (dsimp only; omega)) | (with_reducible apply c_be; with_reducible assumption))); done) | ((repeat (first | with_reducible assumption | with_reducible refine o_dr _ ?_ | with_reducible refine o_d1 ?_ | with_reducible refine o_set ?_ | (with_reducible refine o_new ?_ ?_; (focus (simp)); (focus (simp))) | with_reducible refine o_al _ ?_ | (with_reducible apply o_be; with_reducible assumption))); done) | ((repeat (first | with_reducible assumption | with_reducible exact Below.refl _ _ | with_reducible refine Below.drew ?_ | with_reducible refine below_drewN ?_ _ | with_reducible refine bw_alloc ?_ _ | (with_reducible refine bw_set ?_ ?_ _; focus (dsimp only; omega)) | (with_reducible apply bw_behind; with_reducible assumption))); done) | (refine hT.behind ?_; (repeat (first | with_reducible assumption | with_reducible exact Below.refl _ _ | with_reducible refine Below.drew ?_ | with_reducible refine below_drewN ?_ _ | with_reducible refine bw_alloc ?_ _ | (with_reducible refine bw_set ?_ ?_ _; focus (dsimp only; omega)) | (with_reducible apply bw_behind; with_reducible assumption))); done) | (simp [go_sem, *]; omega) | (simp (maxDischargeDepth := 4) [go_sem, *]; done))
  rintro w0 ⟨hT0, hB0, c0⟩
  have y0 := behind_cell0 c0
  have hsome := Behind.any w0
  clear c0
  refine wp_region_behind w0 (by kernel_rfl) (by kernel_rfl) (Below.refl _ _) ?_
  repeat (go_big_quiet_step (first | (go_at_call 14; with_reducible first | exact behind_call Cc7.out hT0 _) | (go_at_call 13; with_reducible first | exact behind_call Cc8.out hT0 _) | (go_at_call 12; with_reducible first | exact behind_call Cc4.out hT0 _) | (go_at_call 11; with_reducible first | exact behind_call Cc9.out hT0 _)))
  refine wpQuiet_nil ?_
  rintro _ ⟨y, rfl⟩
  have hTy := hT0.behind y.below
  have hBy := bw_behind y.below hB0
  have x0 := y0 y
  clear hsome y0
  obtain ⟨w1, hw1⟩ : ∃ W, W = y.world := ⟨_, rfl⟩
  rw [← hw1] at hTy hBy x0 ⊢
  clear hw1 y hT0 hB0
  go_wp2
  go_ret
  refine ⟨rfl, ?_⟩
  repeat (first | with_reducible assumption | with_reducible exact Below.refl _ _ | with_reducible refine Below.drew ?_ | with_reducible refine below_drewN ?_ _ | with_reducible refine bw_alloc ?_ _ | (with_reducible refine bw_set ?_ ?_ _; focus (dsimp only; omega)) | (with_reducible apply bw_behind; with_reducible assumption))

set_option maxRecDepth 100000 in
set_option maxHeartbeats 8000000 in
theorem walk_Xt (K a b c m X Y S d0 d1 d2 d3 e0 e1 e2 e3 e4 : Int) (T : ByteArray) (c1 : ∀ W, Tab2 W → Calls Tryd.prog 7 #[.agg #[.int .i64 K, .int .i64 a, .int .i64 b, .int .i64 c, .int .i64 m]] W (Makes (.tuple #[.int .u32 Y, .bool true]) W)) (c2 : ∀ W, Tab2 W → Calls Tryd.prog 9 #[.int .u32 Y] W (Makes (.tuple #[.agg #[.int .i64 K, .int .i64 d0, .int .i64 d1, .int .i64 d2, .int .i64 d3], .bool true]) W)) (c3 : ∀ W, Tab2 W → Calls Tryd.prog 7 #[.agg #[.int .i64 K, .int .i64 d0, .int .i64 d1, .int .i64 d2, .int .i64 d3]] W (Makes (.tuple #[.int .u32 Y, .bool true]) W)) (c4 : ∀ W, Tab2 W → Calls Tryd.prog 12 #[.int .i64 K] W (Makes (.int .u8 S) W)) (c5 : ∀ W, Tab2 W → Calls Tryd.prog 9 #[.int .u32 X] W (Makes (.tuple #[.agg #[.int .i64 e0, .int .i64 e1, .int .i64 e2, .int .i64 e3, .int .i64 e4], .bool true]) W)) (c6 : ∀ W, Tab2 W → Calls Tryd.prog 7 #[.agg #[.int .i64 e0, .int .i64 e1, .int .i64 e2, .int .i64 e3, .int .i64 e4]] W (Makes (.tuple #[.int .u32 X, .bool true]) W)) (c7 : ∀ W, Tab2 W → Calls Tryd.prog 14 #[.int .i64 K] W (Makes (.string T) W)) (c8 : ∀ W, Tab2 W → Calls Tryd.prog 13 #[.string T] W (Makes (.int .i64 K) W)) (c9 : ∀ W, Tab2 W → Calls Tryd.prog 11 #[] W (Makes (.bool true) W)) (hk : (K == 0) = false) (hs : (S == 0) = false) (h1 : (S == 82) = false) (h2 : (S == 73) = false) (h3 : (S == 66) = false) (w : World) (hT : Tab2 w) :
    Calls Tryd.prog 4 #[.agg #[.int .i64 K, .int .i64 a, .int .i64 b, .int .i64 c, .int .i64 m], .int .u32 X] w (Makes (.bool true) w) := by
  have Cc1 := hide c1
  have Cc2 := hide c2
  have Cc3 := hide c3
  have Cc4 := hide c4
  have Cc5 := hide c5
  have Cc6 := hide c6
  have Cc7 := hide c7
  have Cc8 := hide c8
  have Cc9 := hide c9
  clear c1 c2 c3 c4 c5 c6 c7 c8 c9
  have SS := cell_same
  have LB' := ltB_add
  have LS := ltB_self
  have LA' := alloc_reads
  have LH := alloc_holds
  go_enter Tryd.func4, Tryd.ntmps4
  go_upto_region 15 with (first | (go_at_call 7; (first | ((with_reducible refine (Cc1.out _ ?_).mono ?_); (refine hT.behind ?_; repeat (first | with_reducible assumption | with_reducible exact Below.refl _ _ | with_reducible refine Below.drew ?_ | with_reducible refine below_drewN ?_ _ | with_reducible refine bw_alloc ?_ _ | (with_reducible refine bw_set ?_ ?_ _; focus (dsimp only; omega)) | (with_reducible apply bw_behind; with_reducible assumption)))) | ((with_reducible refine (Cc3.out _ ?_).mono ?_); (refine hT.behind ?_; repeat (first | with_reducible assumption | with_reducible exact Below.refl _ _ | with_reducible refine Below.drew ?_ | with_reducible refine below_drewN ?_ _ | with_reducible refine bw_alloc ?_ _ | (with_reducible refine bw_set ?_ ?_ _; focus (dsimp only; omega)) | (with_reducible apply bw_behind; with_reducible assumption)))) | ((with_reducible refine (Cc6.out _ ?_).mono ?_); (refine hT.behind ?_; repeat (first | with_reducible assumption | with_reducible exact Below.refl _ _ | with_reducible refine Below.drew ?_ | with_reducible refine below_drewN ?_ _ | with_reducible refine bw_alloc ?_ _ | (with_reducible refine bw_set ?_ ?_ _; focus (dsimp only; omega)) | (with_reducible apply bw_behind; with_reducible assumption))))); rintro e wq0 ⟨rfl, hbq0⟩; have hrq0 := below_reads hbq0; have hhq0 := below_holds hbq0; obtain ⟨mq0, hsq0⟩ := below_grew hbq0) | (go_at_call 9; (first | ((with_reducible refine (Cc2.out _ ?_).mono ?_); (refine hT.behind ?_; repeat (first | with_reducible assumption | with_reducible exact Below.refl _ _ | with_reducible refine Below.drew ?_ | with_reducible refine below_drewN ?_ _ | with_reducible refine bw_alloc ?_ _ | (with_reducible refine bw_set ?_ ?_ _; focus (dsimp only; omega)) | (with_reducible apply bw_behind; with_reducible assumption)))) | ((with_reducible refine (Cc5.out _ ?_).mono ?_); (refine hT.behind ?_; repeat (first | with_reducible assumption | with_reducible exact Below.refl _ _ | with_reducible refine Below.drew ?_ | with_reducible refine below_drewN ?_ _ | with_reducible refine bw_alloc ?_ _ | (with_reducible refine bw_set ?_ ?_ _; focus (dsimp only; omega)) | (with_reducible apply bw_behind; with_reducible assumption))))); rintro e wq1 ⟨rfl, hbq1⟩; have hrq1 := below_reads hbq1; have hhq1 := below_holds hbq1; obtain ⟨mq1, hsq1⟩ := below_grew hbq1) | (go_at_call 12; (first | ((with_reducible refine (Cc4.out _ ?_).mono ?_); (refine hT.behind ?_; repeat (first | with_reducible assumption | with_reducible exact Below.refl _ _ | with_reducible refine Below.drew ?_ | with_reducible refine below_drewN ?_ _ | with_reducible refine bw_alloc ?_ _ | (with_reducible refine bw_set ?_ ?_ _; focus (dsimp only; omega)) | (with_reducible apply bw_behind; with_reducible assumption))))); rintro e wq2 ⟨rfl, hbq2⟩; have hrq2 := below_reads hbq2; have hhq2 := below_holds hbq2; obtain ⟨mq2, hsq2⟩ := below_grew hbq2) | (go_at_call 14; (first | ((with_reducible refine (Cc7.out _ ?_).mono ?_); (refine hT.behind ?_; repeat (first | with_reducible assumption | with_reducible exact Below.refl _ _ | with_reducible refine Below.drew ?_ | with_reducible refine below_drewN ?_ _ | with_reducible refine bw_alloc ?_ _ | (with_reducible refine bw_set ?_ ?_ _; focus (dsimp only; omega)) | (with_reducible apply bw_behind; with_reducible assumption))))); rintro e wq3 ⟨rfl, hbq3⟩; have hrq3 := below_reads hbq3; have hhq3 := below_holds hbq3; obtain ⟨mq3, hsq3⟩ := below_grew hbq3) | (go_at_call 13; (first | ((with_reducible refine (Cc8.out _ ?_).mono ?_); (refine hT.behind ?_; repeat (first | with_reducible assumption | with_reducible exact Below.refl _ _ | with_reducible refine Below.drew ?_ | with_reducible refine below_drewN ?_ _ | with_reducible refine bw_alloc ?_ _ | (with_reducible refine bw_set ?_ ?_ _; focus (dsimp only; omega)) | (with_reducible apply bw_behind; with_reducible assumption))))); rintro e wq4 ⟨rfl, hbq4⟩; have hrq4 := below_reads hbq4; have hhq4 := below_holds hbq4; obtain ⟨mq4, hsq4⟩ := below_grew hbq4) | (go_at_call 11; (first | ((with_reducible refine (Cc9.out _ ?_).mono ?_); (refine hT.behind ?_; repeat (first | with_reducible assumption | with_reducible exact Below.refl _ _ | with_reducible refine Below.drew ?_ | with_reducible refine below_drewN ?_ _ | with_reducible refine bw_alloc ?_ _ | (with_reducible refine bw_set ?_ ?_ _; focus (dsimp only; omega)) | (with_reducible apply bw_behind; with_reducible assumption))))); rintro e wq5 ⟨rfl, hbq5⟩; have hrq5 := below_reads hbq5; have hhq5 := below_holds hbq5; obtain ⟨mq5, hsq5⟩ := below_grew hbq5))

  refine wp_abs (fun W => Tab2 W ∧ Below w.heap.size w W ∧ W.cell? ⟨w.heap.size, 0, none⟩ = some (.int .i64 K)) ?_ ?_
  · refine ⟨?_, ?_, ?_⟩
    all_goals (first | with_reducible assumption | ((repeat (first | with_reducible assumption | with_reducible refine c_dr _ ?_ | with_reducible refine c_d1 ?_ | with_reducible refine c_al _ ?_ | (with_reducible refine c_set ?_ ?_; focus (dsimp only; omega)) | (with_reducible apply c_be; with_reducible assumption))); done) | ((repeat (first | with_reducible assumption | with_reducible refine o_dr _ ?_ | with_reducible refine o_d1 ?_ | with_reducible refine o_set ?_ | (with_reducible refine o_new ?_ ?_; (focus (simp)); (focus (simp))) | with_reducible refine o_al _ ?_ | (with_reducible apply o_be; with_reducible assumption))); done) | ((repeat (first | with_reducible assumption | with_reducible exact Below.refl _ _ | with_reducible refine Below.drew ?_ | with_reducible refine below_drewN ?_ _ | with_reducible refine bw_alloc ?_ _ | (with_reducible refine bw_set ?_ ?_ _; focus (dsimp only; omega)) | (with_reducible apply bw_behind; with_reducible assumption))); done) | (refine hT.behind ?_; (repeat (first | with_reducible assumption | with_reducible exact Below.refl _ _ | with_reducible refine Below.drew ?_ | with_reducible refine below_drewN ?_ _ | with_reducible refine bw_alloc ?_ _ | (with_reducible refine bw_set ?_ ?_ _; focus (dsimp only; omega)) | (with_reducible apply bw_behind; with_reducible assumption))); done) | (simp [go_sem, *]; omega) | (simp (maxDischargeDepth := 4) [go_sem, *]; done))
  rintro w0 ⟨hT0, hB0, c0⟩
  have y0 := behind_cell0 c0
  have hsome := Behind.any w0
  clear c0
  refine wp_region_behind w0 (by kernel_rfl) (by kernel_rfl) (Below.refl _ _) ?_
  repeat (go_big_quiet_step (first | (go_at_call 14; with_reducible first | exact behind_call Cc7.out hT0 _) | (go_at_call 13; with_reducible first | exact behind_call Cc8.out hT0 _) | (go_at_call 12; with_reducible first | exact behind_call Cc4.out hT0 _) | (go_at_call 11; with_reducible first | exact behind_call Cc9.out hT0 _)))
  refine wpQuiet_nil ?_
  rintro _ ⟨y, rfl⟩
  have hTy := hT0.behind y.below
  have hBy := bw_behind y.below hB0
  have x0 := y0 y
  clear hsome y0
  obtain ⟨w1, hw1⟩ : ∃ W, W = y.world := ⟨_, rfl⟩
  rw [← hw1] at hTy hBy x0 ⊢
  clear hw1 y hT0 hB0
  go_wp2
  go_ret
  refine ⟨rfl, ?_⟩
  repeat (first | with_reducible assumption | with_reducible exact Below.refl _ _ | with_reducible refine Below.drew ?_ | with_reducible refine below_drewN ?_ _ | with_reducible refine bw_alloc ?_ _ | (with_reducible refine bw_set ?_ ?_ _; focus (dsimp only; omega)) | (with_reducible apply bw_behind; with_reducible assumption))

set_option maxRecDepth 100000 in
set_option maxHeartbeats 8000000 in
theorem walk_Xf (K a b c m X Y S d0 d1 d2 d3 e0 e1 e2 e3 e4 : Int) (T : ByteArray) (c1 : ∀ W, Tab2 W → Calls Tryd.prog 7 #[.agg #[.int .i64 K, .int .i64 a, .int .i64 b, .int .i64 c, .int .i64 m]] W (Makes (.tuple #[.int .u32 Y, .bool true]) W)) (c2 : ∀ W, Tab2 W → Calls Tryd.prog 9 #[.int .u32 Y] W (Makes (.tuple #[.agg #[.int .i64 K, .int .i64 d0, .int .i64 d1, .int .i64 d2, .int .i64 d3], .bool true]) W)) (c3 : ∀ W, Tab2 W → Calls Tryd.prog 7 #[.agg #[.int .i64 K, .int .i64 d0, .int .i64 d1, .int .i64 d2, .int .i64 d3]] W (Makes (.tuple #[.int .u32 Y, .bool true]) W)) (c4 : ∀ W, Tab2 W → Calls Tryd.prog 12 #[.int .i64 K] W (Makes (.int .u8 S) W)) (c5 : ∀ W, Tab2 W → Calls Tryd.prog 9 #[.int .u32 X] W (Makes (.tuple #[.agg #[.int .i64 e0, .int .i64 e1, .int .i64 e2, .int .i64 e3, .int .i64 e4], .bool false]) W)) (c7 : ∀ W, Tab2 W → Calls Tryd.prog 14 #[.int .i64 K] W (Makes (.string T) W)) (c8 : ∀ W, Tab2 W → Calls Tryd.prog 13 #[.string T] W (Makes (.int .i64 K) W)) (c9 : ∀ W, Tab2 W → Calls Tryd.prog 11 #[] W (Makes (.bool true) W)) (hk : (K == 0) = false) (hs : (S == 0) = false) (h1 : (S == 82) = false) (h2 : (S == 73) = false) (h3 : (S == 66) = false) (w : World) (hT : Tab2 w) :
    Calls Tryd.prog 4 #[.agg #[.int .i64 K, .int .i64 a, .int .i64 b, .int .i64 c, .int .i64 m], .int .u32 X] w (Makes (.bool true) w) := by
  have Cc1 := hide c1
  have Cc2 := hide c2
  have Cc3 := hide c3
  have Cc4 := hide c4
  have Cc5 := hide c5
  have Cc7 := hide c7
  have Cc8 := hide c8
  have Cc9 := hide c9
  clear c1 c2 c3 c4 c5 c7 c8 c9
  have SS := cell_same
  have LB' := ltB_add
  have LS := ltB_self
  have LA' := alloc_reads
  have LH := alloc_holds
  go_enter Tryd.func4, Tryd.ntmps4
  go_upto_region 15 with (first | (go_at_call 7; (first | ((with_reducible refine (Cc1.out _ ?_).mono ?_); (refine hT.behind ?_; repeat (first | with_reducible assumption | with_reducible exact Below.refl _ _ | with_reducible refine Below.drew ?_ | with_reducible refine below_drewN ?_ _ | with_reducible refine bw_alloc ?_ _ | (with_reducible refine bw_set ?_ ?_ _; focus (dsimp only; omega)) | (with_reducible apply bw_behind; with_reducible assumption)))) | ((with_reducible refine (Cc3.out _ ?_).mono ?_); (refine hT.behind ?_; repeat (first | with_reducible assumption | with_reducible exact Below.refl _ _ | with_reducible refine Below.drew ?_ | with_reducible refine below_drewN ?_ _ | with_reducible refine bw_alloc ?_ _ | (with_reducible refine bw_set ?_ ?_ _; focus (dsimp only; omega)) | (with_reducible apply bw_behind; with_reducible assumption))))); rintro e wq0 ⟨rfl, hbq0⟩; have hrq0 := below_reads hbq0; have hhq0 := below_holds hbq0; obtain ⟨mq0, hsq0⟩ := below_grew hbq0) | (go_at_call 9; (first | ((with_reducible refine (Cc2.out _ ?_).mono ?_); (refine hT.behind ?_; repeat (first | with_reducible assumption | with_reducible exact Below.refl _ _ | with_reducible refine Below.drew ?_ | with_reducible refine below_drewN ?_ _ | with_reducible refine bw_alloc ?_ _ | (with_reducible refine bw_set ?_ ?_ _; focus (dsimp only; omega)) | (with_reducible apply bw_behind; with_reducible assumption)))) | ((with_reducible refine (Cc5.out _ ?_).mono ?_); (refine hT.behind ?_; repeat (first | with_reducible assumption | with_reducible exact Below.refl _ _ | with_reducible refine Below.drew ?_ | with_reducible refine below_drewN ?_ _ | with_reducible refine bw_alloc ?_ _ | (with_reducible refine bw_set ?_ ?_ _; focus (dsimp only; omega)) | (with_reducible apply bw_behind; with_reducible assumption))))); rintro e wq1 ⟨rfl, hbq1⟩; have hrq1 := below_reads hbq1; have hhq1 := below_holds hbq1; obtain ⟨mq1, hsq1⟩ := below_grew hbq1) | (go_at_call 12; (first | ((with_reducible refine (Cc4.out _ ?_).mono ?_); (refine hT.behind ?_; repeat (first | with_reducible assumption | with_reducible exact Below.refl _ _ | with_reducible refine Below.drew ?_ | with_reducible refine below_drewN ?_ _ | with_reducible refine bw_alloc ?_ _ | (with_reducible refine bw_set ?_ ?_ _; focus (dsimp only; omega)) | (with_reducible apply bw_behind; with_reducible assumption))))); rintro e wq2 ⟨rfl, hbq2⟩; have hrq2 := below_reads hbq2; have hhq2 := below_holds hbq2; obtain ⟨mq2, hsq2⟩ := below_grew hbq2) | (go_at_call 14; (first | ((with_reducible refine (Cc7.out _ ?_).mono ?_); (refine hT.behind ?_; repeat (first | with_reducible assumption | with_reducible exact Below.refl _ _ | with_reducible refine Below.drew ?_ | with_reducible refine below_drewN ?_ _ | with_reducible refine bw_alloc ?_ _ | (with_reducible refine bw_set ?_ ?_ _; focus (dsimp only; omega)) | (with_reducible apply bw_behind; with_reducible assumption))))); rintro e wq3 ⟨rfl, hbq3⟩; have hrq3 := below_reads hbq3; have hhq3 := below_holds hbq3; obtain ⟨mq3, hsq3⟩ := below_grew hbq3) | (go_at_call 13; (first | ((with_reducible refine (Cc8.out _ ?_).mono ?_); (refine hT.behind ?_; repeat (first | with_reducible assumption | with_reducible exact Below.refl _ _ | with_reducible refine Below.drew ?_ | with_reducible refine below_drewN ?_ _ | with_reducible refine bw_alloc ?_ _ | (with_reducible refine bw_set ?_ ?_ _; focus (dsimp only; omega)) | (with_reducible apply bw_behind; with_reducible assumption))))); rintro e wq4 ⟨rfl, hbq4⟩; have hrq4 := below_reads hbq4; have hhq4 := below_holds hbq4; obtain ⟨mq4, hsq4⟩ := below_grew hbq4) | (go_at_call 11; (first | ((with_reducible refine (Cc9.out _ ?_).mono ?_); (refine hT.behind ?_; repeat (first | with_reducible assumption | with_reducible exact Below.refl _ _ | with_reducible refine Below.drew ?_ | with_reducible refine below_drewN ?_ _ | with_reducible refine bw_alloc ?_ _ | (with_reducible refine bw_set ?_ ?_ _; focus (dsimp only; omega)) | (with_reducible apply bw_behind; with_reducible assumption))))); rintro e wq5 ⟨rfl, hbq5⟩; have hrq5 := below_reads hbq5; have hhq5 := below_holds hbq5; obtain ⟨mq5, hsq5⟩ := below_grew hbq5))

  refine wp_abs (fun W => Tab2 W ∧ Below w.heap.size w W ∧ W.cell? ⟨w.heap.size, 0, none⟩ = some (.int .i64 K)) ?_ ?_
  · refine ⟨?_, ?_, ?_⟩
    all_goals (first | with_reducible assumption | ((repeat (first | with_reducible assumption | with_reducible refine c_dr _ ?_ | with_reducible refine c_d1 ?_ | with_reducible refine c_al _ ?_ | (with_reducible refine c_set ?_ ?_; focus (dsimp only; omega)) | (with_reducible apply c_be; with_reducible assumption))); done) | ((repeat (first | with_reducible assumption | with_reducible refine o_dr _ ?_ | with_reducible refine o_d1 ?_ | with_reducible refine o_set ?_ | (with_reducible refine o_new ?_ ?_; (focus (simp)); (focus (simp))) | with_reducible refine o_al _ ?_ | (with_reducible apply o_be; with_reducible assumption))); done) | ((repeat (first | with_reducible assumption | with_reducible exact Below.refl _ _ | with_reducible refine Below.drew ?_ | with_reducible refine below_drewN ?_ _ | with_reducible refine bw_alloc ?_ _ | (with_reducible refine bw_set ?_ ?_ _; focus (dsimp only; omega)) | (with_reducible apply bw_behind; with_reducible assumption))); done) | (refine hT.behind ?_; (repeat (first | with_reducible assumption | with_reducible exact Below.refl _ _ | with_reducible refine Below.drew ?_ | with_reducible refine below_drewN ?_ _ | with_reducible refine bw_alloc ?_ _ | (with_reducible refine bw_set ?_ ?_ _; focus (dsimp only; omega)) | (with_reducible apply bw_behind; with_reducible assumption))); done) | (simp [go_sem, *]; omega) | (simp (maxDischargeDepth := 4) [go_sem, *]; done))
  rintro w0 ⟨hT0, hB0, c0⟩
  have y0 := behind_cell0 c0
  have hsome := Behind.any w0
  clear c0
  refine wp_region_behind w0 (by kernel_rfl) (by kernel_rfl) (Below.refl _ _) ?_
  repeat (go_big_quiet_step (first | (go_at_call 14; with_reducible first | exact behind_call Cc7.out hT0 _) | (go_at_call 13; with_reducible first | exact behind_call Cc8.out hT0 _) | (go_at_call 12; with_reducible first | exact behind_call Cc4.out hT0 _) | (go_at_call 11; with_reducible first | exact behind_call Cc9.out hT0 _)))
  refine wpQuiet_nil ?_
  rintro _ ⟨y, rfl⟩
  have hTy := hT0.behind y.below
  have hBy := bw_behind y.below hB0
  have x0 := y0 y
  clear hsome y0
  obtain ⟨w1, hw1⟩ : ∃ W, W = y.world := ⟨_, rfl⟩
  rw [← hw1] at hTy hBy x0 ⊢
  clear hw1 y hT0 hB0
  go_wp2
  go_ret
  refine ⟨rfl, ?_⟩
  repeat (first | with_reducible assumption | with_reducible exact Below.refl _ _ | with_reducible refine Below.drew ?_ | with_reducible refine below_drewN ?_ _ | with_reducible refine bw_alloc ?_ _ | (with_reducible refine bw_set ?_ ?_ _; focus (dsimp only; omega)) | (with_reducible apply bw_behind; with_reducible assumption))
end Go.Proofs.YtdgkadoebcdmeaaDoor.InstBack
