/-
  InstCodes holds: for every i and w the law returns true and turns nothing that was there, where the tables of words hold what the program's text lays.
-/
import Derived.Test.YtdgkadoebcdmeaaDoorInstRdec
namespace Go.Proofs.YtdgkadoebcdmeaaDoor.InstCodes
open Go.RowKit Words FieldMath InstMath

set_option maxRecDepth 100000 in
set_option maxHeartbeats 2000000 in
theorem renc_lo (K a b c m : Int) (hK : K < 1) (w : World) : Calls Tryd.prog 8 #[.agg #[.int .i64 K, .int .i64 a, .int .i64 b, .int .i64 c, .int .i64 m]] w (Makes (.tuple #[.int .u32 0, .bool false]) w) := by
  have SS := cell_same
  have LB' := ltB_add
  have LS := ltB_self
  have LA' := alloc_reads
  have LH := alloc_holds
  go_enter Tryd.func8, Tryd.ntmps8
  go_wp2_with (first | (go_at_call 18; (with_reducible refine (rows_any _).mono ?_); rintro e wa ⟨N, rfl, hN, hba, hRa⟩; have hra := below_reads hba; have hha := below_holds hba; obtain ⟨ma, hsa⟩ := below_grew hba))
  refine bodyPost_ret (v := .tuple #[.int .u32 0, .bool false]) (by simp (maxDischargeDepth := 4) [results, Tryd.results8, go_sem, *]) rfl ?_
  refine ⟨rfl, ?_⟩
  repeat (first | with_reducible assumption | with_reducible exact Below.refl _ _ | with_reducible refine Below.drew ?_ | with_reducible refine below_drewN ?_ _ | with_reducible refine bw_alloc ?_ _ | (with_reducible refine bw_set ?_ ?_ _; focus (dsimp only; omega)) | (with_reducible apply bw_behind; with_reducible assumption))

set_option maxRecDepth 100000 in
set_option maxHeartbeats 2000000 in
theorem renc_hi (K a b c m : Int) (hK : 69 < K) (w : World) : Calls Tryd.prog 8 #[.agg #[.int .i64 K, .int .i64 a, .int .i64 b, .int .i64 c, .int .i64 m]] w (Makes (.tuple #[.int .u32 0, .bool false]) w) := by
  have SS := cell_same
  have LB' := ltB_add
  have LS := ltB_self
  have LA' := alloc_reads
  have LH := alloc_holds
  go_enter Tryd.func8, Tryd.ntmps8
  go_wp2_with (first | (go_at_call 18; (with_reducible refine (rows_any _).mono ?_); rintro e wa ⟨N, rfl, hN, hba, hRa⟩; have hra := below_reads hba; have hha := below_holds hba; obtain ⟨ma, hsa⟩ := below_grew hba))
  refine bodyPost_ret (v := .tuple #[.int .u32 0, .bool false]) (by simp (maxDischargeDepth := 4) [results, Tryd.results8, go_sem, *]) rfl ?_
  refine ⟨rfl, ?_⟩
  repeat (first | with_reducible assumption | with_reducible exact Below.refl _ _ | with_reducible refine Below.drew ?_ | with_reducible refine below_drewN ?_ _ | with_reducible refine bw_alloc ?_ _ | (with_reducible refine bw_set ?_ ?_ _; focus (dsimp only; omega)) | (with_reducible apply bw_behind; with_reducible assumption))

set_option maxHeartbeats 4000000 in
theorem walk_tt (K a b c m WX X d0 d1 d2 d3 d4 : Int)  (g1 : ∀ W, TabW W → Calls Tryd.prog 7 #[.agg #[.int .i64 K, .int .i64 a, .int .i64 b, .int .i64 c, .int .i64 m]] W (Makes (.tuple #[.int .u32 X, .bool true]) W)) (g2 : ∀ W, TabW W → Calls Tryd.prog 8 #[.agg #[.int .i64 K, .int .i64 a, .int .i64 b, .int .i64 c, .int .i64 m]] W (Makes (.tuple #[.int .u32 X, .bool true]) W)) (g3 : ∀ W, TabW W → Calls Tryd.prog 9 #[.int .u32 WX] W (Makes (.tuple #[.agg #[.int .i64 d0, .int .i64 d1, .int .i64 d2, .int .i64 d3, .int .i64 d4], .bool true]) W)) (g4 : ∀ W, TabW W → Calls Tryd.prog 10 #[.int .u32 WX] W (Makes (.tuple #[.agg #[.int .i64 d0, .int .i64 d1, .int .i64 d2, .int .i64 d3, .int .i64 d4], .bool true]) W)) (g9 : ∀ W, TabW W → Calls Tryd.prog 11 #[] W (Makes (.bool true) W)) (w : World) (hT : TabW w) :
    Calls Tryd.prog 3 #[.agg #[.int .i64 K, .int .i64 a, .int .i64 b, .int .i64 c, .int .i64 m], .int .u32 WX] w (Makes (.bool true) w) := by
  have Cg1 := hide g1
  have Cg2 := hide g2
  have Cg3 := hide g3
  have Cg4 := hide g4
  have Cg9 := hide g9
  clear g1 g2 g3 g4 g9
  have E0 := eq_r d0 d1 d2 d3 d4 d0 d1 d2 d3 d4
  rw [show same5 d0 d1 d2 d3 d4 d0 d1 d2 d3 d4 = true by simp [same5]] at E0
  have SS := cell_same
  have LB' := ltB_add
  have LS := ltB_self
  have LA' := alloc_reads
  have LH := alloc_holds
  go_enter Tryd.func3, Tryd.ntmps3
  go_wp2_with (first | (go_at_call 7; (first | ((with_reducible refine (Cg1.out _ ?_).mono ?_); (refine hT.behind ?_; repeat (first | with_reducible assumption | with_reducible exact Below.refl _ _ | with_reducible refine Below.drew ?_ | with_reducible refine below_drewN ?_ _ | with_reducible refine bw_alloc ?_ _ | (with_reducible refine bw_set ?_ ?_ _; focus (dsimp only; omega)) | (with_reducible apply bw_behind; with_reducible assumption))))); rintro e wq0 ⟨rfl, hbq0⟩; have hrq0 := below_reads hbq0; have hhq0 := below_holds hbq0; obtain ⟨mq0, hsq0⟩ := below_grew hbq0) | (go_at_call 8; (first | ((with_reducible refine (Cg2.out _ ?_).mono ?_); (refine hT.behind ?_; repeat (first | with_reducible assumption | with_reducible exact Below.refl _ _ | with_reducible refine Below.drew ?_ | with_reducible refine below_drewN ?_ _ | with_reducible refine bw_alloc ?_ _ | (with_reducible refine bw_set ?_ ?_ _; focus (dsimp only; omega)) | (with_reducible apply bw_behind; with_reducible assumption))))); rintro e wq1 ⟨rfl, hbq1⟩; have hrq1 := below_reads hbq1; have hhq1 := below_holds hbq1; obtain ⟨mq1, hsq1⟩ := below_grew hbq1) | (go_at_call 9; (first | ((with_reducible refine (Cg3.out _ ?_).mono ?_); (refine hT.behind ?_; repeat (first | with_reducible assumption | with_reducible exact Below.refl _ _ | with_reducible refine Below.drew ?_ | with_reducible refine below_drewN ?_ _ | with_reducible refine bw_alloc ?_ _ | (with_reducible refine bw_set ?_ ?_ _; focus (dsimp only; omega)) | (with_reducible apply bw_behind; with_reducible assumption))))); rintro e wq2 ⟨rfl, hbq2⟩; have hrq2 := below_reads hbq2; have hhq2 := below_holds hbq2; obtain ⟨mq2, hsq2⟩ := below_grew hbq2) | (go_at_call 10; (first | ((with_reducible refine (Cg4.out _ ?_).mono ?_); (refine hT.behind ?_; repeat (first | with_reducible assumption | with_reducible exact Below.refl _ _ | with_reducible refine Below.drew ?_ | with_reducible refine below_drewN ?_ _ | with_reducible refine bw_alloc ?_ _ | (with_reducible refine bw_set ?_ ?_ _; focus (dsimp only; omega)) | (with_reducible apply bw_behind; with_reducible assumption))))); rintro e wq3 ⟨rfl, hbq3⟩; have hrq3 := below_reads hbq3; have hhq3 := below_holds hbq3; obtain ⟨mq3, hsq3⟩ := below_grew hbq3) | (go_at_call 11; (first | ((with_reducible refine (Cg9.out _ ?_).mono ?_); (refine hT.behind ?_; repeat (first | with_reducible assumption | with_reducible exact Below.refl _ _ | with_reducible refine Below.drew ?_ | with_reducible refine below_drewN ?_ _ | with_reducible refine bw_alloc ?_ _ | (with_reducible refine bw_set ?_ ?_ _; focus (dsimp only; omega)) | (with_reducible apply bw_behind; with_reducible assumption))))); rintro e wq4 ⟨rfl, hbq4⟩; have hrq4 := below_reads hbq4; have hhq4 := below_holds hbq4; obtain ⟨mq4, hsq4⟩ := below_grew hbq4))
  go_ret
  refine ⟨rfl, ?_⟩
  repeat (first | with_reducible assumption | with_reducible exact Below.refl _ _ | with_reducible refine Below.drew ?_ | with_reducible refine below_drewN ?_ _ | with_reducible refine bw_alloc ?_ _ | (with_reducible refine bw_set ?_ ?_ _; focus (dsimp only; omega)) | (with_reducible apply bw_behind; with_reducible assumption))

set_option maxHeartbeats 4000000 in
theorem walk_tf (K a b c m WX X d0 d1 d2 d3 d4 : Int)  (g1 : ∀ W, TabW W → Calls Tryd.prog 7 #[.agg #[.int .i64 K, .int .i64 a, .int .i64 b, .int .i64 c, .int .i64 m]] W (Makes (.tuple #[.int .u32 X, .bool true]) W)) (g2 : ∀ W, TabW W → Calls Tryd.prog 8 #[.agg #[.int .i64 K, .int .i64 a, .int .i64 b, .int .i64 c, .int .i64 m]] W (Makes (.tuple #[.int .u32 X, .bool true]) W)) (g3 : ∀ W, TabW W → Calls Tryd.prog 9 #[.int .u32 WX] W (Makes (.tuple #[.agg #[.int .i64 d0, .int .i64 d1, .int .i64 d2, .int .i64 d3, .int .i64 d4], .bool false]) W)) (g4 : ∀ W, TabW W → Calls Tryd.prog 10 #[.int .u32 WX] W (Makes (.tuple #[.agg #[.int .i64 d0, .int .i64 d1, .int .i64 d2, .int .i64 d3, .int .i64 d4], .bool false]) W)) (g9 : ∀ W, TabW W → Calls Tryd.prog 11 #[] W (Makes (.bool true) W)) (w : World) (hT : TabW w) :
    Calls Tryd.prog 3 #[.agg #[.int .i64 K, .int .i64 a, .int .i64 b, .int .i64 c, .int .i64 m], .int .u32 WX] w (Makes (.bool true) w) := by
  have Cg1 := hide g1
  have Cg2 := hide g2
  have Cg3 := hide g3
  have Cg4 := hide g4
  have Cg9 := hide g9
  clear g1 g2 g3 g4 g9
  have E0 := eq_r d0 d1 d2 d3 d4 d0 d1 d2 d3 d4
  rw [show same5 d0 d1 d2 d3 d4 d0 d1 d2 d3 d4 = true by simp [same5]] at E0
  have SS := cell_same
  have LB' := ltB_add
  have LS := ltB_self
  have LA' := alloc_reads
  have LH := alloc_holds
  go_enter Tryd.func3, Tryd.ntmps3
  go_wp2_with (first | (go_at_call 7; (first | ((with_reducible refine (Cg1.out _ ?_).mono ?_); (refine hT.behind ?_; repeat (first | with_reducible assumption | with_reducible exact Below.refl _ _ | with_reducible refine Below.drew ?_ | with_reducible refine below_drewN ?_ _ | with_reducible refine bw_alloc ?_ _ | (with_reducible refine bw_set ?_ ?_ _; focus (dsimp only; omega)) | (with_reducible apply bw_behind; with_reducible assumption))))); rintro e wq0 ⟨rfl, hbq0⟩; have hrq0 := below_reads hbq0; have hhq0 := below_holds hbq0; obtain ⟨mq0, hsq0⟩ := below_grew hbq0) | (go_at_call 8; (first | ((with_reducible refine (Cg2.out _ ?_).mono ?_); (refine hT.behind ?_; repeat (first | with_reducible assumption | with_reducible exact Below.refl _ _ | with_reducible refine Below.drew ?_ | with_reducible refine below_drewN ?_ _ | with_reducible refine bw_alloc ?_ _ | (with_reducible refine bw_set ?_ ?_ _; focus (dsimp only; omega)) | (with_reducible apply bw_behind; with_reducible assumption))))); rintro e wq1 ⟨rfl, hbq1⟩; have hrq1 := below_reads hbq1; have hhq1 := below_holds hbq1; obtain ⟨mq1, hsq1⟩ := below_grew hbq1) | (go_at_call 9; (first | ((with_reducible refine (Cg3.out _ ?_).mono ?_); (refine hT.behind ?_; repeat (first | with_reducible assumption | with_reducible exact Below.refl _ _ | with_reducible refine Below.drew ?_ | with_reducible refine below_drewN ?_ _ | with_reducible refine bw_alloc ?_ _ | (with_reducible refine bw_set ?_ ?_ _; focus (dsimp only; omega)) | (with_reducible apply bw_behind; with_reducible assumption))))); rintro e wq2 ⟨rfl, hbq2⟩; have hrq2 := below_reads hbq2; have hhq2 := below_holds hbq2; obtain ⟨mq2, hsq2⟩ := below_grew hbq2) | (go_at_call 10; (first | ((with_reducible refine (Cg4.out _ ?_).mono ?_); (refine hT.behind ?_; repeat (first | with_reducible assumption | with_reducible exact Below.refl _ _ | with_reducible refine Below.drew ?_ | with_reducible refine below_drewN ?_ _ | with_reducible refine bw_alloc ?_ _ | (with_reducible refine bw_set ?_ ?_ _; focus (dsimp only; omega)) | (with_reducible apply bw_behind; with_reducible assumption))))); rintro e wq3 ⟨rfl, hbq3⟩; have hrq3 := below_reads hbq3; have hhq3 := below_holds hbq3; obtain ⟨mq3, hsq3⟩ := below_grew hbq3) | (go_at_call 11; (first | ((with_reducible refine (Cg9.out _ ?_).mono ?_); (refine hT.behind ?_; repeat (first | with_reducible assumption | with_reducible exact Below.refl _ _ | with_reducible refine Below.drew ?_ | with_reducible refine below_drewN ?_ _ | with_reducible refine bw_alloc ?_ _ | (with_reducible refine bw_set ?_ ?_ _; focus (dsimp only; omega)) | (with_reducible apply bw_behind; with_reducible assumption))))); rintro e wq4 ⟨rfl, hbq4⟩; have hrq4 := below_reads hbq4; have hhq4 := below_holds hbq4; obtain ⟨mq4, hsq4⟩ := below_grew hbq4))
  go_ret
  refine ⟨rfl, ?_⟩
  repeat (first | with_reducible assumption | with_reducible exact Below.refl _ _ | with_reducible refine Below.drew ?_ | with_reducible refine below_drewN ?_ _ | with_reducible refine bw_alloc ?_ _ | (with_reducible refine bw_set ?_ ?_ _; focus (dsimp only; omega)) | (with_reducible apply bw_behind; with_reducible assumption))

set_option maxHeartbeats 4000000 in
theorem walk_ft (K a b c m WX V d0 d1 d2 d3 d4 : Int)  (g1 : ∀ W, TabW W → Calls Tryd.prog 7 #[.agg #[.int .i64 K, .int .i64 a, .int .i64 b, .int .i64 c, .int .i64 m]] W (Makes (.tuple #[.int .u32 0, .bool false]) W)) (g2 : ∀ W, TabW W → Calls Tryd.prog 8 #[.agg #[.int .i64 K, .int .i64 a, .int .i64 b, .int .i64 c, .int .i64 m]] W (Makes (.tuple #[.int .u32 V, .bool false]) W)) (g3 : ∀ W, TabW W → Calls Tryd.prog 9 #[.int .u32 WX] W (Makes (.tuple #[.agg #[.int .i64 d0, .int .i64 d1, .int .i64 d2, .int .i64 d3, .int .i64 d4], .bool true]) W)) (g4 : ∀ W, TabW W → Calls Tryd.prog 10 #[.int .u32 WX] W (Makes (.tuple #[.agg #[.int .i64 d0, .int .i64 d1, .int .i64 d2, .int .i64 d3, .int .i64 d4], .bool true]) W)) (g9 : ∀ W, TabW W → Calls Tryd.prog 11 #[] W (Makes (.bool true) W)) (w : World) (hT : TabW w) :
    Calls Tryd.prog 3 #[.agg #[.int .i64 K, .int .i64 a, .int .i64 b, .int .i64 c, .int .i64 m], .int .u32 WX] w (Makes (.bool true) w) := by
  have Cg1 := hide g1
  have Cg2 := hide g2
  have Cg3 := hide g3
  have Cg4 := hide g4
  have Cg9 := hide g9
  clear g1 g2 g3 g4 g9
  have E0 := eq_r d0 d1 d2 d3 d4 d0 d1 d2 d3 d4
  rw [show same5 d0 d1 d2 d3 d4 d0 d1 d2 d3 d4 = true by simp [same5]] at E0
  have SS := cell_same
  have LB' := ltB_add
  have LS := ltB_self
  have LA' := alloc_reads
  have LH := alloc_holds
  go_enter Tryd.func3, Tryd.ntmps3
  go_wp2_with (first | (go_at_call 7; (first | ((with_reducible refine (Cg1.out _ ?_).mono ?_); (refine hT.behind ?_; repeat (first | with_reducible assumption | with_reducible exact Below.refl _ _ | with_reducible refine Below.drew ?_ | with_reducible refine below_drewN ?_ _ | with_reducible refine bw_alloc ?_ _ | (with_reducible refine bw_set ?_ ?_ _; focus (dsimp only; omega)) | (with_reducible apply bw_behind; with_reducible assumption))))); rintro e wq0 ⟨rfl, hbq0⟩; have hrq0 := below_reads hbq0; have hhq0 := below_holds hbq0; obtain ⟨mq0, hsq0⟩ := below_grew hbq0) | (go_at_call 8; (first | ((with_reducible refine (Cg2.out _ ?_).mono ?_); (refine hT.behind ?_; repeat (first | with_reducible assumption | with_reducible exact Below.refl _ _ | with_reducible refine Below.drew ?_ | with_reducible refine below_drewN ?_ _ | with_reducible refine bw_alloc ?_ _ | (with_reducible refine bw_set ?_ ?_ _; focus (dsimp only; omega)) | (with_reducible apply bw_behind; with_reducible assumption))))); rintro e wq1 ⟨rfl, hbq1⟩; have hrq1 := below_reads hbq1; have hhq1 := below_holds hbq1; obtain ⟨mq1, hsq1⟩ := below_grew hbq1) | (go_at_call 9; (first | ((with_reducible refine (Cg3.out _ ?_).mono ?_); (refine hT.behind ?_; repeat (first | with_reducible assumption | with_reducible exact Below.refl _ _ | with_reducible refine Below.drew ?_ | with_reducible refine below_drewN ?_ _ | with_reducible refine bw_alloc ?_ _ | (with_reducible refine bw_set ?_ ?_ _; focus (dsimp only; omega)) | (with_reducible apply bw_behind; with_reducible assumption))))); rintro e wq2 ⟨rfl, hbq2⟩; have hrq2 := below_reads hbq2; have hhq2 := below_holds hbq2; obtain ⟨mq2, hsq2⟩ := below_grew hbq2) | (go_at_call 10; (first | ((with_reducible refine (Cg4.out _ ?_).mono ?_); (refine hT.behind ?_; repeat (first | with_reducible assumption | with_reducible exact Below.refl _ _ | with_reducible refine Below.drew ?_ | with_reducible refine below_drewN ?_ _ | with_reducible refine bw_alloc ?_ _ | (with_reducible refine bw_set ?_ ?_ _; focus (dsimp only; omega)) | (with_reducible apply bw_behind; with_reducible assumption))))); rintro e wq3 ⟨rfl, hbq3⟩; have hrq3 := below_reads hbq3; have hhq3 := below_holds hbq3; obtain ⟨mq3, hsq3⟩ := below_grew hbq3) | (go_at_call 11; (first | ((with_reducible refine (Cg9.out _ ?_).mono ?_); (refine hT.behind ?_; repeat (first | with_reducible assumption | with_reducible exact Below.refl _ _ | with_reducible refine Below.drew ?_ | with_reducible refine below_drewN ?_ _ | with_reducible refine bw_alloc ?_ _ | (with_reducible refine bw_set ?_ ?_ _; focus (dsimp only; omega)) | (with_reducible apply bw_behind; with_reducible assumption))))); rintro e wq4 ⟨rfl, hbq4⟩; have hrq4 := below_reads hbq4; have hhq4 := below_holds hbq4; obtain ⟨mq4, hsq4⟩ := below_grew hbq4))
  go_ret
  refine ⟨rfl, ?_⟩
  repeat (first | with_reducible assumption | with_reducible exact Below.refl _ _ | with_reducible refine Below.drew ?_ | with_reducible refine below_drewN ?_ _ | with_reducible refine bw_alloc ?_ _ | (with_reducible refine bw_set ?_ ?_ _; focus (dsimp only; omega)) | (with_reducible apply bw_behind; with_reducible assumption))

set_option maxHeartbeats 4000000 in
theorem walk_ff (K a b c m WX V d0 d1 d2 d3 d4 : Int)  (g1 : ∀ W, TabW W → Calls Tryd.prog 7 #[.agg #[.int .i64 K, .int .i64 a, .int .i64 b, .int .i64 c, .int .i64 m]] W (Makes (.tuple #[.int .u32 0, .bool false]) W)) (g2 : ∀ W, TabW W → Calls Tryd.prog 8 #[.agg #[.int .i64 K, .int .i64 a, .int .i64 b, .int .i64 c, .int .i64 m]] W (Makes (.tuple #[.int .u32 V, .bool false]) W)) (g3 : ∀ W, TabW W → Calls Tryd.prog 9 #[.int .u32 WX] W (Makes (.tuple #[.agg #[.int .i64 d0, .int .i64 d1, .int .i64 d2, .int .i64 d3, .int .i64 d4], .bool false]) W)) (g4 : ∀ W, TabW W → Calls Tryd.prog 10 #[.int .u32 WX] W (Makes (.tuple #[.agg #[.int .i64 d0, .int .i64 d1, .int .i64 d2, .int .i64 d3, .int .i64 d4], .bool false]) W)) (g9 : ∀ W, TabW W → Calls Tryd.prog 11 #[] W (Makes (.bool true) W)) (w : World) (hT : TabW w) :
    Calls Tryd.prog 3 #[.agg #[.int .i64 K, .int .i64 a, .int .i64 b, .int .i64 c, .int .i64 m], .int .u32 WX] w (Makes (.bool true) w) := by
  have Cg1 := hide g1
  have Cg2 := hide g2
  have Cg3 := hide g3
  have Cg4 := hide g4
  have Cg9 := hide g9
  clear g1 g2 g3 g4 g9
  have E0 := eq_r d0 d1 d2 d3 d4 d0 d1 d2 d3 d4
  rw [show same5 d0 d1 d2 d3 d4 d0 d1 d2 d3 d4 = true by simp [same5]] at E0
  have SS := cell_same
  have LB' := ltB_add
  have LS := ltB_self
  have LA' := alloc_reads
  have LH := alloc_holds
  go_enter Tryd.func3, Tryd.ntmps3
  go_wp2_with (first | (go_at_call 7; (first | ((with_reducible refine (Cg1.out _ ?_).mono ?_); (refine hT.behind ?_; repeat (first | with_reducible assumption | with_reducible exact Below.refl _ _ | with_reducible refine Below.drew ?_ | with_reducible refine below_drewN ?_ _ | with_reducible refine bw_alloc ?_ _ | (with_reducible refine bw_set ?_ ?_ _; focus (dsimp only; omega)) | (with_reducible apply bw_behind; with_reducible assumption))))); rintro e wq0 ⟨rfl, hbq0⟩; have hrq0 := below_reads hbq0; have hhq0 := below_holds hbq0; obtain ⟨mq0, hsq0⟩ := below_grew hbq0) | (go_at_call 8; (first | ((with_reducible refine (Cg2.out _ ?_).mono ?_); (refine hT.behind ?_; repeat (first | with_reducible assumption | with_reducible exact Below.refl _ _ | with_reducible refine Below.drew ?_ | with_reducible refine below_drewN ?_ _ | with_reducible refine bw_alloc ?_ _ | (with_reducible refine bw_set ?_ ?_ _; focus (dsimp only; omega)) | (with_reducible apply bw_behind; with_reducible assumption))))); rintro e wq1 ⟨rfl, hbq1⟩; have hrq1 := below_reads hbq1; have hhq1 := below_holds hbq1; obtain ⟨mq1, hsq1⟩ := below_grew hbq1) | (go_at_call 9; (first | ((with_reducible refine (Cg3.out _ ?_).mono ?_); (refine hT.behind ?_; repeat (first | with_reducible assumption | with_reducible exact Below.refl _ _ | with_reducible refine Below.drew ?_ | with_reducible refine below_drewN ?_ _ | with_reducible refine bw_alloc ?_ _ | (with_reducible refine bw_set ?_ ?_ _; focus (dsimp only; omega)) | (with_reducible apply bw_behind; with_reducible assumption))))); rintro e wq2 ⟨rfl, hbq2⟩; have hrq2 := below_reads hbq2; have hhq2 := below_holds hbq2; obtain ⟨mq2, hsq2⟩ := below_grew hbq2) | (go_at_call 10; (first | ((with_reducible refine (Cg4.out _ ?_).mono ?_); (refine hT.behind ?_; repeat (first | with_reducible assumption | with_reducible exact Below.refl _ _ | with_reducible refine Below.drew ?_ | with_reducible refine below_drewN ?_ _ | with_reducible refine bw_alloc ?_ _ | (with_reducible refine bw_set ?_ ?_ _; focus (dsimp only; omega)) | (with_reducible apply bw_behind; with_reducible assumption))))); rintro e wq3 ⟨rfl, hbq3⟩; have hrq3 := below_reads hbq3; have hhq3 := below_holds hbq3; obtain ⟨mq3, hsq3⟩ := below_grew hbq3) | (go_at_call 11; (first | ((with_reducible refine (Cg9.out _ ?_).mono ?_); (refine hT.behind ?_; repeat (first | with_reducible assumption | with_reducible exact Below.refl _ _ | with_reducible refine Below.drew ?_ | with_reducible refine below_drewN ?_ _ | with_reducible refine bw_alloc ?_ _ | (with_reducible refine bw_set ?_ ?_ _; focus (dsimp only; omega)) | (with_reducible apply bw_behind; with_reducible assumption))))); rintro e wq4 ⟨rfl, hbq4⟩; have hrq4 := below_reads hbq4; have hhq4 := below_holds hbq4; obtain ⟨mq4, hsq4⟩ := below_grew hbq4))
  go_ret
  refine ⟨rfl, ?_⟩
  repeat (first | with_reducible assumption | with_reducible exact Below.refl _ _ | with_reducible refine Below.drew ?_ | with_reducible refine below_drewN ?_ _ | with_reducible refine bw_alloc ?_ _ | (with_reducible refine bw_set ?_ ?_ _; focus (dsimp only; omega)) | (with_reducible apply bw_behind; with_reducible assumption))

set_option maxHeartbeats 4000000 in
theorem walk (K a b c m X : Int) (w : World) (hT : TabW w) (_ : rng K) (ra : rng a) (rb : rng b) (rc : rng c) (rm : rng m) (hX : 0 ≤ X ∧ X < 4294967296) :
    Calls Tryd.prog 3 #[.agg #[.int .i64 K, .int .i64 a, .int .i64 b, .int .i64 c, .int .i64 m], .int .u32 X] w (Makes (.bool true) w) := by
  obtain ⟨x, rfl, hx⟩ := as_word hX
  obtain ⟨dx, hdx⟩ := dec_ex x
  have q3 := fun W (hW : TabW W) => dec_any x hx dx hdx W hW
  have q4 := fun W (_ : TabW W) => rdec_any x hx dx hdx W
  have q9 := fun W (hW : TabW W) => one_any W hW
  by_cases hK : 1 ≤ K ∧ K ≤ 69
  · obtain ⟨j, rfl⟩ : ∃ j : Nat, K = (j : Int) + 1 := ⟨(K - 1).toNat, by omega⟩
    have hj : j < 69 := by omega
    have q1 : ∀ W, TabW W → Calls Tryd.prog 7 #[.agg #[.int .i64 ((j : Int) + 1), .int .i64 a, .int .i64 b, .int .i64 c, .int .i64 m]] W (Makes (encV (encK (j + 1) (four a b c m))) W) := fun W hW => by
      have h := enc_yes (j + 1) (by omega) (by omega) a b c m ra rb rc rm W hW
      rwa [show ((j + 1 : Nat) : Int) = (j : Int) + 1 from by omega] at h
    obtain ⟨V, hc, hV⟩ := doc_any j hj a b c m rm
    have q2 := fun W (_ : TabW W) => hc W
    cases hR : encK (j + 1) (four a b c m) with
    | none =>
      rw [hR] at q1 q2
      cases dx with
      | none => exact walk_ff _ _ _ _ _ _ _ _ _ _ _ _ q1 q2 q3 q4 q9 w hT
      | some k => exact walk_ft _ _ _ _ _ _ _ _ _ _ _ _ q1 q2 q3 q4 q9 w hT
    | some y =>
      rw [hR, encV_some] at q1
      rw [hR, hV y hR] at q2
      cases dx with
      | none => exact walk_tf _ _ _ _ _ _ _ _ _ _ _ _ q1 q2 q3 q4 q9 w hT
      | some k => exact walk_tt _ _ _ _ _ _ _ _ _ _ _ _ q1 q2 q3 q4 q9 w hT
  · have q1 := fun W (_ : TabW W) => enc_no K a b c m hK W
    have q2 : ∀ W, TabW W → Calls Tryd.prog 8 #[.agg #[.int .i64 K, .int .i64 a, .int .i64 b, .int .i64 c, .int .i64 m]] W (Makes (.tuple #[.int .u32 0, .bool false]) W) := fun W _ => by
      by_cases h : K < 1
      · exact renc_lo K a b c m h W
      · exact renc_hi K a b c m (by omega) W
    cases dx with
    | none => exact walk_ff _ _ _ _ _ _ _ _ _ _ _ _ q1 q2 q3 q4 q9 w hT
    | some k => exact walk_ft _ _ _ _ _ _ _ _ _ _ _ _ q1 q2 q3 q4 q9 w hT
open Go.ChangeShapes Go.WideShapes Go.ChangeAt
set_option maxRecDepth 100000 in
theorem walks : Frame.WalksLaid [("mintmark/inst.words", Rows.laid_mintmark_inst_words)] 3 Tryd.f3 := by
  intro H enc W base args ds ps hL hval hA
  rw [Tryd.params3] at hA hval
  obtain ⟨v0, v1, d0, d1, p0, p1, hargs, rfl, rfl, h0, h1⟩ := trodAll_two hA
  obtain rfl : args = #[v0, v1] := by cases args; simp_all
  obtain ⟨cs0, rfl, hf0⟩ := Frame.open_struct (F := 4) (ks := [.inl .i64, .inl .i64, .inl .i64, .inl .i64, .inl .i64]) Tryd.underlying23 (by kernel_rfl) (hval 0 23 v0 rfl rfl) h0
  obtain ⟨z0_0, z0_1, z0_2, z0_3, z0_4, rfl, wz0_0, wz0_1, wz0_2, wz0_3, wz0_4⟩ := open5 hf0
  obtain ⟨x1, rfl, rfl, rfl, w1⟩ := open_int Tryd.underlying24 (hval 1 24 v1 rfl rfl) h1
  exact walk z0_0 z0_1 z0_2 z0_3 z0_4 x1 W (tabW_of_laid hL) wz0_0 wz0_1 wz0_2 wz0_3 wz0_4 (wf_u32 w1)
set_option maxRecDepth 100000 in
theorem said : Rows.InstCodesSaid :=
  OpenClaim.holds_of_wide 3 Tryd.f3 rfl rfl rfl rfl rfl rfl rfl ⟨rfl, rfl, rfl, rfl, rfl⟩ rfl rfl rfl rfl rfl (by kernel_rfl) Tryd.func3 (by kernel_rfl)
    (of_decide_eq_true (by kernel_rfl)) (by unfold Func.isWrapper; first | (rw [if_pos (by decide +kernel)]; kernel_rfl) | (rw [if_neg (by decide +kernel)]; exact ⟨rfl, rfl⟩))
    (fun os started H enc _ => Frame.liftLaid [("mintmark/inst.words", Rows.laid_mintmark_inst_words)] os started H enc _ _ Rows.instCodesSpec 4 (by kernel_rfl) Tryd.func3 Tryd.underlying4 (by kernel_rfl) rfl (by kernel_rfl)
      (fun ds h => by match ds, h with | [_, _], _ => exact ⟨rfl, rfl, rfl⟩)
      (ChangeSpec.witness_shaped (enc := enc) (C := Tryd.checked) (os := os) (X := fun w _ => laidMetH Tryd.prog [("mintmark/inst.words", Rows.laid_mintmark_inst_words)] w) false (World.doorLaid Tryd.prog 400 os) #[.agg #[.int .i64 0, .int .i64 0, .int .i64 0, .int .i64 0, .int .i64 0], .int .u32 0] 8 rfl (World.shaped_of_RefB (by kernel_rfl) (by kernel_rfl)) (by kernel_rfl) (by kernel_rfl) (by kernel_rfl) (door_met1 os _)) walks)
set_option maxRecDepth 100000 in
theorem proved : Rows.InstCodesCardSaid :=
  Claim7.holds_tied_plain_at .later [] [.data] true _ false said (fun _ h => by cases h) (by kernel_rfl) (fun _ h => by cases h) instCodes_row_tie rfl ⟨rfl, rfl⟩ (by kernel_rfl) rfl
    (fun f fn hf hfn => by
      obtain rfl : f = 3 := Option.some.inj ((show Tryd.prog.funcNamed "mintmark/mintmarklaw13.InstCodes" = some 3 by kernel_rfl).symm.trans hf) |>.symm
      obtain rfl : fn = Tryd.f3 := (Option.some.inj (Tryd.func3.symm.trans hfn)).symm
      exact ⟨by kernel_rfl, fun j t ht => by
        rw [Tryd.params3] at ht
        have hm : t ∈ [23, 24] := by have := Array.mem_of_getElem? ht; simp at this; simp; first | omega | grind
        have hall : ([23, 24].all fun u => !Tryd.prog.wantsStandIn u) = true := by kernel_rfl
        exact (show Tryd.prog.wantsStandIn t = false by simpa using List.all_eq_true.1 hall t hm)⟩)
    (by kernel_rfl)
end Go.Proofs.YtdgkadoebcdmeaaDoor.InstCodes
