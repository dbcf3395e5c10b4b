/-
  InstOne holds: for every w, v and op the law returns true and turns nothing that was there, where the tables of names and words hold what the program's text lays.
-/
import Derived.Test.YtdgkadoebcdmeaaDoorInstLaw
namespace Go.Proofs.YtdgkadoebcdmeaaDoor.InstOne
open Go.RowKit Words FieldMath InstMath

set_option maxHeartbeats 4000000 in
theorem walk_tt (X V Y P r t K : Int) (a0 a1 a2 a3 a4 b0 b1 b2 b3 b4 : Int) (E : Bool) (S : ByteArray) (c1 : ∀ W, Tab2 W → Calls Tryd.prog 9 #[.int .u32 X] W (Makes (.tuple #[.agg #[.int .i64 a0, .int .i64 a1, .int .i64 a2, .int .i64 a3, .int .i64 a4], .bool true]) W)) (c2 : ∀ W, Tab2 W → Calls Tryd.prog 9 #[.int .u32 V] W (Makes (.tuple #[.agg #[.int .i64 b0, .int .i64 b1, .int .i64 b2, .int .i64 b3, .int .i64 b4], .bool true]) W)) (c3 : ∀ W, Tab2 W → Calls Tryd.prog 7 #[.agg #[.int .i64 K, .int .i64 0, .int .i64 0, .int .i64 0, .int .i64 0]] W (Makes (.tuple #[.int .u32 Y, .bool true]) W)) (c4 : ∀ W, Tab2 W → Calls Tryd.prog 9 #[.int .u32 Y] W (Makes (.tuple #[.agg #[.int .i64 K, .int .i64 0, .int .i64 0, .int .i64 0, .int .i64 0], .bool true]) W)) (c5 : ∀ W, Tab2 W → Calls Tryd.prog 14 #[.int .i64 K] W (Makes (.string S) W)) (c6 : ∀ W, Tab2 W → Calls Tryd.prog 13 #[.string S] W (Makes (.int .i64 K) W)) (c7 : ∀ W, Tab2 W → Calls Tryd.prog 11 #[] W (Makes (.bool true) W)) (hr : P.tmod 69 = r) (hr1 : -69 < r) (hr2 : r < 69) (hs : (r + 69).tmod 69 = t) (ht1 : 0 ≤ t) (ht2 : t < 69) (hK : 1 + t = K) (he : (X == V) = E) (hq : same5 a0 a1 a2 a3 a4 b0 b1 b2 b3 b4 = E) (w : World) (hT : Tab2 w) :
    Calls Tryd.prog 5 #[.int .u32 X, .int .u32 V, .int .i64 P] w (Makes (.bool true) w) := by
  have Cc1 := hide c1
  have Cc2 := hide c2
  have Cc3 := hide c3
  have Cc4 := hide c4
  have Cc5 := hide c5
  have Cc6 := hide c6
  have Cc7 := hide c7
  clear c1 c2 c3 c4 c5 c6 c7
  have E0 := eq_i K 0 0 0 0 K 0 0 0 0
  rw [show same5 K 0 0 0 0 K 0 0 0 0 = true by simp [same5]] at E0
  have E1 := eq_i a0 a1 a2 a3 a4 b0 b1 b2 b3 b4
  rw [hq] at E1
  have SS := cell_same
  have LB' := ltB_add
  have LS := ltB_self
  have LA' := alloc_reads
  have LH := alloc_holds
  go_enter Tryd.func5, Tryd.ntmps5
  go_wp2_with (first | (go_at_call 9; (first | ((with_reducible refine (Cc1.out _ ?_).mono ?_); (refine hT.behind ?_; repeat (first | with_reducible assumption | with_reducible exact Below.refl _ _ | with_reducible refine Below.drew ?_ | with_reducible refine below_drewN ?_ _ | with_reducible refine bw_alloc ?_ _ | (with_reducible refine bw_set ?_ ?_ _; focus (dsimp only; omega)) | (with_reducible apply bw_behind; with_reducible assumption)))) | ((with_reducible refine (Cc2.out _ ?_).mono ?_); (refine hT.behind ?_; repeat (first | with_reducible assumption | with_reducible exact Below.refl _ _ | with_reducible refine Below.drew ?_ | with_reducible refine below_drewN ?_ _ | with_reducible refine bw_alloc ?_ _ | (with_reducible refine bw_set ?_ ?_ _; focus (dsimp only; omega)) | (with_reducible apply bw_behind; with_reducible assumption)))) | ((with_reducible refine (Cc4.out _ ?_).mono ?_); (refine hT.behind ?_; repeat (first | with_reducible assumption | with_reducible exact Below.refl _ _ | with_reducible refine Below.drew ?_ | with_reducible refine below_drewN ?_ _ | with_reducible refine bw_alloc ?_ _ | (with_reducible refine bw_set ?_ ?_ _; focus (dsimp only; omega)) | (with_reducible apply bw_behind; with_reducible assumption))))); rintro e wq0 ⟨rfl, hbq0⟩; have hrq0 := below_reads hbq0; have hhq0 := below_holds hbq0; obtain ⟨mq0, hsq0⟩ := below_grew hbq0) | (go_at_call 7; (first | ((with_reducible refine (Cc3.out _ ?_).mono ?_); (refine hT.behind ?_; repeat (first | with_reducible assumption | with_reducible exact Below.refl _ _ | with_reducible refine Below.drew ?_ | with_reducible refine below_drewN ?_ _ | with_reducible refine bw_alloc ?_ _ | (with_reducible refine bw_set ?_ ?_ _; focus (dsimp only; omega)) | (with_reducible apply bw_behind; with_reducible assumption))))); rintro e wq1 ⟨rfl, hbq1⟩; have hrq1 := below_reads hbq1; have hhq1 := below_holds hbq1; obtain ⟨mq1, hsq1⟩ := below_grew hbq1) | (go_at_call 14; (first | ((with_reducible refine (Cc5.out _ ?_).mono ?_); (refine hT.behind ?_; repeat (first | with_reducible assumption | with_reducible exact Below.refl _ _ | with_reducible refine Below.drew ?_ | with_reducible refine below_drewN ?_ _ | with_reducible refine bw_alloc ?_ _ | (with_reducible refine bw_set ?_ ?_ _; focus (dsimp only; omega)) | (with_reducible apply bw_behind; with_reducible assumption))))); rintro e wq2 ⟨rfl, hbq2⟩; have hrq2 := below_reads hbq2; have hhq2 := below_holds hbq2; obtain ⟨mq2, hsq2⟩ := below_grew hbq2) | (go_at_call 13; (first | ((with_reducible refine (Cc6.out _ ?_).mono ?_); (refine hT.behind ?_; repeat (first | with_reducible assumption | with_reducible exact Below.refl _ _ | with_reducible refine Below.drew ?_ | with_reducible refine below_drewN ?_ _ | with_reducible refine bw_alloc ?_ _ | (with_reducible refine bw_set ?_ ?_ _; focus (dsimp only; omega)) | (with_reducible apply bw_behind; with_reducible assumption))))); rintro e wq3 ⟨rfl, hbq3⟩; have hrq3 := below_reads hbq3; have hhq3 := below_holds hbq3; obtain ⟨mq3, hsq3⟩ := below_grew hbq3) | (go_at_call 11; (first | ((with_reducible refine (Cc7.out _ ?_).mono ?_); (refine hT.behind ?_; repeat (first | with_reducible assumption | with_reducible exact Below.refl _ _ | with_reducible refine Below.drew ?_ | with_reducible refine below_drewN ?_ _ | with_reducible refine bw_alloc ?_ _ | (with_reducible refine bw_set ?_ ?_ _; focus (dsimp only; omega)) | (with_reducible apply bw_behind; with_reducible assumption))))); rintro e wq4 ⟨rfl, hbq4⟩; have hrq4 := below_reads hbq4; have hhq4 := below_holds hbq4; obtain ⟨mq4, hsq4⟩ := below_grew hbq4))
  go_ret
  refine ⟨rfl, ?_⟩
  repeat (first | with_reducible assumption | with_reducible exact Below.refl _ _ | with_reducible refine Below.drew ?_ | with_reducible refine below_drewN ?_ _ | with_reducible refine bw_alloc ?_ _ | (with_reducible refine bw_set ?_ ?_ _; focus (dsimp only; omega)) | (with_reducible apply bw_behind; with_reducible assumption))

set_option maxHeartbeats 4000000 in
theorem walk_tf (X V Y P r t K : Int) (a0 a1 a2 a3 a4 b0 b1 b2 b3 b4 : Int) (S : ByteArray) (c1 : ∀ W, Tab2 W → Calls Tryd.prog 9 #[.int .u32 X] W (Makes (.tuple #[.agg #[.int .i64 a0, .int .i64 a1, .int .i64 a2, .int .i64 a3, .int .i64 a4], .bool true]) W)) (c2 : ∀ W, Tab2 W → Calls Tryd.prog 9 #[.int .u32 V] W (Makes (.tuple #[.agg #[.int .i64 b0, .int .i64 b1, .int .i64 b2, .int .i64 b3, .int .i64 b4], .bool false]) W)) (c3 : ∀ W, Tab2 W → Calls Tryd.prog 7 #[.agg #[.int .i64 K, .int .i64 0, .int .i64 0, .int .i64 0, .int .i64 0]] W (Makes (.tuple #[.int .u32 Y, .bool true]) W)) (c4 : ∀ W, Tab2 W → Calls Tryd.prog 9 #[.int .u32 Y] W (Makes (.tuple #[.agg #[.int .i64 K, .int .i64 0, .int .i64 0, .int .i64 0, .int .i64 0], .bool true]) W)) (c5 : ∀ W, Tab2 W → Calls Tryd.prog 14 #[.int .i64 K] W (Makes (.string S) W)) (c6 : ∀ W, Tab2 W → Calls Tryd.prog 13 #[.string S] W (Makes (.int .i64 K) W)) (c7 : ∀ W, Tab2 W → Calls Tryd.prog 11 #[] W (Makes (.bool true) W)) (hr : P.tmod 69 = r) (hr1 : -69 < r) (hr2 : r < 69) (hs : (r + 69).tmod 69 = t) (ht1 : 0 ≤ t) (ht2 : t < 69) (hK : 1 + t = K) (w : World) (hT : Tab2 w) :
    Calls Tryd.prog 5 #[.int .u32 X, .int .u32 V, .int .i64 P] w (Makes (.bool true) w) := by
  have Cc1 := hide c1
  have Cc2 := hide c2
  have Cc3 := hide c3
  have Cc4 := hide c4
  have Cc5 := hide c5
  have Cc6 := hide c6
  have Cc7 := hide c7
  clear c1 c2 c3 c4 c5 c6 c7
  have E0 := eq_i K 0 0 0 0 K 0 0 0 0
  rw [show same5 K 0 0 0 0 K 0 0 0 0 = true by simp [same5]] at E0
  have SS := cell_same
  have LB' := ltB_add
  have LS := ltB_self
  have LA' := alloc_reads
  have LH := alloc_holds
  go_enter Tryd.func5, Tryd.ntmps5
  go_wp2_with (first | (go_at_call 9; (first | ((with_reducible refine (Cc1.out _ ?_).mono ?_); (refine hT.behind ?_; repeat (first | with_reducible assumption | with_reducible exact Below.refl _ _ | with_reducible refine Below.drew ?_ | with_reducible refine below_drewN ?_ _ | with_reducible refine bw_alloc ?_ _ | (with_reducible refine bw_set ?_ ?_ _; focus (dsimp only; omega)) | (with_reducible apply bw_behind; with_reducible assumption)))) | ((with_reducible refine (Cc2.out _ ?_).mono ?_); (refine hT.behind ?_; repeat (first | with_reducible assumption | with_reducible exact Below.refl _ _ | with_reducible refine Below.drew ?_ | with_reducible refine below_drewN ?_ _ | with_reducible refine bw_alloc ?_ _ | (with_reducible refine bw_set ?_ ?_ _; focus (dsimp only; omega)) | (with_reducible apply bw_behind; with_reducible assumption)))) | ((with_reducible refine (Cc4.out _ ?_).mono ?_); (refine hT.behind ?_; repeat (first | with_reducible assumption | with_reducible exact Below.refl _ _ | with_reducible refine Below.drew ?_ | with_reducible refine below_drewN ?_ _ | with_reducible refine bw_alloc ?_ _ | (with_reducible refine bw_set ?_ ?_ _; focus (dsimp only; omega)) | (with_reducible apply bw_behind; with_reducible assumption))))); rintro e wq0 ⟨rfl, hbq0⟩; have hrq0 := below_reads hbq0; have hhq0 := below_holds hbq0; obtain ⟨mq0, hsq0⟩ := below_grew hbq0) | (go_at_call 7; (first | ((with_reducible refine (Cc3.out _ ?_).mono ?_); (refine hT.behind ?_; repeat (first | with_reducible assumption | with_reducible exact Below.refl _ _ | with_reducible refine Below.drew ?_ | with_reducible refine below_drewN ?_ _ | with_reducible refine bw_alloc ?_ _ | (with_reducible refine bw_set ?_ ?_ _; focus (dsimp only; omega)) | (with_reducible apply bw_behind; with_reducible assumption))))); rintro e wq1 ⟨rfl, hbq1⟩; have hrq1 := below_reads hbq1; have hhq1 := below_holds hbq1; obtain ⟨mq1, hsq1⟩ := below_grew hbq1) | (go_at_call 14; (first | ((with_reducible refine (Cc5.out _ ?_).mono ?_); (refine hT.behind ?_; repeat (first | with_reducible assumption | with_reducible exact Below.refl _ _ | with_reducible refine Below.drew ?_ | with_reducible refine below_drewN ?_ _ | with_reducible refine bw_alloc ?_ _ | (with_reducible refine bw_set ?_ ?_ _; focus (dsimp only; omega)) | (with_reducible apply bw_behind; with_reducible assumption))))); rintro e wq2 ⟨rfl, hbq2⟩; have hrq2 := below_reads hbq2; have hhq2 := below_holds hbq2; obtain ⟨mq2, hsq2⟩ := below_grew hbq2) | (go_at_call 13; (first | ((with_reducible refine (Cc6.out _ ?_).mono ?_); (refine hT.behind ?_; repeat (first | with_reducible assumption | with_reducible exact Below.refl _ _ | with_reducible refine Below.drew ?_ | with_reducible refine below_drewN ?_ _ | with_reducible refine bw_alloc ?_ _ | (with_reducible refine bw_set ?_ ?_ _; focus (dsimp only; omega)) | (with_reducible apply bw_behind; with_reducible assumption))))); rintro e wq3 ⟨rfl, hbq3⟩; have hrq3 := below_reads hbq3; have hhq3 := below_holds hbq3; obtain ⟨mq3, hsq3⟩ := below_grew hbq3) | (go_at_call 11; (first | ((with_reducible refine (Cc7.out _ ?_).mono ?_); (refine hT.behind ?_; repeat (first | with_reducible assumption | with_reducible exact Below.refl _ _ | with_reducible refine Below.drew ?_ | with_reducible refine below_drewN ?_ _ | with_reducible refine bw_alloc ?_ _ | (with_reducible refine bw_set ?_ ?_ _; focus (dsimp only; omega)) | (with_reducible apply bw_behind; with_reducible assumption))))); rintro e wq4 ⟨rfl, hbq4⟩; have hrq4 := below_reads hbq4; have hhq4 := below_holds hbq4; obtain ⟨mq4, hsq4⟩ := below_grew hbq4))
  go_ret
  refine ⟨rfl, ?_⟩
  repeat (first | with_reducible assumption | with_reducible exact Below.refl _ _ | with_reducible refine Below.drew ?_ | with_reducible refine below_drewN ?_ _ | with_reducible refine bw_alloc ?_ _ | (with_reducible refine bw_set ?_ ?_ _; focus (dsimp only; omega)) | (with_reducible apply bw_behind; with_reducible assumption))

set_option maxHeartbeats 4000000 in
theorem walk_ft (X V Y P r t K : Int) (a0 a1 a2 a3 a4 b0 b1 b2 b3 b4 : Int) (S : ByteArray) (c1 : ∀ W, Tab2 W → Calls Tryd.prog 9 #[.int .u32 X] W (Makes (.tuple #[.agg #[.int .i64 a0, .int .i64 a1, .int .i64 a2, .int .i64 a3, .int .i64 a4], .bool false]) W)) (c2 : ∀ W, Tab2 W → Calls Tryd.prog 9 #[.int .u32 V] W (Makes (.tuple #[.agg #[.int .i64 b0, .int .i64 b1, .int .i64 b2, .int .i64 b3, .int .i64 b4], .bool true]) W)) (c3 : ∀ W, Tab2 W → Calls Tryd.prog 7 #[.agg #[.int .i64 K, .int .i64 0, .int .i64 0, .int .i64 0, .int .i64 0]] W (Makes (.tuple #[.int .u32 Y, .bool true]) W)) (c4 : ∀ W, Tab2 W → Calls Tryd.prog 9 #[.int .u32 Y] W (Makes (.tuple #[.agg #[.int .i64 K, .int .i64 0, .int .i64 0, .int .i64 0, .int .i64 0], .bool true]) W)) (c5 : ∀ W, Tab2 W → Calls Tryd.prog 14 #[.int .i64 K] W (Makes (.string S) W)) (c6 : ∀ W, Tab2 W → Calls Tryd.prog 13 #[.string S] W (Makes (.int .i64 K) W)) (c7 : ∀ W, Tab2 W → Calls Tryd.prog 11 #[] W (Makes (.bool true) W)) (hr : P.tmod 69 = r) (hr1 : -69 < r) (hr2 : r < 69) (hs : (r + 69).tmod 69 = t) (ht1 : 0 ≤ t) (ht2 : t < 69) (hK : 1 + t = K) (w : World) (hT : Tab2 w) :
    Calls Tryd.prog 5 #[.int .u32 X, .int .u32 V, .int .i64 P] w (Makes (.bool true) w) := by
  have Cc1 := hide c1
  have Cc2 := hide c2
  have Cc3 := hide c3
  have Cc4 := hide c4
  have Cc5 := hide c5
  have Cc6 := hide c6
  have Cc7 := hide c7
  clear c1 c2 c3 c4 c5 c6 c7
  have E0 := eq_i K 0 0 0 0 K 0 0 0 0
  rw [show same5 K 0 0 0 0 K 0 0 0 0 = true by simp [same5]] at E0
  have SS := cell_same
  have LB' := ltB_add
  have LS := ltB_self
  have LA' := alloc_reads
  have LH := alloc_holds
  go_enter Tryd.func5, Tryd.ntmps5
  go_wp2_with (first | (go_at_call 9; (first | ((with_reducible refine (Cc1.out _ ?_).mono ?_); (refine hT.behind ?_; repeat (first | with_reducible assumption | with_reducible exact Below.refl _ _ | with_reducible refine Below.drew ?_ | with_reducible refine below_drewN ?_ _ | with_reducible refine bw_alloc ?_ _ | (with_reducible refine bw_set ?_ ?_ _; focus (dsimp only; omega)) | (with_reducible apply bw_behind; with_reducible assumption)))) | ((with_reducible refine (Cc2.out _ ?_).mono ?_); (refine hT.behind ?_; repeat (first | with_reducible assumption | with_reducible exact Below.refl _ _ | with_reducible refine Below.drew ?_ | with_reducible refine below_drewN ?_ _ | with_reducible refine bw_alloc ?_ _ | (with_reducible refine bw_set ?_ ?_ _; focus (dsimp only; omega)) | (with_reducible apply bw_behind; with_reducible assumption)))) | ((with_reducible refine (Cc4.out _ ?_).mono ?_); (refine hT.behind ?_; repeat (first | with_reducible assumption | with_reducible exact Below.refl _ _ | with_reducible refine Below.drew ?_ | with_reducible refine below_drewN ?_ _ | with_reducible refine bw_alloc ?_ _ | (with_reducible refine bw_set ?_ ?_ _; focus (dsimp only; omega)) | (with_reducible apply bw_behind; with_reducible assumption))))); rintro e wq0 ⟨rfl, hbq0⟩; have hrq0 := below_reads hbq0; have hhq0 := below_holds hbq0; obtain ⟨mq0, hsq0⟩ := below_grew hbq0) | (go_at_call 7; (first | ((with_reducible refine (Cc3.out _ ?_).mono ?_); (refine hT.behind ?_; repeat (first | with_reducible assumption | with_reducible exact Below.refl _ _ | with_reducible refine Below.drew ?_ | with_reducible refine below_drewN ?_ _ | with_reducible refine bw_alloc ?_ _ | (with_reducible refine bw_set ?_ ?_ _; focus (dsimp only; omega)) | (with_reducible apply bw_behind; with_reducible assumption))))); rintro e wq1 ⟨rfl, hbq1⟩; have hrq1 := below_reads hbq1; have hhq1 := below_holds hbq1; obtain ⟨mq1, hsq1⟩ := below_grew hbq1) | (go_at_call 14; (first | ((with_reducible refine (Cc5.out _ ?_).mono ?_); (refine hT.behind ?_; repeat (first | with_reducible assumption | with_reducible exact Below.refl _ _ | with_reducible refine Below.drew ?_ | with_reducible refine below_drewN ?_ _ | with_reducible refine bw_alloc ?_ _ | (with_reducible refine bw_set ?_ ?_ _; focus (dsimp only; omega)) | (with_reducible apply bw_behind; with_reducible assumption))))); rintro e wq2 ⟨rfl, hbq2⟩; have hrq2 := below_reads hbq2; have hhq2 := below_holds hbq2; obtain ⟨mq2, hsq2⟩ := below_grew hbq2) | (go_at_call 13; (first | ((with_reducible refine (Cc6.out _ ?_).mono ?_); (refine hT.behind ?_; repeat (first | with_reducible assumption | with_reducible exact Below.refl _ _ | with_reducible refine Below.drew ?_ | with_reducible refine below_drewN ?_ _ | with_reducible refine bw_alloc ?_ _ | (with_reducible refine bw_set ?_ ?_ _; focus (dsimp only; omega)) | (with_reducible apply bw_behind; with_reducible assumption))))); rintro e wq3 ⟨rfl, hbq3⟩; have hrq3 := below_reads hbq3; have hhq3 := below_holds hbq3; obtain ⟨mq3, hsq3⟩ := below_grew hbq3) | (go_at_call 11; (first | ((with_reducible refine (Cc7.out _ ?_).mono ?_); (refine hT.behind ?_; repeat (first | with_reducible assumption | with_reducible exact Below.refl _ _ | with_reducible refine Below.drew ?_ | with_reducible refine below_drewN ?_ _ | with_reducible refine bw_alloc ?_ _ | (with_reducible refine bw_set ?_ ?_ _; focus (dsimp only; omega)) | (with_reducible apply bw_behind; with_reducible assumption))))); rintro e wq4 ⟨rfl, hbq4⟩; have hrq4 := below_reads hbq4; have hhq4 := below_holds hbq4; obtain ⟨mq4, hsq4⟩ := below_grew hbq4))
  go_ret
  refine ⟨rfl, ?_⟩
  repeat (first | with_reducible assumption | with_reducible exact Below.refl _ _ | with_reducible refine Below.drew ?_ | with_reducible refine below_drewN ?_ _ | with_reducible refine bw_alloc ?_ _ | (with_reducible refine bw_set ?_ ?_ _; focus (dsimp only; omega)) | (with_reducible apply bw_behind; with_reducible assumption))

set_option maxHeartbeats 4000000 in
theorem walk_ff (X V Y P r t K : Int) (a0 a1 a2 a3 a4 b0 b1 b2 b3 b4 : Int) (S : ByteArray) (c1 : ∀ W, Tab2 W → Calls Tryd.prog 9 #[.int .u32 X] W (Makes (.tuple #[.agg #[.int .i64 a0, .int .i64 a1, .int .i64 a2, .int .i64 a3, .int .i64 a4], .bool false]) W)) (c2 : ∀ W, Tab2 W → Calls Tryd.prog 9 #[.int .u32 V] W (Makes (.tuple #[.agg #[.int .i64 b0, .int .i64 b1, .int .i64 b2, .int .i64 b3, .int .i64 b4], .bool false]) W)) (c3 : ∀ W, Tab2 W → Calls Tryd.prog 7 #[.agg #[.int .i64 K, .int .i64 0, .int .i64 0, .int .i64 0, .int .i64 0]] W (Makes (.tuple #[.int .u32 Y, .bool true]) W)) (c4 : ∀ W, Tab2 W → Calls Tryd.prog 9 #[.int .u32 Y] W (Makes (.tuple #[.agg #[.int .i64 K, .int .i64 0, .int .i64 0, .int .i64 0, .int .i64 0], .bool true]) W)) (c5 : ∀ W, Tab2 W → Calls Tryd.prog 14 #[.int .i64 K] W (Makes (.string S) W)) (c6 : ∀ W, Tab2 W → Calls Tryd.prog 13 #[.string S] W (Makes (.int .i64 K) W)) (c7 : ∀ W, Tab2 W → Calls Tryd.prog 11 #[] W (Makes (.bool true) W)) (hr : P.tmod 69 = r) (hr1 : -69 < r) (hr2 : r < 69) (hs : (r + 69).tmod 69 = t) (ht1 : 0 ≤ t) (ht2 : t < 69) (hK : 1 + t = K) (w : World) (hT : Tab2 w) :
    Calls Tryd.prog 5 #[.int .u32 X, .int .u32 V, .int .i64 P] w (Makes (.bool true) w) := by
  have Cc1 := hide c1
  have Cc2 := hide c2
  have Cc3 := hide c3
  have Cc4 := hide c4
  have Cc5 := hide c5
  have Cc6 := hide c6
  have Cc7 := hide c7
  clear c1 c2 c3 c4 c5 c6 c7
  have E0 := eq_i K 0 0 0 0 K 0 0 0 0
  rw [show same5 K 0 0 0 0 K 0 0 0 0 = true by simp [same5]] at E0
  have SS := cell_same
  have LB' := ltB_add
  have LS := ltB_self
  have LA' := alloc_reads
  have LH := alloc_holds
  go_enter Tryd.func5, Tryd.ntmps5
  go_wp2_with (first | (go_at_call 9; (first | ((with_reducible refine (Cc1.out _ ?_).mono ?_); (refine hT.behind ?_; repeat (first | with_reducible assumption | with_reducible exact Below.refl _ _ | with_reducible refine Below.drew ?_ | with_reducible refine below_drewN ?_ _ | with_reducible refine bw_alloc ?_ _ | (with_reducible refine bw_set ?_ ?_ _; focus (dsimp only; omega)) | (with_reducible apply bw_behind; with_reducible assumption)))) | ((with_reducible refine (Cc2.out _ ?_).mono ?_); (refine hT.behind ?_; repeat (first | with_reducible assumption | with_reducible exact Below.refl _ _ | with_reducible refine Below.drew ?_ | with_reducible refine below_drewN ?_ _ | with_reducible refine bw_alloc ?_ _ | (with_reducible refine bw_set ?_ ?_ _; focus (dsimp only; omega)) | (with_reducible apply bw_behind; with_reducible assumption)))) | ((with_reducible refine (Cc4.out _ ?_).mono ?_); (refine hT.behind ?_; repeat (first | with_reducible assumption | with_reducible exact Below.refl _ _ | with_reducible refine Below.drew ?_ | with_reducible refine below_drewN ?_ _ | with_reducible refine bw_alloc ?_ _ | (with_reducible refine bw_set ?_ ?_ _; focus (dsimp only; omega)) | (with_reducible apply bw_behind; with_reducible assumption))))); rintro e wq0 ⟨rfl, hbq0⟩; have hrq0 := below_reads hbq0; have hhq0 := below_holds hbq0; obtain ⟨mq0, hsq0⟩ := below_grew hbq0) | (go_at_call 7; (first | ((with_reducible refine (Cc3.out _ ?_).mono ?_); (refine hT.behind ?_; repeat (first | with_reducible assumption | with_reducible exact Below.refl _ _ | with_reducible refine Below.drew ?_ | with_reducible refine below_drewN ?_ _ | with_reducible refine bw_alloc ?_ _ | (with_reducible refine bw_set ?_ ?_ _; focus (dsimp only; omega)) | (with_reducible apply bw_behind; with_reducible assumption))))); rintro e wq1 ⟨rfl, hbq1⟩; have hrq1 := below_reads hbq1; have hhq1 := below_holds hbq1; obtain ⟨mq1, hsq1⟩ := below_grew hbq1) | (go_at_call 14; (first | ((with_reducible refine (Cc5.out _ ?_).mono ?_); (refine hT.behind ?_; repeat (first | with_reducible assumption | with_reducible exact Below.refl _ _ | with_reducible refine Below.drew ?_ | with_reducible refine below_drewN ?_ _ | with_reducible refine bw_alloc ?_ _ | (with_reducible refine bw_set ?_ ?_ _; focus (dsimp only; omega)) | (with_reducible apply bw_behind; with_reducible assumption))))); rintro e wq2 ⟨rfl, hbq2⟩; have hrq2 := below_reads hbq2; have hhq2 := below_holds hbq2; obtain ⟨mq2, hsq2⟩ := below_grew hbq2) | (go_at_call 13; (first | ((with_reducible refine (Cc6.out _ ?_).mono ?_); (refine hT.behind ?_; repeat (first | with_reducible assumption | with_reducible exact Below.refl _ _ | with_reducible refine Below.drew ?_ | with_reducible refine below_drewN ?_ _ | with_reducible refine bw_alloc ?_ _ | (with_reducible refine bw_set ?_ ?_ _; focus (dsimp only; omega)) | (with_reducible apply bw_behind; with_reducible assumption))))); rintro e wq3 ⟨rfl, hbq3⟩; have hrq3 := below_reads hbq3; have hhq3 := below_holds hbq3; obtain ⟨mq3, hsq3⟩ := below_grew hbq3) | (go_at_call 11; (first | ((with_reducible refine (Cc7.out _ ?_).mono ?_); (refine hT.behind ?_; repeat (first | with_reducible assumption | with_reducible exact Below.refl _ _ | with_reducible refine Below.drew ?_ | with_reducible refine below_drewN ?_ _ | with_reducible refine bw_alloc ?_ _ | (with_reducible refine bw_set ?_ ?_ _; focus (dsimp only; omega)) | (with_reducible apply bw_behind; with_reducible assumption))))); rintro e wq4 ⟨rfl, hbq4⟩; have hrq4 := below_reads hbq4; have hhq4 := below_holds hbq4; obtain ⟨mq4, hsq4⟩ := below_grew hbq4))
  go_ret
  refine ⟨rfl, ?_⟩
  repeat (first | with_reducible assumption | with_reducible exact Below.refl _ _ | with_reducible refine Below.drew ?_ | with_reducible refine below_drewN ?_ _ | with_reducible refine bw_alloc ?_ _ | (with_reducible refine bw_set ?_ ?_ _; focus (dsimp only; omega)) | (with_reducible apply bw_behind; with_reducible assumption))

theorem all_zero (k : Nat) (h1 : 1 ≤ k) (h2 : k ≤ 69) : encK k (four 0 0 0 0) = some (BitVec.ofNat 64 (wrd k)) := enc_zero h1 h2 _ (fun o => by unfold four; split <;> rfl)
theorem dec_back (k : Nat) (h1 : 1 ≤ k) (h2 : k ≤ 69) : decV (some k) (BitVec.ofNat 64 (wrd k)) = .tuple #[.agg #[.int .i64 (k : Int), .int .i64 0, .int .i64 0, .int .i64 0, .int .i64 0], .bool true] := by
  have h := read_enc h1 h2 (all_zero k h1 h2) (fun o => by unfold four; split <;> omega)
  have z : ∀ o, opsI k (BitVec.ofNat 64 (wrd k)) o = 0 := fun o => by
    rw [h o]
    split
    · unfold four; split <;> rfl
    · rfl
  rw [decV_some, z, z, z, z]
  rfl
/-- Two words that are instructions are the same just if these are. -/
theorem words_same {x y : BitVec 64} (hx : x.toNat < 4294967296) (hy : y.toNat < 4294967296) {j k : Nat} (hj : IsDec x (some j)) (hk : IsDec y (some k)) :
    same5 j (opsI j x 0) (opsI j x 1) (opsI j x 2) (opsI j x 3) k (opsI k y 0) (opsI k y 1) (opsI k y 2) (opsI k y 3) = ((x.toNat : Int) == (y.toNat : Int)) := by
  rw [Bool.eq_iff_iff]
  unfold same5
  simp only [Bool.and_eq_true, decide_eq_true_eq, beq_iff_eq]
  constructor
  · rintro ⟨⟨⟨⟨e, e0⟩, e1⟩, e2⟩, e3⟩
    obtain rfl : j = k := by omega
    have h1 := enc_read hj.1 hj.2.1 hx hj.2.2
    have h2 := enc_read hj.1 hj.2.1 hy hk.2.2
    have ok := ok_shape (shape_of hj.1 hj.2.1)
    have : encK j (opsI j x) = encK j (opsI j y) := by
      unfold encK
      refine enc_congr fun p hp => ?_
      have := ok.four p hp
      match hp1 : p.1, this with
      | 0, _ => exact e0
      | 1, _ => exact e1
      | 2, _ => exact e2
      | 3, _ => exact e3
    rw [h1, h2] at this
    rw [Option.some.inj this]
  · intro h
    have : x = y := BitVec.toNat_inj.1 (by omega)
    subst this
    have := match_one ⟨hj.1, hj.2.1⟩ ⟨hk.1, hk.2.1⟩ hj.2.2 hk.2.2
    subst this
    simp
theorem walk (X V P : Int) (w : World) (hT : Tab2 w) (hX : 0 ≤ X ∧ X < 4294967296) (hV : 0 ≤ V ∧ V < 4294967296) :
    Calls Tryd.prog 5 #[.int .u32 X, .int .u32 V, .int .i64 P] w (Makes (.bool true) w) := by
  obtain ⟨x, rfl, hx⟩ := as_word hX
  obtain ⟨v, rfl, hv⟩ := as_word hV
  obtain ⟨dx, hdx⟩ := dec_ex x
  obtain ⟨dv, hdv⟩ := dec_ex v
  have q1 := fun W (hW : Tab2 W) => dec_any x hx dx hdx W hW.2
  have q2 := fun W (hW : Tab2 W) => dec_any v hv dv hdv W hW.2
  have r1 : -69 < P.tmod 69 := Int.lt_tmod_of_pos P (by decide)
  have r2 : P.tmod 69 < 69 := Int.tmod_lt_of_pos P (by decide)
  have t1 : 0 ≤ (P.tmod 69 + 69).tmod 69 := Int.tmod_nonneg 69 (by omega)
  have t2 : (P.tmod 69 + 69).tmod 69 < 69 := Int.tmod_lt_of_pos _ (by decide)
  obtain ⟨k, hk⟩ : ∃ k : Nat, 1 + (P.tmod 69 + 69).tmod 69 = (k : Int) := ⟨(1 + (P.tmod 69 + 69).tmod 69).toNat, by omega⟩
  have k1 : 1 ≤ k := by omega
  have k2 : k ≤ 69 := by omega
  have z0 : rng 0 := ⟨by decide, by decide⟩
  have q3 := fun W (hW : Tab2 W) => enc_yes k k1 k2 0 0 0 0 z0 z0 z0 z0 W hW.2
  rw [all_zero k k1 k2] at q3
  have hy := enc_match k1 k2 (all_zero k k1 k2)
  have q4 := fun W (hW : Tab2 W) => dec_any (BitVec.ofNat 64 (wrd k)) hy.1 (some k) ⟨k1, k2, hy.2⟩ W hW.2
  rw [dec_back k k1 k2] at q4
  have q5 := fun W (hW : Tab2 W) => (name_yes k ⟨k1, k2⟩ W hW.1).mono fun _ _ h => quiet_makes h
  have q6 := fun W (hW : Tab2 W) => (find_any k (by omega) W hW.1).mono fun _ _ h => quiet_makes h
  have q7 := fun W (hW : Tab2 W) => one_any W hW.2
  cases dx with
  | none =>
    cases dv with
    | none => exact walk_ff _ _ _ P _ _ k _ _ _ _ _ _ _ _ _ _ _ q1 q2 q3 q4 q5 q6 q7 rfl r1 r2 rfl t1 t2 hk w hT
    | some l => exact walk_ft _ _ _ P _ _ k _ _ _ _ _ _ _ _ _ _ _ q1 q2 q3 q4 q5 q6 q7 rfl r1 r2 rfl t1 t2 hk w hT
  | some j =>
    cases dv with
    | none => exact walk_tf _ _ _ P _ _ k _ _ _ _ _ _ _ _ _ _ _ q1 q2 q3 q4 q5 q6 q7 rfl r1 r2 rfl t1 t2 hk w hT
    | some l => exact walk_tt _ _ _ P _ _ k _ _ _ _ _ _ _ _ _ _ _ _ q1 q2 q3 q4 q5 q6 q7 rfl r1 r2 rfl t1 t2 hk rfl (words_same hx hv hdx hdv) w hT
open Go.ChangeShapes Go.WideShapes Go.ChangeAt
set_option maxRecDepth 100000 in
theorem walks : Frame.WalksLaid [("mintmark/inst.names", Rows.laid_mintmark_inst_names), ("mintmark/inst.words", Rows.laid_mintmark_inst_words)] 5 Tryd.f5 := by
  intro H enc W base args ds ps hL hval hA
  rw [Tryd.params5] at hA hval
  obtain ⟨v0, v1, v2, d0, d1, d2, p0, p1, p2, hargs, rfl, rfl, h0, h1, h2⟩ := trodAll_three hA
  obtain rfl : args = #[v0, v1, v2] := by cases args; simp_all
  obtain ⟨x0, rfl, rfl, rfl, w0⟩ := open_int Tryd.underlying24 (hval 0 24 v0 rfl rfl) h0
  obtain ⟨x1, rfl, rfl, rfl, w1⟩ := open_int Tryd.underlying24 (hval 1 24 v1 rfl rfl) h1
  obtain ⟨x2, rfl, rfl, rfl, w2⟩ := open_int Tryd.underlying3 (hval 2 3 v2 rfl rfl) h2
  exact walk x0 x1 x2 W (tabs_of_laid2 hL) (wf_u32 w0) (wf_u32 w1)
set_option maxRecDepth 100000 in
theorem said : Rows.InstOneSaid :=
  OpenClaim.holds_of_wide 5 Tryd.f5 rfl rfl rfl rfl rfl rfl rfl ⟨rfl, rfl, rfl, rfl, rfl⟩ rfl rfl rfl rfl rfl (by kernel_rfl) Tryd.func5 (by kernel_rfl)
    (of_decide_eq_true (by kernel_rfl)) (by unfold Func.isWrapper; first | (rw [if_pos (by decide +kernel)]; kernel_rfl) | (rw [if_neg (by decide +kernel)]; exact ⟨rfl, rfl⟩))
    (fun os started H enc _ => Frame.liftLaid [("mintmark/inst.names", Rows.laid_mintmark_inst_names), ("mintmark/inst.words", Rows.laid_mintmark_inst_words)] os started H enc _ _ Rows.instOneSpec 4 (by kernel_rfl) Tryd.func5 Tryd.underlying4 (by kernel_rfl) rfl (by kernel_rfl)
      (fun ds h => by match ds, h with | [_, _, _], _ => exact ⟨rfl, rfl, rfl⟩)
      (ChangeSpec.witness_shaped (enc := enc) (C := Tryd.checked) (os := os) (X := fun w _ => laidMetH Tryd.prog [("mintmark/inst.names", Rows.laid_mintmark_inst_names), ("mintmark/inst.words", Rows.laid_mintmark_inst_words)] w) false (World.doorLaid Tryd.prog 400 os) #[.int .u32 0, .int .u32 0, .int .i64 0] 8 rfl (World.shaped_of_RefB (by kernel_rfl) (by kernel_rfl)) (by kernel_rfl) (by kernel_rfl) (by kernel_rfl) (door_met2 os _)) walks)
set_option maxRecDepth 100000 in
theorem proved : Rows.InstOneCardSaid :=
  Claim7.holds_tied_plain_at .later [] [.data, .data] true _ false said (fun _ h => by cases h) (by kernel_rfl) (fun _ h => by cases h) instOne_row_tie rfl ⟨rfl, rfl⟩ (by kernel_rfl) rfl
    (fun f fn hf hfn => by
      obtain rfl : f = 5 := Option.some.inj ((show Tryd.prog.funcNamed "mintmark/mintmarklaw13.InstOne" = some 5 by kernel_rfl).symm.trans hf) |>.symm
      obtain rfl : fn = Tryd.f5 := (Option.some.inj (Tryd.func5.symm.trans hfn)).symm
      exact ⟨by kernel_rfl, fun j t ht => by
        rw [Tryd.params5] at ht
        have hm : t ∈ [24, 3] := by have := Array.mem_of_getElem? ht; simp at this; simp; first | omega | grind
        have hall : ([24, 3].all fun u => !Tryd.prog.wantsStandIn u) = true := by kernel_rfl
        exact (show Tryd.prog.wantsStandIn t = false by simpa using List.all_eq_true.1 hall t hm)⟩)
    (by kernel_rfl)
end Go.Proofs.YtdgkadoebcdmeaaDoor.InstOne
