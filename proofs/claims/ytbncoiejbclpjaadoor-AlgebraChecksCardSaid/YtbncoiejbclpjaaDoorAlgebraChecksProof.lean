/-
  AlgebraChecks holds: for every c and use the law returns true and turns nothing that was there, where the tables of what each access needs and of the fields' places hold what the program's text lays.
-/
import Derived.Test.YtbncoiejbclpjaaDoorAlgLaid
import Derived.Test.YtbncoiejbclpjaaDoorAlgRef2
namespace Go.Proofs.YtbncoiejbclpjaaDoor.AlgebraChecks
open Go.RowKit Words FieldMath BoundsMath

set_option maxRecDepth 100000 in
set_option maxHeartbeats 4000000 in
theorem walk_1 (q : Bool) (M A K U1 U2 N V R : Int) (c1 : ∀ W, Tabs W → Calls Tryd.prog 10 #[.agg #[.bool q, .int .u64 M, .int .u64 A]] W (Makes (.agg #[.bool false, .int .u64 M, .int .u64 A]) W)) (c2 : ∀ W, Tabs W → Calls Tryd.prog 32 #[.agg #[.bool false, .int .u64 M, .int .u64 A], .int .i64 K, .int .u64 N] W (Makes (.int .i64 1) W)) (c3 : ∀ W, Tabs W → Calls Tryd.prog 32 #[.agg #[.bool q, .int .u64 M, .int .u64 A], .int .i64 K, .int .u64 N] W (Makes (.int .i64 R) W)) (cO : ∀ W, Tabs W → Calls Tryd.prog 19 #[] W (Makes (.bool true) W)) (hN : bits .and .i64 U1 65535 = N) (hN2 : IntKind.u64.wrap N = N) (hV : bits .and .i64 U2 65535 = V) (hV2 : IntKind.u64.wrap V = V) (hR : (R == 0) = false) (w : World) (hT : Tabs w) :
    Calls Tryd.prog 7 #[.agg #[.bool q, .int .u64 M, .int .u64 A], .agg #[.int .i64 K, .int .i64 U1, .int .i64 U2]] w (Makes (.bool true) w) := by
  have Cc1 := hide c1
  have Cc2 := hide c2
  have Cc3 := hide c3
  have CcO := hide cO
  clear c1 c2 c3 cO
  have SS := cell_same
  have LB' := ltB_add
  have LS := ltB_self
  have LA' := alloc_reads
  have LH := alloc_holds
  go_enter Tryd.func7, Tryd.ntmps7
  go_upto_region 1 with fail
  go_quiet (fail)
  go_wp2_with (first | (go_at_call 10; (first | ((with_reducible refine (Cc1.out _ ?_).mono ?_); (refine hT.behind ?_; repeat (first | with_reducible assumption | with_reducible exact Below.refl _ _ | with_reducible refine Below.drew ?_ | with_reducible refine below_drewN ?_ _ | with_reducible refine bw_alloc ?_ _ | (with_reducible refine bw_set ?_ ?_ _; focus (dsimp only; omega)) | (with_reducible apply bw_behind; with_reducible assumption))))); rintro e wa ⟨rfl, hba⟩; have hra := below_reads hba; have hha := below_holds hba; obtain ⟨ma, hsa⟩ := below_grew hba) | (go_at_call 32; (first | ((with_reducible refine (Cc2.out _ ?_).mono ?_); (refine hT.behind ?_; repeat (first | with_reducible assumption | with_reducible exact Below.refl _ _ | with_reducible refine Below.drew ?_ | with_reducible refine below_drewN ?_ _ | with_reducible refine bw_alloc ?_ _ | (with_reducible refine bw_set ?_ ?_ _; focus (dsimp only; omega)) | (with_reducible apply bw_behind; with_reducible assumption)))) | ((with_reducible refine (Cc3.out _ ?_).mono ?_); (refine hT.behind ?_; repeat (first | with_reducible assumption | with_reducible exact Below.refl _ _ | with_reducible refine Below.drew ?_ | with_reducible refine below_drewN ?_ _ | with_reducible refine bw_alloc ?_ _ | (with_reducible refine bw_set ?_ ?_ _; focus (dsimp only; omega)) | (with_reducible apply bw_behind; with_reducible assumption))))); rintro e wb ⟨rfl, hbb⟩; have hrb := below_reads hbb; have hhb := below_holds hbb; obtain ⟨mb, hsb⟩ := below_grew hbb) | (go_at_call 19; (first | ((with_reducible refine (CcO.out _ ?_).mono ?_); (refine hT.behind ?_; repeat (first | with_reducible assumption | with_reducible exact Below.refl _ _ | with_reducible refine Below.drew ?_ | with_reducible refine below_drewN ?_ _ | with_reducible refine bw_alloc ?_ _ | (with_reducible refine bw_set ?_ ?_ _; focus (dsimp only; omega)) | (with_reducible apply bw_behind; with_reducible assumption))))); rintro e wz ⟨rfl, hbz⟩; have hrz := below_reads hbz; have hhz := below_holds hbz; obtain ⟨mz, hsz⟩ := below_grew hbz))
  refine bodyPost_ret (v := .bool true) (by simp (maxDischargeDepth := 4) [results, Tryd.results7, go_sem, *]) rfl ?_
  refine ⟨rfl, ?_⟩
  repeat (first | with_reducible assumption | with_reducible exact Below.refl _ _ | with_reducible refine Below.drew ?_ | with_reducible refine below_drewN ?_ _ | with_reducible refine bw_alloc ?_ _ | (with_reducible refine bw_set ?_ ?_ _; focus (dsimp only; omega)) | (with_reducible apply bw_behind; with_reducible assumption))

set_option maxRecDepth 100000 in
set_option maxHeartbeats 4000000 in
theorem walk_2 (q : Bool) (M A K U1 U2 V : Int) (c1 : ∀ W, Tabs W → Calls Tryd.prog 10 #[.agg #[.bool q, .int .u64 M, .int .u64 A]] W (Makes (.agg #[.bool false, .int .u64 M, .int .u64 A]) W)) (c2 : ∀ W, Tabs W → Calls Tryd.prog 32 #[.agg #[.bool false, .int .u64 M, .int .u64 A], .int .i64 K, .int .u64 0] W (Makes (.int .i64 1) W)) (c3 : ∀ W, Tabs W → Calls Tryd.prog 32 #[.agg #[.bool q, .int .u64 M, .int .u64 A], .int .i64 K, .int .u64 0] W (Makes (.int .i64 0) W)) (cO : ∀ W, Tabs W → Calls Tryd.prog 19 #[] W (Makes (.bool true) W)) (hN : bits .and .i64 U1 65535 = 0) (hN2 : IntKind.u64.wrap 0 = 0) (hV : bits .and .i64 U2 65535 = V) (hV2 : IntKind.u64.wrap V = V) (w : World) (hT : Tabs w) :
    Calls Tryd.prog 7 #[.agg #[.bool q, .int .u64 M, .int .u64 A], .agg #[.int .i64 K, .int .i64 U1, .int .i64 U2]] w (Makes (.bool true) w) := by
  have Cc1 := hide c1
  have Cc2 := hide c2
  have Cc3 := hide c3
  have CcO := hide cO
  clear c1 c2 c3 cO
  have SS := cell_same
  have LB' := ltB_add
  have LS := ltB_self
  have LA' := alloc_reads
  have LH := alloc_holds
  go_enter Tryd.func7, Tryd.ntmps7
  go_upto_region 1 with fail
  go_quiet (fail)
  go_wp2_with (first | (go_at_call 10; (first | ((with_reducible refine (Cc1.out _ ?_).mono ?_); (refine hT.behind ?_; repeat (first | with_reducible assumption | with_reducible exact Below.refl _ _ | with_reducible refine Below.drew ?_ | with_reducible refine below_drewN ?_ _ | with_reducible refine bw_alloc ?_ _ | (with_reducible refine bw_set ?_ ?_ _; focus (dsimp only; omega)) | (with_reducible apply bw_behind; with_reducible assumption))))); rintro e wa ⟨rfl, hba⟩; have hra := below_reads hba; have hha := below_holds hba; obtain ⟨ma, hsa⟩ := below_grew hba) | (go_at_call 32; (first | ((with_reducible refine (Cc2.out _ ?_).mono ?_); (refine hT.behind ?_; repeat (first | with_reducible assumption | with_reducible exact Below.refl _ _ | with_reducible refine Below.drew ?_ | with_reducible refine below_drewN ?_ _ | with_reducible refine bw_alloc ?_ _ | (with_reducible refine bw_set ?_ ?_ _; focus (dsimp only; omega)) | (with_reducible apply bw_behind; with_reducible assumption)))) | ((with_reducible refine (Cc3.out _ ?_).mono ?_); (refine hT.behind ?_; repeat (first | with_reducible assumption | with_reducible exact Below.refl _ _ | with_reducible refine Below.drew ?_ | with_reducible refine below_drewN ?_ _ | with_reducible refine bw_alloc ?_ _ | (with_reducible refine bw_set ?_ ?_ _; focus (dsimp only; omega)) | (with_reducible apply bw_behind; with_reducible assumption))))); rintro e wb ⟨rfl, hbb⟩; have hrb := below_reads hbb; have hhb := below_holds hbb; obtain ⟨mb, hsb⟩ := below_grew hbb) | (go_at_call 19; (first | ((with_reducible refine (CcO.out _ ?_).mono ?_); (refine hT.behind ?_; repeat (first | with_reducible assumption | with_reducible exact Below.refl _ _ | with_reducible refine Below.drew ?_ | with_reducible refine below_drewN ?_ _ | with_reducible refine bw_alloc ?_ _ | (with_reducible refine bw_set ?_ ?_ _; focus (dsimp only; omega)) | (with_reducible apply bw_behind; with_reducible assumption))))); rintro e wz ⟨rfl, hbz⟩; have hrz := below_reads hbz; have hhz := below_holds hbz; obtain ⟨mz, hsz⟩ := below_grew hbz))
  refine bodyPost_ret (v := .bool true) (by simp (maxDischargeDepth := 4) [results, Tryd.results7, go_sem, *]) rfl ?_
  refine ⟨rfl, ?_⟩
  repeat (first | with_reducible assumption | with_reducible exact Below.refl _ _ | with_reducible refine Below.drew ?_ | with_reducible refine below_drewN ?_ _ | with_reducible refine bw_alloc ?_ _ | (with_reducible refine bw_set ?_ ?_ _; focus (dsimp only; omega)) | (with_reducible apply bw_behind; with_reducible assumption))

set_option maxRecDepth 100000 in
set_option maxHeartbeats 8000000 in
theorem walk_nn (M A K U1 U2 N V T2 X2 A2 M3 : Int) (c1 : ∀ W, Tabs W → Calls Tryd.prog 10 #[.agg #[.bool true, .int .u64 M, .int .u64 A]] W (Makes (.agg #[.bool false, .int .u64 M, .int .u64 A]) W)) (c2 : ∀ W, Tabs W → Calls Tryd.prog 32 #[.agg #[.bool false, .int .u64 M, .int .u64 A], .int .i64 K, .int .u64 N] W (Makes (.int .i64 1) W)) (c3 : ∀ W, Tabs W → Calls Tryd.prog 32 #[.agg #[.bool true, .int .u64 M, .int .u64 A], .int .i64 K, .int .u64 N] W (Makes (.int .i64 0) W)) (c4 : ∀ W, Tabs W → Calls Tryd.prog 14 #[.agg #[.bool true, .int .u64 M, .int .u64 A], .int .u64 T2] W (Makes (.agg #[.bool false, .int .u64 M, .int .u64 A2]) W)) (c5 : ∀ W, Tabs W → Calls Tryd.prog 15 #[.agg #[.bool true, .int .u64 M, .int .u64 A], .int .u64 N, .bool true] W (Makes (.agg #[.bool false, .int .u64 M3, .int .u64 A]) W)) (c6 : ∀ W, Tabs W → Calls Tryd.prog 32 #[.agg #[.bool true, .int .u64 M, .int .u64 A], .int .i64 K, .int .u64 X2] W (Makes (.int .i64 0) W)) (c7 : ∀ W, Tabs W → Calls Tryd.prog 34 #[.agg #[.bool true, .int .u64 M, .int .u64 A]] W (Makes (.bool true) W)) (cO : ∀ W, Tabs W → Calls Tryd.prog 19 #[] W (Makes (.bool true) W)) (hN : bits .and .i64 U1 65535 = N) (hN2 : IntKind.u64.wrap N = N) (hV : bits .and .i64 U2 65535 = V) (hV2 : IntKind.u64.wrap V = V) (hN0 : (N == 0) = false) (hn0 : ¬ N = 0) (hT2 : V.tmod N = T2) (hX2 : IntKind.u64.wrap (N - 1) = X2) (w : World) (hT : Tabs w) :
    Calls Tryd.prog 7 #[.agg #[.bool true, .int .u64 M, .int .u64 A], .agg #[.int .i64 K, .int .i64 U1, .int .i64 U2]] w (Makes (.bool true) w) := by
  have Cc1 := hide c1
  have Cc2 := hide c2
  have Cc3 := hide c3
  have Cc4 := hide c4
  have Cc5 := hide c5
  have Cc6 := hide c6
  have Cc7 := hide c7
  have CcO := hide cO
  clear c1 c2 c3 c4 c5 c6 c7 cO
  have SS := cell_same
  have LB' := ltB_add
  have LS := ltB_self
  have LA' := alloc_reads
  have LH := alloc_holds
  go_enter Tryd.func7, Tryd.ntmps7
  go_upto_region 1 with fail
  go_quiet (fail)
  go_wp2_with (first | (go_at_call 10; (first | ((with_reducible refine (Cc1.out _ ?_).mono ?_); (refine hT.behind ?_; repeat (first | with_reducible assumption | with_reducible exact Below.refl _ _ | with_reducible refine Below.drew ?_ | with_reducible refine below_drewN ?_ _ | with_reducible refine bw_alloc ?_ _ | (with_reducible refine bw_set ?_ ?_ _; focus (dsimp only; omega)) | (with_reducible apply bw_behind; with_reducible assumption))))); rintro e wa ⟨rfl, hba⟩; have hra := below_reads hba; have hha := below_holds hba; obtain ⟨ma, hsa⟩ := below_grew hba) | (go_at_call 32; (first | ((with_reducible refine (Cc2.out _ ?_).mono ?_); (refine hT.behind ?_; repeat (first | with_reducible assumption | with_reducible exact Below.refl _ _ | with_reducible refine Below.drew ?_ | with_reducible refine below_drewN ?_ _ | with_reducible refine bw_alloc ?_ _ | (with_reducible refine bw_set ?_ ?_ _; focus (dsimp only; omega)) | (with_reducible apply bw_behind; with_reducible assumption)))) | ((with_reducible refine (Cc3.out _ ?_).mono ?_); (refine hT.behind ?_; repeat (first | with_reducible assumption | with_reducible exact Below.refl _ _ | with_reducible refine Below.drew ?_ | with_reducible refine below_drewN ?_ _ | with_reducible refine bw_alloc ?_ _ | (with_reducible refine bw_set ?_ ?_ _; focus (dsimp only; omega)) | (with_reducible apply bw_behind; with_reducible assumption)))) | ((with_reducible refine (Cc6.out _ ?_).mono ?_); (refine hT.behind ?_; repeat (first | with_reducible assumption | with_reducible exact Below.refl _ _ | with_reducible refine Below.drew ?_ | with_reducible refine below_drewN ?_ _ | with_reducible refine bw_alloc ?_ _ | (with_reducible refine bw_set ?_ ?_ _; focus (dsimp only; omega)) | (with_reducible apply bw_behind; with_reducible assumption))))); rintro e wb ⟨rfl, hbb⟩; have hrb := below_reads hbb; have hhb := below_holds hbb; obtain ⟨mb, hsb⟩ := below_grew hbb) | (go_at_call 14; (first | ((with_reducible refine (Cc4.out _ ?_).mono ?_); (refine hT.behind ?_; repeat (first | with_reducible assumption | with_reducible exact Below.refl _ _ | with_reducible refine Below.drew ?_ | with_reducible refine below_drewN ?_ _ | with_reducible refine bw_alloc ?_ _ | (with_reducible refine bw_set ?_ ?_ _; focus (dsimp only; omega)) | (with_reducible apply bw_behind; with_reducible assumption))))); rintro e wd ⟨rfl, hbd⟩; have hrd := below_reads hbd; have hhd := below_holds hbd; obtain ⟨md, hsd⟩ := below_grew hbd) | (go_at_call 15; (first | ((with_reducible refine (Cc5.out _ ?_).mono ?_); (refine hT.behind ?_; repeat (first | with_reducible assumption | with_reducible exact Below.refl _ _ | with_reducible refine Below.drew ?_ | with_reducible refine below_drewN ?_ _ | with_reducible refine bw_alloc ?_ _ | (with_reducible refine bw_set ?_ ?_ _; focus (dsimp only; omega)) | (with_reducible apply bw_behind; with_reducible assumption))))); rintro e we ⟨rfl, hbe⟩; have hre := below_reads hbe; have hhe := below_holds hbe; obtain ⟨me, hse⟩ := below_grew hbe) | (go_at_call 34; (first | ((with_reducible refine (Cc7.out _ ?_).mono ?_); (refine hT.behind ?_; repeat (first | with_reducible assumption | with_reducible exact Below.refl _ _ | with_reducible refine Below.drew ?_ | with_reducible refine below_drewN ?_ _ | with_reducible refine bw_alloc ?_ _ | (with_reducible refine bw_set ?_ ?_ _; focus (dsimp only; omega)) | (with_reducible apply bw_behind; with_reducible assumption))))); rintro e wf ⟨rfl, hbf⟩; have hrf := below_reads hbf; have hhf := below_holds hbf; obtain ⟨mf, hsf⟩ := below_grew hbf) | (go_at_call 19; (first | ((with_reducible refine (CcO.out _ ?_).mono ?_); (refine hT.behind ?_; repeat (first | with_reducible assumption | with_reducible exact Below.refl _ _ | with_reducible refine Below.drew ?_ | with_reducible refine below_drewN ?_ _ | with_reducible refine bw_alloc ?_ _ | (with_reducible refine bw_set ?_ ?_ _; focus (dsimp only; omega)) | (with_reducible apply bw_behind; with_reducible assumption))))); rintro e wz ⟨rfl, hbz⟩; have hrz := below_reads hbz; have hhz := below_holds hbz; obtain ⟨mz, hsz⟩ := below_grew hbz))
  refine bodyPost_ret (v := .bool true) (by simp (maxDischargeDepth := 4) [results, Tryd.results7, go_sem, *]) rfl ?_
  refine ⟨rfl, ?_⟩
  repeat (first | with_reducible assumption | with_reducible exact Below.refl _ _ | with_reducible refine Below.drew ?_ | with_reducible refine below_drewN ?_ _ | with_reducible refine bw_alloc ?_ _ | (with_reducible refine bw_set ?_ ?_ _; focus (dsimp only; omega)) | (with_reducible apply bw_behind; with_reducible assumption))

set_option maxRecDepth 100000 in
set_option maxHeartbeats 8000000 in
theorem walk_ny (M A K U1 U2 N V T2 X2 A2 M3 X3 : Int) (c1 : ∀ W, Tabs W → Calls Tryd.prog 10 #[.agg #[.bool true, .int .u64 M, .int .u64 A]] W (Makes (.agg #[.bool false, .int .u64 M, .int .u64 A]) W)) (c2 : ∀ W, Tabs W → Calls Tryd.prog 32 #[.agg #[.bool false, .int .u64 M, .int .u64 A], .int .i64 K, .int .u64 N] W (Makes (.int .i64 1) W)) (c3 : ∀ W, Tabs W → Calls Tryd.prog 32 #[.agg #[.bool true, .int .u64 M, .int .u64 A], .int .i64 K, .int .u64 N] W (Makes (.int .i64 0) W)) (c4 : ∀ W, Tabs W → Calls Tryd.prog 14 #[.agg #[.bool true, .int .u64 M, .int .u64 A], .int .u64 T2] W (Makes (.agg #[.bool false, .int .u64 M, .int .u64 A2]) W)) (c5 : ∀ W, Tabs W → Calls Tryd.prog 15 #[.agg #[.bool true, .int .u64 M, .int .u64 A], .int .u64 N, .bool true] W (Makes (.agg #[.bool true, .int .u64 M3, .int .u64 A]) W)) (c6 : ∀ W, Tabs W → Calls Tryd.prog 32 #[.agg #[.bool true, .int .u64 M, .int .u64 A], .int .i64 K, .int .u64 X2] W (Makes (.int .i64 0) W)) (c7 : ∀ W, Tabs W → Calls Tryd.prog 34 #[.agg #[.bool true, .int .u64 M, .int .u64 A]] W (Makes (.bool true) W)) (cO : ∀ W, Tabs W → Calls Tryd.prog 19 #[] W (Makes (.bool true) W)) (c10 : ∀ W, Tabs W → Calls Tryd.prog 32 #[.agg #[.bool true, .int .u64 M3, .int .u64 A], .int .i64 K, .int .u64 N] W (Makes (.int .i64 0) W)) (c11 : ∀ W, Tabs W → Calls Tryd.prog 32 #[.agg #[.bool true, .int .u64 M3, .int .u64 A], .int .i64 K, .int .u64 X3] W (Makes (.int .i64 4) W)) (hN : bits .and .i64 U1 65535 = N) (hN2 : IntKind.u64.wrap N = N) (hV : bits .and .i64 U2 65535 = V) (hV2 : IntKind.u64.wrap V = V) (hN0 : (N == 0) = false) (hn0 : ¬ N = 0) (hT2 : V.tmod N = T2) (hX2 : IntKind.u64.wrap (N - 1) = X2) (hX3 : IntKind.u64.wrap (N + 1) = X3) (w : World) (hT : Tabs w) :
    Calls Tryd.prog 7 #[.agg #[.bool true, .int .u64 M, .int .u64 A], .agg #[.int .i64 K, .int .i64 U1, .int .i64 U2]] w (Makes (.bool true) w) := by
  have Cc1 := hide c1
  have Cc2 := hide c2
  have Cc3 := hide c3
  have Cc4 := hide c4
  have Cc5 := hide c5
  have Cc6 := hide c6
  have Cc7 := hide c7
  have CcO := hide cO
  have Cc10 := hide c10
  have Cc11 := hide c11
  clear c1 c2 c3 c4 c5 c6 c7 cO c10 c11
  have SS := cell_same
  have LB' := ltB_add
  have LS := ltB_self
  have LA' := alloc_reads
  have LH := alloc_holds
  go_enter Tryd.func7, Tryd.ntmps7
  go_upto_region 1 with fail
  go_quiet (fail)
  go_wp2_with (first | (go_at_call 10; (first | ((with_reducible refine (Cc1.out _ ?_).mono ?_); (refine hT.behind ?_; repeat (first | with_reducible assumption | with_reducible exact Below.refl _ _ | with_reducible refine Below.drew ?_ | with_reducible refine below_drewN ?_ _ | with_reducible refine bw_alloc ?_ _ | (with_reducible refine bw_set ?_ ?_ _; focus (dsimp only; omega)) | (with_reducible apply bw_behind; with_reducible assumption))))); rintro e wa ⟨rfl, hba⟩; have hra := below_reads hba; have hha := below_holds hba; obtain ⟨ma, hsa⟩ := below_grew hba) | (go_at_call 32; (first | ((with_reducible refine (Cc2.out _ ?_).mono ?_); (refine hT.behind ?_; repeat (first | with_reducible assumption | with_reducible exact Below.refl _ _ | with_reducible refine Below.drew ?_ | with_reducible refine below_drewN ?_ _ | with_reducible refine bw_alloc ?_ _ | (with_reducible refine bw_set ?_ ?_ _; focus (dsimp only; omega)) | (with_reducible apply bw_behind; with_reducible assumption)))) | ((with_reducible refine (Cc3.out _ ?_).mono ?_); (refine hT.behind ?_; repeat (first | with_reducible assumption | with_reducible exact Below.refl _ _ | with_reducible refine Below.drew ?_ | with_reducible refine below_drewN ?_ _ | with_reducible refine bw_alloc ?_ _ | (with_reducible refine bw_set ?_ ?_ _; focus (dsimp only; omega)) | (with_reducible apply bw_behind; with_reducible assumption)))) | ((with_reducible refine (Cc6.out _ ?_).mono ?_); (refine hT.behind ?_; repeat (first | with_reducible assumption | with_reducible exact Below.refl _ _ | with_reducible refine Below.drew ?_ | with_reducible refine below_drewN ?_ _ | with_reducible refine bw_alloc ?_ _ | (with_reducible refine bw_set ?_ ?_ _; focus (dsimp only; omega)) | (with_reducible apply bw_behind; with_reducible assumption)))) | ((with_reducible refine (Cc10.out _ ?_).mono ?_); (refine hT.behind ?_; repeat (first | with_reducible assumption | with_reducible exact Below.refl _ _ | with_reducible refine Below.drew ?_ | with_reducible refine below_drewN ?_ _ | with_reducible refine bw_alloc ?_ _ | (with_reducible refine bw_set ?_ ?_ _; focus (dsimp only; omega)) | (with_reducible apply bw_behind; with_reducible assumption)))) | ((with_reducible refine (Cc11.out _ ?_).mono ?_); (refine hT.behind ?_; repeat (first | with_reducible assumption | with_reducible exact Below.refl _ _ | with_reducible refine Below.drew ?_ | with_reducible refine below_drewN ?_ _ | with_reducible refine bw_alloc ?_ _ | (with_reducible refine bw_set ?_ ?_ _; focus (dsimp only; omega)) | (with_reducible apply bw_behind; with_reducible assumption))))); rintro e wb ⟨rfl, hbb⟩; have hrb := below_reads hbb; have hhb := below_holds hbb; obtain ⟨mb, hsb⟩ := below_grew hbb) | (go_at_call 14; (first | ((with_reducible refine (Cc4.out _ ?_).mono ?_); (refine hT.behind ?_; repeat (first | with_reducible assumption | with_reducible exact Below.refl _ _ | with_reducible refine Below.drew ?_ | with_reducible refine below_drewN ?_ _ | with_reducible refine bw_alloc ?_ _ | (with_reducible refine bw_set ?_ ?_ _; focus (dsimp only; omega)) | (with_reducible apply bw_behind; with_reducible assumption))))); rintro e wd ⟨rfl, hbd⟩; have hrd := below_reads hbd; have hhd := below_holds hbd; obtain ⟨md, hsd⟩ := below_grew hbd) | (go_at_call 15; (first | ((with_reducible refine (Cc5.out _ ?_).mono ?_); (refine hT.behind ?_; repeat (first | with_reducible assumption | with_reducible exact Below.refl _ _ | with_reducible refine Below.drew ?_ | with_reducible refine below_drewN ?_ _ | with_reducible refine bw_alloc ?_ _ | (with_reducible refine bw_set ?_ ?_ _; focus (dsimp only; omega)) | (with_reducible apply bw_behind; with_reducible assumption))))); rintro e we ⟨rfl, hbe⟩; have hre := below_reads hbe; have hhe := below_holds hbe; obtain ⟨me, hse⟩ := below_grew hbe) | (go_at_call 34; (first | ((with_reducible refine (Cc7.out _ ?_).mono ?_); (refine hT.behind ?_; repeat (first | with_reducible assumption | with_reducible exact Below.refl _ _ | with_reducible refine Below.drew ?_ | with_reducible refine below_drewN ?_ _ | with_reducible refine bw_alloc ?_ _ | (with_reducible refine bw_set ?_ ?_ _; focus (dsimp only; omega)) | (with_reducible apply bw_behind; with_reducible assumption))))); rintro e wf ⟨rfl, hbf⟩; have hrf := below_reads hbf; have hhf := below_holds hbf; obtain ⟨mf, hsf⟩ := below_grew hbf) | (go_at_call 19; (first | ((with_reducible refine (CcO.out _ ?_).mono ?_); (refine hT.behind ?_; repeat (first | with_reducible assumption | with_reducible exact Below.refl _ _ | with_reducible refine Below.drew ?_ | with_reducible refine below_drewN ?_ _ | with_reducible refine bw_alloc ?_ _ | (with_reducible refine bw_set ?_ ?_ _; focus (dsimp only; omega)) | (with_reducible apply bw_behind; with_reducible assumption))))); rintro e wz ⟨rfl, hbz⟩; have hrz := below_reads hbz; have hhz := below_holds hbz; obtain ⟨mz, hsz⟩ := below_grew hbz))
  refine bodyPost_ret (v := .bool true) (by simp (maxDischargeDepth := 4) [results, Tryd.results7, go_sem, *]) rfl ?_
  refine ⟨rfl, ?_⟩
  repeat (first | with_reducible assumption | with_reducible exact Below.refl _ _ | with_reducible refine Below.drew ?_ | with_reducible refine below_drewN ?_ _ | with_reducible refine bw_alloc ?_ _ | (with_reducible refine bw_set ?_ ?_ _; focus (dsimp only; omega)) | (with_reducible apply bw_behind; with_reducible assumption))

set_option maxRecDepth 100000 in
set_option maxHeartbeats 8000000 in
theorem walk_yn (M A K U1 U2 N V T2 X2 A2 M3 X1 : Int) (c1 : ∀ W, Tabs W → Calls Tryd.prog 10 #[.agg #[.bool true, .int .u64 M, .int .u64 A]] W (Makes (.agg #[.bool false, .int .u64 M, .int .u64 A]) W)) (c2 : ∀ W, Tabs W → Calls Tryd.prog 32 #[.agg #[.bool false, .int .u64 M, .int .u64 A], .int .i64 K, .int .u64 N] W (Makes (.int .i64 1) W)) (c3 : ∀ W, Tabs W → Calls Tryd.prog 32 #[.agg #[.bool true, .int .u64 M, .int .u64 A], .int .i64 K, .int .u64 N] W (Makes (.int .i64 0) W)) (c4 : ∀ W, Tabs W → Calls Tryd.prog 14 #[.agg #[.bool true, .int .u64 M, .int .u64 A], .int .u64 T2] W (Makes (.agg #[.bool true, .int .u64 M, .int .u64 A2]) W)) (c5 : ∀ W, Tabs W → Calls Tryd.prog 15 #[.agg #[.bool true, .int .u64 M, .int .u64 A], .int .u64 N, .bool true] W (Makes (.agg #[.bool false, .int .u64 M3, .int .u64 A]) W)) (c6 : ∀ W, Tabs W → Calls Tryd.prog 32 #[.agg #[.bool true, .int .u64 M, .int .u64 A], .int .i64 K, .int .u64 X2] W (Makes (.int .i64 0) W)) (c7 : ∀ W, Tabs W → Calls Tryd.prog 34 #[.agg #[.bool true, .int .u64 M, .int .u64 A]] W (Makes (.bool true) W)) (cO : ∀ W, Tabs W → Calls Tryd.prog 19 #[] W (Makes (.bool true) W)) (c8 : ∀ W, Tabs W → Calls Tryd.prog 32 #[.agg #[.bool true, .int .u64 M, .int .u64 A2], .int .i64 K, .int .u64 1] W (Makes (.int .i64 0) W)) (c9 : ∀ W, Tabs W → Calls Tryd.prog 32 #[.agg #[.bool true, .int .u64 M, .int .u64 A2], .int .i64 K, .int .u64 X1] W (Makes (.int .i64 0) W)) (hN : bits .and .i64 U1 65535 = N) (hN2 : IntKind.u64.wrap N = N) (hV : bits .and .i64 U2 65535 = V) (hV2 : IntKind.u64.wrap V = V) (hN0 : (N == 0) = false) (hn0 : ¬ N = 0) (hT2 : V.tmod N = T2) (hX2 : IntKind.u64.wrap (N - 1) = X2) (hX1 : IntKind.u64.wrap (N - T2) = X1) (w : World) (hT : Tabs w) :
    Calls Tryd.prog 7 #[.agg #[.bool true, .int .u64 M, .int .u64 A], .agg #[.int .i64 K, .int .i64 U1, .int .i64 U2]] w (Makes (.bool true) w) := by
  have Cc1 := hide c1
  have Cc2 := hide c2
  have Cc3 := hide c3
  have Cc4 := hide c4
  have Cc5 := hide c5
  have Cc6 := hide c6
  have Cc7 := hide c7
  have CcO := hide cO
  have Cc8 := hide c8
  have Cc9 := hide c9
  clear c1 c2 c3 c4 c5 c6 c7 cO c8 c9
  have SS := cell_same
  have LB' := ltB_add
  have LS := ltB_self
  have LA' := alloc_reads
  have LH := alloc_holds
  go_enter Tryd.func7, Tryd.ntmps7
  go_upto_region 1 with fail
  go_quiet (fail)
  go_wp2_with (first | (go_at_call 10; (first | ((with_reducible refine (Cc1.out _ ?_).mono ?_); (refine hT.behind ?_; repeat (first | with_reducible assumption | with_reducible exact Below.refl _ _ | with_reducible refine Below.drew ?_ | with_reducible refine below_drewN ?_ _ | with_reducible refine bw_alloc ?_ _ | (with_reducible refine bw_set ?_ ?_ _; focus (dsimp only; omega)) | (with_reducible apply bw_behind; with_reducible assumption))))); rintro e wa ⟨rfl, hba⟩; have hra := below_reads hba; have hha := below_holds hba; obtain ⟨ma, hsa⟩ := below_grew hba) | (go_at_call 32; (first | ((with_reducible refine (Cc2.out _ ?_).mono ?_); (refine hT.behind ?_; repeat (first | with_reducible assumption | with_reducible exact Below.refl _ _ | with_reducible refine Below.drew ?_ | with_reducible refine below_drewN ?_ _ | with_reducible refine bw_alloc ?_ _ | (with_reducible refine bw_set ?_ ?_ _; focus (dsimp only; omega)) | (with_reducible apply bw_behind; with_reducible assumption)))) | ((with_reducible refine (Cc3.out _ ?_).mono ?_); (refine hT.behind ?_; repeat (first | with_reducible assumption | with_reducible exact Below.refl _ _ | with_reducible refine Below.drew ?_ | with_reducible refine below_drewN ?_ _ | with_reducible refine bw_alloc ?_ _ | (with_reducible refine bw_set ?_ ?_ _; focus (dsimp only; omega)) | (with_reducible apply bw_behind; with_reducible assumption)))) | ((with_reducible refine (Cc6.out _ ?_).mono ?_); (refine hT.behind ?_; repeat (first | with_reducible assumption | with_reducible exact Below.refl _ _ | with_reducible refine Below.drew ?_ | with_reducible refine below_drewN ?_ _ | with_reducible refine bw_alloc ?_ _ | (with_reducible refine bw_set ?_ ?_ _; focus (dsimp only; omega)) | (with_reducible apply bw_behind; with_reducible assumption)))) | ((with_reducible refine (Cc8.out _ ?_).mono ?_); (refine hT.behind ?_; repeat (first | with_reducible assumption | with_reducible exact Below.refl _ _ | with_reducible refine Below.drew ?_ | with_reducible refine below_drewN ?_ _ | with_reducible refine bw_alloc ?_ _ | (with_reducible refine bw_set ?_ ?_ _; focus (dsimp only; omega)) | (with_reducible apply bw_behind; with_reducible assumption)))) | ((with_reducible refine (Cc9.out _ ?_).mono ?_); (refine hT.behind ?_; repeat (first | with_reducible assumption | with_reducible exact Below.refl _ _ | with_reducible refine Below.drew ?_ | with_reducible refine below_drewN ?_ _ | with_reducible refine bw_alloc ?_ _ | (with_reducible refine bw_set ?_ ?_ _; focus (dsimp only; omega)) | (with_reducible apply bw_behind; with_reducible assumption))))); rintro e wb ⟨rfl, hbb⟩; have hrb := below_reads hbb; have hhb := below_holds hbb; obtain ⟨mb, hsb⟩ := below_grew hbb) | (go_at_call 14; (first | ((with_reducible refine (Cc4.out _ ?_).mono ?_); (refine hT.behind ?_; repeat (first | with_reducible assumption | with_reducible exact Below.refl _ _ | with_reducible refine Below.drew ?_ | with_reducible refine below_drewN ?_ _ | with_reducible refine bw_alloc ?_ _ | (with_reducible refine bw_set ?_ ?_ _; focus (dsimp only; omega)) | (with_reducible apply bw_behind; with_reducible assumption))))); rintro e wd ⟨rfl, hbd⟩; have hrd := below_reads hbd; have hhd := below_holds hbd; obtain ⟨md, hsd⟩ := below_grew hbd) | (go_at_call 15; (first | ((with_reducible refine (Cc5.out _ ?_).mono ?_); (refine hT.behind ?_; repeat (first | with_reducible assumption | with_reducible exact Below.refl _ _ | with_reducible refine Below.drew ?_ | with_reducible refine below_drewN ?_ _ | with_reducible refine bw_alloc ?_ _ | (with_reducible refine bw_set ?_ ?_ _; focus (dsimp only; omega)) | (with_reducible apply bw_behind; with_reducible assumption))))); rintro e we ⟨rfl, hbe⟩; have hre := below_reads hbe; have hhe := below_holds hbe; obtain ⟨me, hse⟩ := below_grew hbe) | (go_at_call 34; (first | ((with_reducible refine (Cc7.out _ ?_).mono ?_); (refine hT.behind ?_; repeat (first | with_reducible assumption | with_reducible exact Below.refl _ _ | with_reducible refine Below.drew ?_ | with_reducible refine below_drewN ?_ _ | with_reducible refine bw_alloc ?_ _ | (with_reducible refine bw_set ?_ ?_ _; focus (dsimp only; omega)) | (with_reducible apply bw_behind; with_reducible assumption))))); rintro e wf ⟨rfl, hbf⟩; have hrf := below_reads hbf; have hhf := below_holds hbf; obtain ⟨mf, hsf⟩ := below_grew hbf) | (go_at_call 19; (first | ((with_reducible refine (CcO.out _ ?_).mono ?_); (refine hT.behind ?_; repeat (first | with_reducible assumption | with_reducible exact Below.refl _ _ | with_reducible refine Below.drew ?_ | with_reducible refine below_drewN ?_ _ | with_reducible refine bw_alloc ?_ _ | (with_reducible refine bw_set ?_ ?_ _; focus (dsimp only; omega)) | (with_reducible apply bw_behind; with_reducible assumption))))); rintro e wz ⟨rfl, hbz⟩; have hrz := below_reads hbz; have hhz := below_holds hbz; obtain ⟨mz, hsz⟩ := below_grew hbz))
  refine bodyPost_ret (v := .bool true) (by simp (maxDischargeDepth := 4) [results, Tryd.results7, go_sem, *]) rfl ?_
  refine ⟨rfl, ?_⟩
  repeat (first | with_reducible assumption | with_reducible exact Below.refl _ _ | with_reducible refine Below.drew ?_ | with_reducible refine below_drewN ?_ _ | with_reducible refine bw_alloc ?_ _ | (with_reducible refine bw_set ?_ ?_ _; focus (dsimp only; omega)) | (with_reducible apply bw_behind; with_reducible assumption))

set_option maxRecDepth 100000 in
set_option maxHeartbeats 8000000 in
theorem walk_yy (M A K U1 U2 N V T2 X2 A2 M3 X1 X3 : Int) (c1 : ∀ W, Tabs W → Calls Tryd.prog 10 #[.agg #[.bool true, .int .u64 M, .int .u64 A]] W (Makes (.agg #[.bool false, .int .u64 M, .int .u64 A]) W)) (c2 : ∀ W, Tabs W → Calls Tryd.prog 32 #[.agg #[.bool false, .int .u64 M, .int .u64 A], .int .i64 K, .int .u64 N] W (Makes (.int .i64 1) W)) (c3 : ∀ W, Tabs W → Calls Tryd.prog 32 #[.agg #[.bool true, .int .u64 M, .int .u64 A], .int .i64 K, .int .u64 N] W (Makes (.int .i64 0) W)) (c4 : ∀ W, Tabs W → Calls Tryd.prog 14 #[.agg #[.bool true, .int .u64 M, .int .u64 A], .int .u64 T2] W (Makes (.agg #[.bool true, .int .u64 M, .int .u64 A2]) W)) (c5 : ∀ W, Tabs W → Calls Tryd.prog 15 #[.agg #[.bool true, .int .u64 M, .int .u64 A], .int .u64 N, .bool true] W (Makes (.agg #[.bool true, .int .u64 M3, .int .u64 A]) W)) (c6 : ∀ W, Tabs W → Calls Tryd.prog 32 #[.agg #[.bool true, .int .u64 M, .int .u64 A], .int .i64 K, .int .u64 X2] W (Makes (.int .i64 0) W)) (c7 : ∀ W, Tabs W → Calls Tryd.prog 34 #[.agg #[.bool true, .int .u64 M, .int .u64 A]] W (Makes (.bool true) W)) (cO : ∀ W, Tabs W → Calls Tryd.prog 19 #[] W (Makes (.bool true) W)) (c8 : ∀ W, Tabs W → Calls Tryd.prog 32 #[.agg #[.bool true, .int .u64 M, .int .u64 A2], .int .i64 K, .int .u64 1] W (Makes (.int .i64 0) W)) (c9 : ∀ W, Tabs W → Calls Tryd.prog 32 #[.agg #[.bool true, .int .u64 M, .int .u64 A2], .int .i64 K, .int .u64 X1] W (Makes (.int .i64 0) W)) (c10 : ∀ W, Tabs W → Calls Tryd.prog 32 #[.agg #[.bool true, .int .u64 M3, .int .u64 A], .int .i64 K, .int .u64 N] W (Makes (.int .i64 0) W)) (c11 : ∀ W, Tabs W → Calls Tryd.prog 32 #[.agg #[.bool true, .int .u64 M3, .int .u64 A], .int .i64 K, .int .u64 X3] W (Makes (.int .i64 4) W)) (hN : bits .and .i64 U1 65535 = N) (hN2 : IntKind.u64.wrap N = N) (hV : bits .and .i64 U2 65535 = V) (hV2 : IntKind.u64.wrap V = V) (hN0 : (N == 0) = false) (hn0 : ¬ N = 0) (hT2 : V.tmod N = T2) (hX2 : IntKind.u64.wrap (N - 1) = X2) (hX1 : IntKind.u64.wrap (N - T2) = X1) (hX3 : IntKind.u64.wrap (N + 1) = X3) (w : World) (hT : Tabs w) :
    Calls Tryd.prog 7 #[.agg #[.bool true, .int .u64 M, .int .u64 A], .agg #[.int .i64 K, .int .i64 U1, .int .i64 U2]] w (Makes (.bool true) w) := by
  have Cc1 := hide c1
  have Cc2 := hide c2
  have Cc3 := hide c3
  have Cc4 := hide c4
  have Cc5 := hide c5
  have Cc6 := hide c6
  have Cc7 := hide c7
  have CcO := hide cO
  have Cc8 := hide c8
  have Cc9 := hide c9
  have Cc10 := hide c10
  have Cc11 := hide c11
  clear c1 c2 c3 c4 c5 c6 c7 cO c8 c9 c10 c11
  have SS := cell_same
  have LB' := ltB_add
  have LS := ltB_self
  have LA' := alloc_reads
  have LH := alloc_holds
  go_enter Tryd.func7, Tryd.ntmps7
  go_upto_region 1 with fail
  go_quiet (fail)
  go_wp2_with (first | (go_at_call 10; (first | ((with_reducible refine (Cc1.out _ ?_).mono ?_); (refine hT.behind ?_; repeat (first | with_reducible assumption | with_reducible exact Below.refl _ _ | with_reducible refine Below.drew ?_ | with_reducible refine below_drewN ?_ _ | with_reducible refine bw_alloc ?_ _ | (with_reducible refine bw_set ?_ ?_ _; focus (dsimp only; omega)) | (with_reducible apply bw_behind; with_reducible assumption))))); rintro e wa ⟨rfl, hba⟩; have hra := below_reads hba; have hha := below_holds hba; obtain ⟨ma, hsa⟩ := below_grew hba) | (go_at_call 32; (first | ((with_reducible refine (Cc2.out _ ?_).mono ?_); (refine hT.behind ?_; repeat (first | with_reducible assumption | with_reducible exact Below.refl _ _ | with_reducible refine Below.drew ?_ | with_reducible refine below_drewN ?_ _ | with_reducible refine bw_alloc ?_ _ | (with_reducible refine bw_set ?_ ?_ _; focus (dsimp only; omega)) | (with_reducible apply bw_behind; with_reducible assumption)))) | ((with_reducible refine (Cc3.out _ ?_).mono ?_); (refine hT.behind ?_; repeat (first | with_reducible assumption | with_reducible exact Below.refl _ _ | with_reducible refine Below.drew ?_ | with_reducible refine below_drewN ?_ _ | with_reducible refine bw_alloc ?_ _ | (with_reducible refine bw_set ?_ ?_ _; focus (dsimp only; omega)) | (with_reducible apply bw_behind; with_reducible assumption)))) | ((with_reducible refine (Cc6.out _ ?_).mono ?_); (refine hT.behind ?_; repeat (first | with_reducible assumption | with_reducible exact Below.refl _ _ | with_reducible refine Below.drew ?_ | with_reducible refine below_drewN ?_ _ | with_reducible refine bw_alloc ?_ _ | (with_reducible refine bw_set ?_ ?_ _; focus (dsimp only; omega)) | (with_reducible apply bw_behind; with_reducible assumption)))) | ((with_reducible refine (Cc8.out _ ?_).mono ?_); (refine hT.behind ?_; repeat (first | with_reducible assumption | with_reducible exact Below.refl _ _ | with_reducible refine Below.drew ?_ | with_reducible refine below_drewN ?_ _ | with_reducible refine bw_alloc ?_ _ | (with_reducible refine bw_set ?_ ?_ _; focus (dsimp only; omega)) | (with_reducible apply bw_behind; with_reducible assumption)))) | ((with_reducible refine (Cc9.out _ ?_).mono ?_); (refine hT.behind ?_; repeat (first | with_reducible assumption | with_reducible exact Below.refl _ _ | with_reducible refine Below.drew ?_ | with_reducible refine below_drewN ?_ _ | with_reducible refine bw_alloc ?_ _ | (with_reducible refine bw_set ?_ ?_ _; focus (dsimp only; omega)) | (with_reducible apply bw_behind; with_reducible assumption)))) | ((with_reducible refine (Cc10.out _ ?_).mono ?_); (refine hT.behind ?_; repeat (first | with_reducible assumption | with_reducible exact Below.refl _ _ | with_reducible refine Below.drew ?_ | with_reducible refine below_drewN ?_ _ | with_reducible refine bw_alloc ?_ _ | (with_reducible refine bw_set ?_ ?_ _; focus (dsimp only; omega)) | (with_reducible apply bw_behind; with_reducible assumption)))) | ((with_reducible refine (Cc11.out _ ?_).mono ?_); (refine hT.behind ?_; repeat (first | with_reducible assumption | with_reducible exact Below.refl _ _ | with_reducible refine Below.drew ?_ | with_reducible refine below_drewN ?_ _ | with_reducible refine bw_alloc ?_ _ | (with_reducible refine bw_set ?_ ?_ _; focus (dsimp only; omega)) | (with_reducible apply bw_behind; with_reducible assumption))))); rintro e wb ⟨rfl, hbb⟩; have hrb := below_reads hbb; have hhb := below_holds hbb; obtain ⟨mb, hsb⟩ := below_grew hbb) | (go_at_call 14; (first | ((with_reducible refine (Cc4.out _ ?_).mono ?_); (refine hT.behind ?_; repeat (first | with_reducible assumption | with_reducible exact Below.refl _ _ | with_reducible refine Below.drew ?_ | with_reducible refine below_drewN ?_ _ | with_reducible refine bw_alloc ?_ _ | (with_reducible refine bw_set ?_ ?_ _; focus (dsimp only; omega)) | (with_reducible apply bw_behind; with_reducible assumption))))); rintro e wd ⟨rfl, hbd⟩; have hrd := below_reads hbd; have hhd := below_holds hbd; obtain ⟨md, hsd⟩ := below_grew hbd) | (go_at_call 15; (first | ((with_reducible refine (Cc5.out _ ?_).mono ?_); (refine hT.behind ?_; repeat (first | with_reducible assumption | with_reducible exact Below.refl _ _ | with_reducible refine Below.drew ?_ | with_reducible refine below_drewN ?_ _ | with_reducible refine bw_alloc ?_ _ | (with_reducible refine bw_set ?_ ?_ _; focus (dsimp only; omega)) | (with_reducible apply bw_behind; with_reducible assumption))))); rintro e we ⟨rfl, hbe⟩; have hre := below_reads hbe; have hhe := below_holds hbe; obtain ⟨me, hse⟩ := below_grew hbe) | (go_at_call 34; (first | ((with_reducible refine (Cc7.out _ ?_).mono ?_); (refine hT.behind ?_; repeat (first | with_reducible assumption | with_reducible exact Below.refl _ _ | with_reducible refine Below.drew ?_ | with_reducible refine below_drewN ?_ _ | with_reducible refine bw_alloc ?_ _ | (with_reducible refine bw_set ?_ ?_ _; focus (dsimp only; omega)) | (with_reducible apply bw_behind; with_reducible assumption))))); rintro e wf ⟨rfl, hbf⟩; have hrf := below_reads hbf; have hhf := below_holds hbf; obtain ⟨mf, hsf⟩ := below_grew hbf) | (go_at_call 19; (first | ((with_reducible refine (CcO.out _ ?_).mono ?_); (refine hT.behind ?_; repeat (first | with_reducible assumption | with_reducible exact Below.refl _ _ | with_reducible refine Below.drew ?_ | with_reducible refine below_drewN ?_ _ | with_reducible refine bw_alloc ?_ _ | (with_reducible refine bw_set ?_ ?_ _; focus (dsimp only; omega)) | (with_reducible apply bw_behind; with_reducible assumption))))); rintro e wz ⟨rfl, hbz⟩; have hrz := below_reads hbz; have hhz := below_holds hbz; obtain ⟨mz, hsz⟩ := below_grew hbz))
  refine bodyPost_ret (v := .bool true) (by simp (maxDischargeDepth := 4) [results, Tryd.results7, go_sem, *]) rfl ?_
  refine ⟨rfl, ?_⟩
  repeat (first | with_reducible assumption | with_reducible exact Below.refl _ _ | with_reducible refine Below.drew ?_ | with_reducible refine below_drewN ?_ _ | with_reducible refine bw_alloc ?_ _ | (with_reducible refine bw_set ?_ ?_ _; focus (dsimp only; omega)) | (with_reducible apply bw_behind; with_reducible assumption))

theorem low16 (a : Int) : ∃ n : Nat, n < 65536 ∧ bits .and .i64 a 65535 = (n : Int) := by
  have h : bits .and .i64 a 65535 = IntKind.i64.wrap ((BitVec.ofInt 64 a &&& BitVec.ofInt 64 65535).toNat : Int) := rfl
  have hl : (BitVec.ofInt 64 a &&& BitVec.ofInt 64 65535).toNat ≤ 65535 := by
    rw [BitVec.toNat_and]
    exact Nat.le_trans Nat.and_le_right (by decide)
  refine ⟨(BitVec.ofInt 64 a &&& BitVec.ofInt 64 65535).toNat, by omega, ?_⟩
  rw [h, IntKind.wrap_i64]
  omega
theorem check_zero {q : Bool} {m a p n : Nat} (h : checkN q m a p n = 0) : q = true ∧ rightB m a = true ∧ mK m = 0 ∧ subN p (mP m) = true ∧ lB m a ≤ a ∧ a + n ≤ lT m a := by
  unfold checkN at h
  cases hl : liveB q m a with
  | false => rw [hl] at h; cases h
  | true =>
    rw [hl] at h
    obtain ⟨l1, l2⟩ := live_tag hl
    by_cases hk : mK m = 0
    · rw [decide_eq_true hk] at h
      cases hs : subN p (mP m) with
      | false => rw [hs] at h; cases h
      | true =>
        rw [hs] at h
        by_cases hd : lB m a ≤ a ∧ a + n ≤ lT m a
        · exact ⟨l1, l2, hk, rfl, hd.1, hd.2⟩
        · rw [decide_eq_false hd] at h; cases h
    · rw [decide_eq_false hk] at h; cases h
theorem check_fine {q : Bool} {m a p n : Nat} (h1 : q = true) (h2 : rightB m a = true) (h3 : mK m = 0) (h4 : subN p (mP m) = true) (h5 : lB m a ≤ a) (h6 : a + n ≤ lT m a) : checkN q m a p n = 0 := by
  unfold checkN liveB
  rw [h1, h2, h4, decide_eq_true h3, decide_eq_true ⟨h5, h6⟩]
  rfl
theorem check_out {q : Bool} {m a p n : Nat} (h1 : q = true) (h2 : rightB m a = true) (h3 : mK m = 0) (h4 : subN p (mP m) = true) (h5 : ¬ (lB m a ≤ a ∧ a + n ≤ lT m a)) : checkN q m a p n = 4 := by
  unfold checkN liveB
  rw [h1, h2, h4, decide_eq_true h3, decide_eq_false h5]
  rfl
theorem check_none (m a p n : Nat) : checkN false m a p n = 1 := by
  unfold checkN liveB
  rfl

theorem walk (q : Bool) (m a : BitVec 64) (u0 u1 u2 : Int) (w : World) (hT : Tabs w) : Calls Tryd.prog 7 #[.agg #[.bool q, .int .u64 (m.toNat : Int), .int .u64 (a.toNat : Int)], .agg #[.int .i64 u0, .int .i64 u1, .int .i64 u2]] w fun e w' => e = .returned (.bool true) ∧ Below w.heap.size w w' := by
  have hm := toNat_lt m
  have ha := toNat_lt a
  generalize m.toNat = m at *
  generalize a.toNat = a at *
  obtain ⟨n, hn, hN⟩ := low16 u1
  obtain ⟨v, hv, hV⟩ := low16 u2
  have hN2 : IntKind.u64.wrap (n : Int) = (n : Int) := wrap_nat (by omega)
  have hV2 : IntKind.u64.wrap (v : Int) = (v : Int) := wrap_nat (by omega)
  have c1 := fun W (hW : Tabs W) => clear_any q (m : Int) (a : Int) W hW.t
  have c2 := fun W (hW : Tabs W) => check_any false m a u0 n hm ha (by omega) W hW
  have c3 := fun W (hW : Tabs W) => check_any q m a u0 n hm ha (by omega) W hW
  have cO := fun W (hW : Tabs W) => one_any W hW.t
  simp only [check_none] at c2
  by_cases hR : checkN q m a (needsN u0) n = 0
  · simp only [hR] at c3
    obtain ⟨g1, g2, g3, g4, g5, g6⟩ := check_zero hR
    have hle := lT_lt m a
    by_cases hn0 : n = 0
    · subst hn0
      exact walk_2 _ _ _ _ _ _ _ c1 c2 c3 cO hN hN2 hV hV2 w hT
    · subst g1
      have ht : v % n < n := Nat.mod_lt _ (by omega)
      have c4 := fun W (hW : Tabs W) => move_any true m a (v % n) hm W hW.t
      rw [Nat.mod_eq_of_lt (show a + v % n < 18446744073709551616 by omega)] at c4
      have c6 := fun W (hW : Tabs W) => check_any true m a u0 (n - 1) hm ha (by omega) W hW
      simp only [check_fine rfl g2 g3 g4 g5 (show a + (n - 1) ≤ lT m a by omega)] at c6
      have c7 := fun W (hW : Tabs W) => rlives_any true m a hm W hW.t
      rw [show liveB true m a = true by unfold liveB; rw [g2]; rfl] at c7
      have k1 : ((n : Int) == 0) = false := by rw [beq_eq_false_iff_ne]; omega
      have k2 : ¬ (n : Int) = 0 := by omega
      have k3 : (v : Int).tmod (n : Int) = ((v % n : Nat) : Int) := by rw [Int.tmod_eq_emod_of_nonneg (by omega)]; omega
      have k4 : IntKind.u64.wrap ((n : Int) - 1) = ((n - 1 : Nat) : Int) := wrap_int (by omega)
      have k5 : IntKind.u64.wrap ((n : Int) - ((v % n : Nat) : Int)) = ((n - v % n : Nat) : Int) := wrap_int (by omega)
      have k6 : IntKind.u64.wrap ((n : Int) + 1) = ((n + 1 : Nat) : Int) := wrap_int (by omega)
      have hb : a < 281474976710656 ∧ a + n ≤ 281474976710656 := by omega
      obtain ⟨e, D, U, M3, hb⟩ := bnd_ex m a n hb
      obtain ⟨b1, b2, b3, b4, b5, b6, b7⟩ := hb.made
      have c5 := fun W (hW : Tabs W) => bound_yes true true m a n e D U M3 hm hb W hW.t
      have hd : addrQ true m a (a + v % n) = true → (∀ W, Tabs W → Calls Tryd.prog 32 #[.agg #[.bool (true), .int .u64 ((m : Nat) : Int), .int .u64 ((a + v % n : Nat) : Int)], .int .i64 u0, .int .u64 ((1 : Nat) : Int)] W (Makes (.int .i64 ((0 : Nat) : Int)) W)) ∧
          (∀ W, Tabs W → Calls Tryd.prog 32 #[.agg #[.bool (true), .int .u64 ((m : Nat) : Int), .int .u64 ((a + v % n : Nat) : Int)], .int .i64 u0, .int .u64 ((n - v % n : Nat) : Int)] W (Makes (.int .i64 ((0 : Nat) : Int)) W)) := fun h => by
        unfold addrQ at h
        rw [Bool.and_eq_true, Bool.and_eq_true, decide_eq_true_eq] at h
        obtain ⟨ho, hl, e1, e2⟩ := h
        have hr := look_right g2 rfl hl
        have j1 := fun W (hW : Tabs W) => check_any true m (a + v % n) u0 1 hm (by omega) (by omega) W hW
        have j2 := fun W (hW : Tabs W) => check_any true m (a + v % n) u0 (n - v % n) hm (by omega) (by omega) W hW
        simp only [check_fine rfl hr g3 g4 (show lB m (a + v % n) ≤ a + v % n by omega) (show a + v % n + 1 ≤ lT m (a + v % n) by omega)] at j1
        simp only [check_fine rfl hr g3 g4 (show lB m (a + v % n) ≤ a + v % n by omega) (show a + v % n + (n - v % n) ≤ lT m (a + v % n) by omega)] at j2
        exact ⟨j1, j2⟩
      have hbq : bndQ true m a n true D U = true → (∀ W, Tabs W → Calls Tryd.prog 32 #[.agg #[.bool (true), .int .u64 ((M3 : Nat) : Int), .int .u64 ((a : Nat) : Int)], .int .i64 u0, .int .u64 ((n : Nat) : Int)] W (Makes (.int .i64 ((0 : Nat) : Int)) W)) ∧
          (∀ W, Tabs W → Calls Tryd.prog 32 #[.agg #[.bool (true), .int .u64 ((M3 : Nat) : Int), .int .u64 ((a : Nat) : Int)], .int .i64 u0, .int .u64 ((n + 1 : Nat) : Int)] W (Makes (.int .i64 ((4 : Nat) : Int)) W)) := fun h => by
        unfold bndQ at h
        rw [Bool.not_true, Bool.false_or, Bool.and_eq_true, Bool.and_eq_true, decide_eq_true_eq, decide_eq_true_eq] at h
        obtain ⟨_, _, e1, e2⟩ := h
        have j1 := fun W (hW : Tabs W) => check_any true M3 a u0 n b7 ha (by omega) W hW
        have j2 := fun W (hW : Tabs W) => check_any true M3 a u0 (n + 1) b7 ha (by omega) W hW
        simp only [check_fine rfl b6 (b5.trans g3) (show subN (needsN u0) (mP M3) = true by rw [b4]; exact g4) (show lB M3 a ≤ a by omega) (show a + n ≤ lT M3 a by omega)] at j1
        simp only [check_out rfl b6 (b5.trans g3) (show subN (needsN u0) (mP M3) = true by rw [b4]; exact g4) (show ¬ (lB M3 a ≤ a ∧ a + (n + 1) ≤ lT M3 a) by omega)] at j2
        exact ⟨j1, j2⟩
      cases hq1 : addrQ true m a (a + v % n) with
      | false =>
        rw [hq1] at c4
        cases hq2 : bndQ true m a n true D U with
        | false =>
          rw [hq2] at c5
          exact walk_nn _ _ _ _ _ _ _ _ _ _ _ c1 c2 c3 c4 c5 c6 c7 cO hN hN2 hV hV2 k1 k2 k3 k4 w hT
        | true =>
          rw [hq2] at c5
          obtain ⟨c10, c11⟩ := hbq hq2
          exact walk_ny _ _ _ _ _ _ _ _ _ _ _ _ c1 c2 c3 c4 c5 c6 c7 cO c10 c11 hN hN2 hV hV2 k1 k2 k3 k4 k6 w hT
      | true =>
        rw [hq1] at c4
        obtain ⟨c8, c9⟩ := hd hq1
        cases hq2 : bndQ true m a n true D U with
        | false =>
          rw [hq2] at c5
          exact walk_yn _ _ _ _ _ _ _ _ _ _ _ _ c1 c2 c3 c4 c5 c6 c7 cO c8 c9 hN hN2 hV hV2 k1 k2 k3 k4 k5 w hT
        | true =>
          rw [hq2] at c5
          obtain ⟨c10, c11⟩ := hbq hq2
          exact walk_yy _ _ _ _ _ _ _ _ _ _ _ _ _ c1 c2 c3 c4 c5 c6 c7 cO c8 c9 c10 c11 hN hN2 hV hV2 k1 k2 k3 k4 k5 k6 w hT
  · exact walk_1 _ _ _ _ _ _ _ _ _ c1 c2 c3 cO hN hN2 hV hV2 (by rw [beq_eq_false_iff_ne]; omega) w hT
open Go.ChangeShapes Go.WideShapes Go.ChangeAt
set_option maxRecDepth 100000 in
theorem walks : Frame.WalksLaid [("mintmark/perm.accesses", Rows.laid_mintmark_perm_accesses), ("mintmark/bounds.places", Rows.laid_mintmark_bounds_places)] 7 Tryd.f7 := by
  intro H enc W base args ds ps hL hval hA
  rw [Tryd.params7] at hA hval
  obtain ⟨v0, v1, d0, d1, p0, p1, hargs, rfl, rfl, h0, h1⟩ := trodAll_two hA
  obtain rfl : args = #[v0, v1] := by cases args; simp_all
  obtain ⟨cs0, rfl, hf0⟩ := Frame.open_struct (F := 4) (ks := [.inr false, .inl .u64, .inl .u64]) Tryd.underlying24 (by kernel_rfl) (hval 0 24 v0 rfl rfl) h0
  match cs0, hf0 with
  | [_, _, _], ⟨⟨z0_0, rfl⟩, ⟨z0_1, rfl, wz0_1⟩, ⟨z0_2, rfl, wz0_2⟩, _⟩ =>
  obtain ⟨Z0_1, rfl⟩ := Frame.wf_u64 wz0_1
  obtain ⟨Z0_2, rfl⟩ := Frame.wf_u64 wz0_2
  obtain ⟨zs1, rfl, hl1, hz1⟩ := Frame.open_arr Tryd.underlying50 Tryd.underlying3 (by kernel_rfl) (by kernel_rfl) (hval 1 50 v1 rfl rfl) h1
  obtain ⟨z1_0, z1_1, z1_2, rfl⟩ := Frame.arr3 hl1
  exact walk z0_0 Z0_1 Z0_2 z1_0 z1_1 z1_2 W (both_of_laid hL)
set_option maxRecDepth 100000 in
theorem said : Rows.AlgebraChecksSaid :=
  OpenClaim.holds_of_wide 7 Tryd.f7 rfl rfl rfl rfl rfl rfl rfl ⟨rfl, rfl, rfl, rfl, rfl⟩ rfl rfl rfl rfl rfl (by kernel_rfl) Tryd.func7 (by kernel_rfl)
    (of_decide_eq_true (by kernel_rfl)) (by unfold Func.isWrapper; first | (rw [if_pos (by decide +kernel)]; kernel_rfl) | (rw [if_neg (by decide +kernel)]; exact ⟨rfl, rfl⟩))
    (fun os started H enc _ => Frame.liftLaid [("mintmark/perm.accesses", Rows.laid_mintmark_perm_accesses), ("mintmark/bounds.places", Rows.laid_mintmark_bounds_places)] os started H enc _ _ Rows.algebraChecksSpec 4 (by kernel_rfl) Tryd.func7 Tryd.underlying4 (by kernel_rfl) rfl (by kernel_rfl)
      (fun ds h => by match ds, h with | [_, _], _ => exact ⟨rfl, rfl, rfl⟩)
      (ChangeSpec.witness_shaped (enc := enc) (C := Tryd.checked) (os := os) (X := fun w _ => laidMetH Tryd.prog [("mintmark/perm.accesses", Rows.laid_mintmark_perm_accesses), ("mintmark/bounds.places", Rows.laid_mintmark_bounds_places)] w) false (World.doorLaid Tryd.prog 400 os) #[.agg #[.bool false, .int .u64 0, .int .u64 0], .agg #[.int .i64 0, .int .i64 0, .int .i64 0]] 8 rfl (World.shaped_of_RefB (by kernel_rfl) (by kernel_rfl)) (by kernel_rfl) (by kernel_rfl) (by kernel_rfl) (both_met os _)) walks)
set_option maxRecDepth 100000 in
theorem proved : Rows.AlgebraChecksCardSaid :=
  Claim7.holds_tied_plain_at .later [] [.data, .data] true _ false said (fun _ h => by cases h) (by kernel_rfl) (fun _ h => by cases h) algebraChecks_row_tie rfl ⟨rfl, rfl⟩ (by kernel_rfl) rfl
    (fun f fn hf hfn => by
      obtain rfl : f = 7 := Option.some.inj ((show Tryd.prog.funcNamed "mintmark/mintmarklaw06.AlgebraChecks" = some 7 by kernel_rfl).symm.trans hf) |>.symm
      obtain rfl : fn = Tryd.f7 := (Option.some.inj (Tryd.func7.symm.trans hfn)).symm
      exact ⟨by kernel_rfl, fun j t ht => by
        rw [Tryd.params7] at ht
        have hm : t ∈ [24, 50] := by have := Array.mem_of_getElem? ht; simp at this; simp; first | omega | grind
        have hall : ([24, 50].all fun u => !Tryd.prog.wantsStandIn u) = true := by kernel_rfl
        exact (show Tryd.prog.wantsStandIn t = false by simpa using List.all_eq_true.1 hall t hm)⟩)
    (by kernel_rfl)
end Go.Proofs.YtbncoiejbclpjaaDoor.AlgebraChecks
