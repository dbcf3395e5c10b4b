/-
  What the document's own answers of layer 6 are, over letters, way by way.
-/
import Derived.Test.YtbncoiejbclpjaaDoorCapRef4
import Derived.Test.YtbncoiejbclpjaaDoorMore
import Derived.Deep.DeepCutAuto
import Derived.Deep.RegionHeld3
namespace Go.Proofs.YtbncoiejbclpjaaDoor
open Go.RowKit Words FieldMath BoundsMath

set_option maxHeartbeats 4000000 in
theorem rlive_no (M A : Int) (w : World) (_hT : Tab w) :
    Calls Tryd.prog 61 #[.agg #[.bool false, .int .u64 M, .int .u64 A]] w (Makes (.bool false) w) := by
  have SS := cell_same
  have LB' := ltB_add
  have LS := ltB_self
  have LA' := alloc_reads
  have LH := alloc_holds
  go_enter Tryd.func61, Tryd.ntmps61
  go_wp2_with fail
  refine bodyPost_ret (v := .bool false) (by simp (maxDischargeDepth := 4) [results, Tryd.results61, go_sem, *]) rfl ?_
  refine ⟨rfl, ?_⟩
  repeat (first | with_reducible assumption | with_reducible exact Below.refl _ _ | with_reducible refine Below.drew ?_ | with_reducible refine below_drewN ?_ _ | with_reducible refine bw_alloc ?_ _ | (with_reducible refine bw_set ?_ ?_ _; focus (dsimp only; omega)) | (with_reducible apply bw_behind; with_reducible assumption))

set_option maxHeartbeats 4000000 in
theorem rlive_yes (R : Bool) (M A : Int) (c1 : ∀ W, Tab W → Calls Tryd.prog 86 #[.agg #[.bool true, .int .u64 M, .int .u64 A]] W (Makes (.bool R) W)) (w : World) (hT : Tab w) :
    Calls Tryd.prog 61 #[.agg #[.bool true, .int .u64 M, .int .u64 A]] w (Makes (.bool R) w) := by
  have Cc1 := hide c1
  clear c1
  have SS := cell_same
  have LB' := ltB_add
  have LS := ltB_self
  have LA' := alloc_reads
  have LH := alloc_holds
  go_enter Tryd.func61, Tryd.ntmps61
  go_wp2_with (first | (go_at_call 86; (first | ((with_reducible refine (Cc1.out _ ?_).mono ?_); (refine hT.behind ?_; repeat (first | with_reducible assumption | with_reducible exact Below.refl _ _ | with_reducible refine Below.drew ?_ | with_reducible refine below_drewN ?_ _ | with_reducible refine bw_alloc ?_ _ | (with_reducible refine bw_set ?_ ?_ _; focus (dsimp only; omega)) | (with_reducible apply bw_behind; with_reducible assumption))))); rintro e wa ⟨rfl, hba⟩; have hra := below_reads hba; have hha := below_holds hba; obtain ⟨ma, hsa⟩ := below_grew hba))
  refine bodyPost_ret (v := .bool R) (by simp (maxDischargeDepth := 4) [results, Tryd.results61, go_sem, *]) rfl ?_
  refine ⟨rfl, ?_⟩
  repeat (first | with_reducible assumption | with_reducible exact Below.refl _ _ | with_reducible refine Below.drew ?_ | with_reducible refine below_drewN ?_ _ | with_reducible refine bw_alloc ?_ _ | (with_reducible refine bw_set ?_ ?_ _; focus (dsimp only; omega)) | (with_reducible apply bw_behind; with_reducible assumption))

set_option maxHeartbeats 4000000 in
theorem rlives_let (q L : Bool) (M A : Int) (c1 : ∀ W, Tab W → Calls Tryd.prog 61 #[.agg #[.bool q, .int .u64 M, .int .u64 A]] W (Makes (.bool L) W)) (w : World) (hT : Tab w) :
    Calls Tryd.prog 34 #[.agg #[.bool q, .int .u64 M, .int .u64 A]] w (Makes (.bool L) w) := by
  have Cc1 := hide c1
  clear c1
  have SS := cell_same
  have LB' := ltB_add
  have LS := ltB_self
  have LA' := alloc_reads
  have LH := alloc_holds
  go_enter Tryd.func34, Tryd.ntmps34
  go_wp2_with (first | (go_at_call 61; (first | ((with_reducible refine (Cc1.out _ ?_).mono ?_); (refine hT.behind ?_; repeat (first | with_reducible assumption | with_reducible exact Below.refl _ _ | with_reducible refine Below.drew ?_ | with_reducible refine below_drewN ?_ _ | with_reducible refine bw_alloc ?_ _ | (with_reducible refine bw_set ?_ ?_ _; focus (dsimp only; omega)) | (with_reducible apply bw_behind; with_reducible assumption))))); rintro e wa ⟨rfl, hba⟩; have hra := below_reads hba; have hha := below_holds hba; obtain ⟨ma, hsa⟩ := below_grew hba))
  refine bodyPost_ret (v := .bool L) (by simp (maxDischargeDepth := 4) [results, Tryd.results34, go_sem, *]) rfl ?_
  refine ⟨rfl, ?_⟩
  repeat (first | with_reducible assumption | with_reducible exact Below.refl _ _ | with_reducible refine Below.drew ?_ | with_reducible refine below_drewN ?_ _ | with_reducible refine bw_alloc ?_ _ | (with_reducible refine bw_set ?_ ?_ _; focus (dsimp only; omega)) | (with_reducible apply bw_behind; with_reducible assumption))

set_option maxRecDepth 100000 in
set_option maxHeartbeats 4000000 in
theorem rkind_let (q : Bool) (M A S K : Int) (hS : M / 281474976710656 = S) (hK : S.tmod 4096 = K) (w : World) (_hT : Tab w) :
    Calls Tryd.prog 62 #[.agg #[.bool q, .int .u64 M, .int .u64 A]] w (Makes (.int .u64 K) w) := by
  have SS := cell_same
  have LB' := ltB_add
  have LS := ltB_self
  have LA' := alloc_reads
  have LH := alloc_holds
  go_enter Tryd.func62, Tryd.ntmps62
  go_wp2_with fail
  refine bodyPost_ret (v := .int .u64 K) (by simp (maxDischargeDepth := 4) [results, Tryd.results62, go_sem, *]) rfl ?_
  refine ⟨rfl, ?_⟩
  repeat (first | with_reducible assumption | with_reducible exact Below.refl _ _ | with_reducible refine Below.drew ?_ | with_reducible refine below_drewN ?_ _ | with_reducible refine bw_alloc ?_ _ | (with_reducible refine bw_set ?_ ?_ _; focus (dsimp only; omega)) | (with_reducible apply bw_behind; with_reducible assumption))

set_option maxHeartbeats 4000000 in
theorem rperms_let (q : Bool) (M A S P : Int) (hS : M / 4294967296 = S) (hP : S.tmod 512 = P) (w : World) (_hT : Tab w) :
    Calls Tryd.prog 50 #[.agg #[.bool q, .int .u64 M, .int .u64 A]] w (Makes (.int .u64 P) w) := by
  have SS := cell_same
  have LB' := ltB_add
  have LS := ltB_self
  have LA' := alloc_reads
  have LH := alloc_holds
  go_enter Tryd.func50, Tryd.ntmps50
  go_wp2_with fail
  refine bodyPost_ret (v := .int .u64 P) (by simp (maxDischargeDepth := 4) [results, Tryd.results50, go_sem, *]) rfl ?_
  refine ⟨rfl, ?_⟩
  repeat (first | with_reducible assumption | with_reducible exact Below.refl _ _ | with_reducible refine Below.drew ?_ | with_reducible refine below_drewN ?_ _ | with_reducible refine bw_alloc ?_ _ | (with_reducible refine bw_set ?_ ?_ _; focus (dsimp only; omega)) | (with_reducible apply bw_behind; with_reducible assumption))

set_option maxHeartbeats 4000000 in
theorem ropen_no (q : Bool) (M A : Int) (c1 : ∀ W, Tab W → Calls Tryd.prog 61 #[.agg #[.bool q, .int .u64 M, .int .u64 A]] W (Makes (.bool false) W)) (w : World) (hT : Tab w) :
    Calls Tryd.prog 43 #[.agg #[.bool q, .int .u64 M, .int .u64 A]] w (Makes (.bool false) w) := by
  have Cc1 := hide c1
  clear c1
  have SS := cell_same
  have LB' := ltB_add
  have LS := ltB_self
  have LA' := alloc_reads
  have LH := alloc_holds
  go_enter Tryd.func43, Tryd.ntmps43
  go_wp2_with (first | (go_at_call 61; (first | ((with_reducible refine (Cc1.out _ ?_).mono ?_); (refine hT.behind ?_; repeat (first | with_reducible assumption | with_reducible exact Below.refl _ _ | with_reducible refine Below.drew ?_ | with_reducible refine below_drewN ?_ _ | with_reducible refine bw_alloc ?_ _ | (with_reducible refine bw_set ?_ ?_ _; focus (dsimp only; omega)) | (with_reducible apply bw_behind; with_reducible assumption))))); rintro e wa ⟨rfl, hba⟩; have hra := below_reads hba; have hha := below_holds hba; obtain ⟨ma, hsa⟩ := below_grew hba))
  refine bodyPost_ret (v := .bool false) (by simp (maxDischargeDepth := 4) [results, Tryd.results43, go_sem, *]) rfl ?_
  refine ⟨rfl, ?_⟩
  repeat (first | with_reducible assumption | with_reducible exact Below.refl _ _ | with_reducible refine Below.drew ?_ | with_reducible refine below_drewN ?_ _ | with_reducible refine bw_alloc ?_ _ | (with_reducible refine bw_set ?_ ?_ _; focus (dsimp only; omega)) | (with_reducible apply bw_behind; with_reducible assumption))

set_option maxHeartbeats 4000000 in
theorem ropen_yes (q Z : Bool) (M A K : Int) (c1 : ∀ W, Tab W → Calls Tryd.prog 61 #[.agg #[.bool q, .int .u64 M, .int .u64 A]] W (Makes (.bool true) W)) (c2 : ∀ W, Tab W → Calls Tryd.prog 62 #[.agg #[.bool q, .int .u64 M, .int .u64 A]] W (Makes (.int .u64 K) W)) (hZ : (K == 0) = Z) (w : World) (hT : Tab w) :
    Calls Tryd.prog 43 #[.agg #[.bool q, .int .u64 M, .int .u64 A]] w (Makes (.bool Z) w) := by
  have Cc1 := hide c1
  have Cc2 := hide c2
  clear c1 c2
  have SS := cell_same
  have LB' := ltB_add
  have LS := ltB_self
  have LA' := alloc_reads
  have LH := alloc_holds
  go_enter Tryd.func43, Tryd.ntmps43
  go_wp2_with (first | (go_at_call 61; (first | ((with_reducible refine (Cc1.out _ ?_).mono ?_); (refine hT.behind ?_; repeat (first | with_reducible assumption | with_reducible exact Below.refl _ _ | with_reducible refine Below.drew ?_ | with_reducible refine below_drewN ?_ _ | with_reducible refine bw_alloc ?_ _ | (with_reducible refine bw_set ?_ ?_ _; focus (dsimp only; omega)) | (with_reducible apply bw_behind; with_reducible assumption))))); rintro e wa ⟨rfl, hba⟩; have hra := below_reads hba; have hha := below_holds hba; obtain ⟨ma, hsa⟩ := below_grew hba) | (go_at_call 62; (first | ((with_reducible refine (Cc2.out _ ?_).mono ?_); (refine hT.behind ?_; repeat (first | with_reducible assumption | with_reducible exact Below.refl _ _ | with_reducible refine Below.drew ?_ | with_reducible refine below_drewN ?_ _ | with_reducible refine bw_alloc ?_ _ | (with_reducible refine bw_set ?_ ?_ _; focus (dsimp only; omega)) | (with_reducible apply bw_behind; with_reducible assumption))))); rintro e wb ⟨rfl, hbb⟩; have hrb := below_reads hbb; have hhb := below_holds hbb; obtain ⟨mb, hsb⟩ := below_grew hbb))
  refine bodyPost_ret (v := .bool Z) (by simp (maxDischargeDepth := 4) [results, Tryd.results43, go_sem, *]) rfl ?_
  refine ⟨rfl, ?_⟩
  repeat (first | with_reducible assumption | with_reducible exact Below.refl _ _ | with_reducible refine Below.drew ?_ | with_reducible refine below_drewN ?_ _ | with_reducible refine bw_alloc ?_ _ | (with_reducible refine bw_set ?_ ?_ _; focus (dsimp only; omega)) | (with_reducible apply bw_behind; with_reducible assumption))

set_option maxHeartbeats 4000000 in
theorem rclear_let (q : Bool) (M A : Int) (w : World) (_hT : Tab w) :
    Calls Tryd.prog 11 #[.agg #[.bool q, .int .u64 M, .int .u64 A]] w (Makes (.agg #[.bool false, .int .u64 M, .int .u64 A]) w) := by
  have SS := cell_same
  have LB' := ltB_add
  have LS := ltB_self
  have LA' := alloc_reads
  have LH := alloc_holds
  go_enter Tryd.func11, Tryd.ntmps11
  go_wp2_with fail
  refine bodyPost_ret (v := .agg #[.bool false, .int .u64 M, .int .u64 A]) (by simp (maxDischargeDepth := 4) [results, Tryd.results11, go_sem, *]) rfl ?_
  refine ⟨rfl, ?_⟩
  repeat (first | with_reducible assumption | with_reducible exact Below.refl _ _ | with_reducible refine Below.drew ?_ | with_reducible refine below_drewN ?_ _ | with_reducible refine bw_alloc ?_ _ | (with_reducible refine bw_set ?_ ?_ _; focus (dsimp only; omega)) | (with_reducible apply bw_behind; with_reducible assumption))

theorem eq_rspan (D U B T : Int) : ∀ W, (binOp .eql 57 (.agg #[.int .u64 D, .int .u64 U]) (.agg #[.int .u64 B, .int .u64 T])).run Tryd.prog W = .ok (.bool (decide (D = B ∧ U = T))) W := by
  intro W
  by_cases h1 : D = B <;> by_cases h2 : U = T <;> simp [go_sem, h1, h2]

set_option maxHeartbeats 4000000 in
theorem raddr_1 (q O O2 : Bool) (M A N D0 U0 P K D1 U1 P1 K1 : Int) (c1 : ∀ W, Tab W → Calls Tryd.prog 43 #[.agg #[.bool q, .int .u64 M, .int .u64 A]] W (Makes (.bool false) W)) (c3 : ∀ W, Tab W → Calls Tryd.prog 42 #[.agg #[.bool q, .int .u64 M, .int .u64 A]] W (Makes (.tuple #[.agg #[.int .u64 D0, .int .u64 U0, .int .u64 P, .int .u64 K], .bool O]) W)) (c4 : ∀ W, Tab W → Calls Tryd.prog 42 #[.agg #[.bool false, .int .u64 M, .int .u64 N]] W (Makes (.tuple #[.agg #[.int .u64 D1, .int .u64 U1, .int .u64 P1, .int .u64 K1], .bool O2]) W)) (w : World) (hT : Tab w) :
    Calls Tryd.prog 13 #[.agg #[.bool q, .int .u64 M, .int .u64 A], .int .u64 N] w (Makes (.agg #[.bool false, .int .u64 M, .int .u64 N]) w) := by
  have Cc1 := hide c1
  have Cc3 := hide c3
  have Cc4 := hide c4
  clear c1 c3 c4
  have SS := cell_same
  have LB' := ltB_add
  have LS := ltB_self
  have LA' := alloc_reads
  have LH := alloc_holds
  go_enter Tryd.func13, Tryd.ntmps13
  go_wp2_with (first | (go_at_call 43; (first | ((with_reducible refine (Cc1.out _ ?_).mono ?_); (refine hT.behind ?_; repeat (first | with_reducible assumption | with_reducible exact Below.refl _ _ | with_reducible refine Below.drew ?_ | with_reducible refine below_drewN ?_ _ | with_reducible refine bw_alloc ?_ _ | (with_reducible refine bw_set ?_ ?_ _; focus (dsimp only; omega)) | (with_reducible apply bw_behind; with_reducible assumption))))); rintro e wa ⟨rfl, hba⟩; have hra := below_reads hba; have hha := below_holds hba; obtain ⟨ma, hsa⟩ := below_grew hba) | (go_at_call 42; first | ((first | ((with_reducible refine (Cc3.out _ ?_).mono ?_); (refine hT.behind ?_; repeat (first | with_reducible assumption | with_reducible exact Below.refl _ _ | with_reducible refine Below.drew ?_ | with_reducible refine below_drewN ?_ _ | with_reducible refine bw_alloc ?_ _ | (with_reducible refine bw_set ?_ ?_ _; focus (dsimp only; omega)) | (with_reducible apply bw_behind; with_reducible assumption))))); rintro e wb ⟨rfl, hbb⟩; have hrb := below_reads hbb; have hhb := below_holds hbb; obtain ⟨mb, hsb⟩ := below_grew hbb) | ((first | ((with_reducible refine (Cc4.out _ ?_).mono ?_); (refine hT.behind ?_; repeat (first | with_reducible assumption | with_reducible exact Below.refl _ _ | with_reducible refine Below.drew ?_ | with_reducible refine below_drewN ?_ _ | with_reducible refine bw_alloc ?_ _ | (with_reducible refine bw_set ?_ ?_ _; focus (dsimp only; omega)) | (with_reducible apply bw_behind; with_reducible assumption))))); rintro e wd ⟨rfl, hbd⟩; have hrd := below_reads hbd; have hhd := below_holds hbd; obtain ⟨md, hsd⟩ := below_grew hbd)))
  refine bodyPost_ret (v := .agg #[.bool false, .int .u64 M, .int .u64 N]) (by simp (maxDischargeDepth := 4) [results, Tryd.results13, go_sem, *]) rfl ?_
  refine ⟨rfl, ?_⟩
  repeat (first | with_reducible assumption | with_reducible exact Below.refl _ _ | with_reducible refine Below.drew ?_ | with_reducible refine below_drewN ?_ _ | with_reducible refine bw_alloc ?_ _ | (with_reducible refine bw_set ?_ ?_ _; focus (dsimp only; omega)) | (with_reducible apply bw_behind; with_reducible assumption))

set_option maxHeartbeats 4000000 in
theorem raddr_2 (q O : Bool) (M A N D0 U0 P K D1 U1 P1 K1 : Int) (c1 : ∀ W, Tab W → Calls Tryd.prog 43 #[.agg #[.bool q, .int .u64 M, .int .u64 A]] W (Makes (.bool true) W)) (c3 : ∀ W, Tab W → Calls Tryd.prog 42 #[.agg #[.bool q, .int .u64 M, .int .u64 A]] W (Makes (.tuple #[.agg #[.int .u64 D0, .int .u64 U0, .int .u64 P, .int .u64 K], .bool O]) W)) (c4 : ∀ W, Tab W → Calls Tryd.prog 42 #[.agg #[.bool false, .int .u64 M, .int .u64 N]] W (Makes (.tuple #[.agg #[.int .u64 D1, .int .u64 U1, .int .u64 P1, .int .u64 K1], .bool false]) W)) (w : World) (hT : Tab w) :
    Calls Tryd.prog 13 #[.agg #[.bool q, .int .u64 M, .int .u64 A], .int .u64 N] w (Makes (.agg #[.bool false, .int .u64 M, .int .u64 N]) w) := by
  have Cc1 := hide c1
  have Cc3 := hide c3
  have Cc4 := hide c4
  clear c1 c3 c4
  have SS := cell_same
  have LB' := ltB_add
  have LS := ltB_self
  have LA' := alloc_reads
  have LH := alloc_holds
  go_enter Tryd.func13, Tryd.ntmps13
  go_wp2_with (first | (go_at_call 43; (first | ((with_reducible refine (Cc1.out _ ?_).mono ?_); (refine hT.behind ?_; repeat (first | with_reducible assumption | with_reducible exact Below.refl _ _ | with_reducible refine Below.drew ?_ | with_reducible refine below_drewN ?_ _ | with_reducible refine bw_alloc ?_ _ | (with_reducible refine bw_set ?_ ?_ _; focus (dsimp only; omega)) | (with_reducible apply bw_behind; with_reducible assumption))))); rintro e wa ⟨rfl, hba⟩; have hra := below_reads hba; have hha := below_holds hba; obtain ⟨ma, hsa⟩ := below_grew hba) | (go_at_call 42; first | ((first | ((with_reducible refine (Cc3.out _ ?_).mono ?_); (refine hT.behind ?_; repeat (first | with_reducible assumption | with_reducible exact Below.refl _ _ | with_reducible refine Below.drew ?_ | with_reducible refine below_drewN ?_ _ | with_reducible refine bw_alloc ?_ _ | (with_reducible refine bw_set ?_ ?_ _; focus (dsimp only; omega)) | (with_reducible apply bw_behind; with_reducible assumption))))); rintro e wb ⟨rfl, hbb⟩; have hrb := below_reads hbb; have hhb := below_holds hbb; obtain ⟨mb, hsb⟩ := below_grew hbb) | ((first | ((with_reducible refine (Cc4.out _ ?_).mono ?_); (refine hT.behind ?_; repeat (first | with_reducible assumption | with_reducible exact Below.refl _ _ | with_reducible refine Below.drew ?_ | with_reducible refine below_drewN ?_ _ | with_reducible refine bw_alloc ?_ _ | (with_reducible refine bw_set ?_ ?_ _; focus (dsimp only; omega)) | (with_reducible apply bw_behind; with_reducible assumption))))); rintro e wd ⟨rfl, hbd⟩; have hrd := below_reads hbd; have hhd := below_holds hbd; obtain ⟨md, hsd⟩ := below_grew hbd)))
  refine bodyPost_ret (v := .agg #[.bool false, .int .u64 M, .int .u64 N]) (by simp (maxDischargeDepth := 4) [results, Tryd.results13, go_sem, *]) rfl ?_
  refine ⟨rfl, ?_⟩
  repeat (first | with_reducible assumption | with_reducible exact Below.refl _ _ | with_reducible refine Below.drew ?_ | with_reducible refine below_drewN ?_ _ | with_reducible refine bw_alloc ?_ _ | (with_reducible refine bw_set ?_ ?_ _; focus (dsimp only; omega)) | (with_reducible apply bw_behind; with_reducible assumption))

set_option maxHeartbeats 4000000 in
theorem raddr_3 (q O : Bool) (M A N D0 U0 P K D1 U1 P1 K1 : Int) (c1 : ∀ W, Tab W → Calls Tryd.prog 43 #[.agg #[.bool q, .int .u64 M, .int .u64 A]] W (Makes (.bool true) W)) (c3 : ∀ W, Tab W → Calls Tryd.prog 42 #[.agg #[.bool q, .int .u64 M, .int .u64 A]] W (Makes (.tuple #[.agg #[.int .u64 D0, .int .u64 U0, .int .u64 P, .int .u64 K], .bool O]) W)) (c4 : ∀ W, Tab W → Calls Tryd.prog 42 #[.agg #[.bool false, .int .u64 M, .int .u64 N]] W (Makes (.tuple #[.agg #[.int .u64 D1, .int .u64 U1, .int .u64 P1, .int .u64 K1], .bool true]) W)) (w : World) (hT : Tab w) :
    Calls Tryd.prog 13 #[.agg #[.bool q, .int .u64 M, .int .u64 A], .int .u64 N] w (Makes (.agg #[.bool (decide (D0 = D1 ∧ U0 = U1)), .int .u64 M, .int .u64 N]) w) := by
  have Cc1 := hide c1
  have Cc3 := hide c3
  have Cc4 := hide c4
  clear c1 c3 c4
  have EQ := eq_rspan D0 U0 D1 U1
  have SS := cell_same
  have LB' := ltB_add
  have LS := ltB_self
  have LA' := alloc_reads
  have LH := alloc_holds
  go_enter Tryd.func13, Tryd.ntmps13
  go_wp2_with (first | (go_at_call 43; (first | ((with_reducible refine (Cc1.out _ ?_).mono ?_); (refine hT.behind ?_; repeat (first | with_reducible assumption | with_reducible exact Below.refl _ _ | with_reducible refine Below.drew ?_ | with_reducible refine below_drewN ?_ _ | with_reducible refine bw_alloc ?_ _ | (with_reducible refine bw_set ?_ ?_ _; focus (dsimp only; omega)) | (with_reducible apply bw_behind; with_reducible assumption))))); rintro e wa ⟨rfl, hba⟩; have hra := below_reads hba; have hha := below_holds hba; obtain ⟨ma, hsa⟩ := below_grew hba) | (go_at_call 42; first | ((first | ((with_reducible refine (Cc3.out _ ?_).mono ?_); (refine hT.behind ?_; repeat (first | with_reducible assumption | with_reducible exact Below.refl _ _ | with_reducible refine Below.drew ?_ | with_reducible refine below_drewN ?_ _ | with_reducible refine bw_alloc ?_ _ | (with_reducible refine bw_set ?_ ?_ _; focus (dsimp only; omega)) | (with_reducible apply bw_behind; with_reducible assumption))))); rintro e wb ⟨rfl, hbb⟩; have hrb := below_reads hbb; have hhb := below_holds hbb; obtain ⟨mb, hsb⟩ := below_grew hbb) | ((first | ((with_reducible refine (Cc4.out _ ?_).mono ?_); (refine hT.behind ?_; repeat (first | with_reducible assumption | with_reducible exact Below.refl _ _ | with_reducible refine Below.drew ?_ | with_reducible refine below_drewN ?_ _ | with_reducible refine bw_alloc ?_ _ | (with_reducible refine bw_set ?_ ?_ _; focus (dsimp only; omega)) | (with_reducible apply bw_behind; with_reducible assumption))))); rintro e wd ⟨rfl, hbd⟩; have hrd := below_reads hbd; have hhd := below_holds hbd; obtain ⟨md, hsd⟩ := below_grew hbd)))
  refine bodyPost_ret (v := .agg #[.bool (decide (D0 = D1 ∧ U0 = U1)), .int .u64 M, .int .u64 N]) (by simp (maxDischargeDepth := 4) [results, Tryd.results13, go_sem, *]) rfl ?_
  refine ⟨rfl, ?_⟩
  repeat (first | with_reducible assumption | with_reducible exact Below.refl _ _ | with_reducible refine Below.drew ?_ | with_reducible refine below_drewN ?_ _ | with_reducible refine bw_alloc ?_ _ | (with_reducible refine bw_set ?_ ?_ _; focus (dsimp only; omega)) | (with_reducible apply bw_behind; with_reducible assumption))

set_option maxHeartbeats 4000000 in
theorem rmay_1 (q O : Bool) (M A X D0 U0 P K : Int) (c3 : ∀ W, Tab W → Calls Tryd.prog 42 #[.agg #[.bool q, .int .u64 M, .int .u64 A]] W (Makes (.tuple #[.agg #[.int .u64 D0, .int .u64 U0, .int .u64 P, .int .u64 K], .bool O]) W)) (c1 : ∀ W, Tab W → Calls Tryd.prog 43 #[.agg #[.bool q, .int .u64 M, .int .u64 A]] W (Makes (.bool false) W)) (w : World) (hT : Tab w) :
    Calls Tryd.prog 56 #[.agg #[.bool q, .int .u64 M, .int .u64 A], .int .u64 X] w (Makes (.bool false) w) := by
  have Cc3 := hide c3
  have Cc1 := hide c1
  clear c3 c1
  have SS := cell_same
  have LB' := ltB_add
  have LS := ltB_self
  have LA' := alloc_reads
  have LH := alloc_holds
  go_enter Tryd.func56, Tryd.ntmps56
  go_wp2_with (first | (go_at_call 42; (first | ((with_reducible refine (Cc3.out _ ?_).mono ?_); (refine hT.behind ?_; repeat (first | with_reducible assumption | with_reducible exact Below.refl _ _ | with_reducible refine Below.drew ?_ | with_reducible refine below_drewN ?_ _ | with_reducible refine bw_alloc ?_ _ | (with_reducible refine bw_set ?_ ?_ _; focus (dsimp only; omega)) | (with_reducible apply bw_behind; with_reducible assumption))))); rintro e wb ⟨rfl, hbb⟩; have hrb := below_reads hbb; have hhb := below_holds hbb; obtain ⟨mb, hsb⟩ := below_grew hbb) | (go_at_call 43; (first | ((with_reducible refine (Cc1.out _ ?_).mono ?_); (refine hT.behind ?_; repeat (first | with_reducible assumption | with_reducible exact Below.refl _ _ | with_reducible refine Below.drew ?_ | with_reducible refine below_drewN ?_ _ | with_reducible refine bw_alloc ?_ _ | (with_reducible refine bw_set ?_ ?_ _; focus (dsimp only; omega)) | (with_reducible apply bw_behind; with_reducible assumption))))); rintro e wa ⟨rfl, hba⟩; have hra := below_reads hba; have hha := below_holds hba; obtain ⟨ma, hsa⟩ := below_grew hba))
  refine bodyPost_ret (v := .bool false) (by simp (maxDischargeDepth := 4) [results, Tryd.results56, go_sem, *]) rfl ?_
  refine ⟨rfl, ?_⟩
  repeat (first | with_reducible assumption | with_reducible exact Below.refl _ _ | with_reducible refine Below.drew ?_ | with_reducible refine below_drewN ?_ _ | with_reducible refine bw_alloc ?_ _ | (with_reducible refine bw_set ?_ ?_ _; focus (dsimp only; omega)) | (with_reducible apply bw_behind; with_reducible assumption))

set_option maxHeartbeats 4000000 in
theorem rmay_2 (q O : Bool) (M A X D0 U0 P K : Int) (c3 : ∀ W, Tab W → Calls Tryd.prog 42 #[.agg #[.bool q, .int .u64 M, .int .u64 A]] W (Makes (.tuple #[.agg #[.int .u64 D0, .int .u64 U0, .int .u64 P, .int .u64 K], .bool O]) W)) (c1 : ∀ W, Tab W → Calls Tryd.prog 43 #[.agg #[.bool q, .int .u64 M, .int .u64 A]] W (Makes (.bool true) W)) (c2 : ∀ W, Tab W → Calls Tryd.prog 85 #[.int .u64 X, .int .u64 P] W (Makes (.bool false) W)) (w : World) (hT : Tab w) :
    Calls Tryd.prog 56 #[.agg #[.bool q, .int .u64 M, .int .u64 A], .int .u64 X] w (Makes (.bool false) w) := by
  have Cc3 := hide c3
  have Cc1 := hide c1
  have Cc2 := hide c2
  clear c3 c1 c2
  have SS := cell_same
  have LB' := ltB_add
  have LS := ltB_self
  have LA' := alloc_reads
  have LH := alloc_holds
  go_enter Tryd.func56, Tryd.ntmps56
  go_wp2_with (first | (go_at_call 42; (first | ((with_reducible refine (Cc3.out _ ?_).mono ?_); (refine hT.behind ?_; repeat (first | with_reducible assumption | with_reducible exact Below.refl _ _ | with_reducible refine Below.drew ?_ | with_reducible refine below_drewN ?_ _ | with_reducible refine bw_alloc ?_ _ | (with_reducible refine bw_set ?_ ?_ _; focus (dsimp only; omega)) | (with_reducible apply bw_behind; with_reducible assumption))))); rintro e wb ⟨rfl, hbb⟩; have hrb := below_reads hbb; have hhb := below_holds hbb; obtain ⟨mb, hsb⟩ := below_grew hbb) | (go_at_call 43; (first | ((with_reducible refine (Cc1.out _ ?_).mono ?_); (refine hT.behind ?_; repeat (first | with_reducible assumption | with_reducible exact Below.refl _ _ | with_reducible refine Below.drew ?_ | with_reducible refine below_drewN ?_ _ | with_reducible refine bw_alloc ?_ _ | (with_reducible refine bw_set ?_ ?_ _; focus (dsimp only; omega)) | (with_reducible apply bw_behind; with_reducible assumption))))); rintro e wa ⟨rfl, hba⟩; have hra := below_reads hba; have hha := below_holds hba; obtain ⟨ma, hsa⟩ := below_grew hba) | (go_at_call 85; (first | ((with_reducible refine (Cc2.out _ ?_).mono ?_); (refine hT.behind ?_; repeat (first | with_reducible assumption | with_reducible exact Below.refl _ _ | with_reducible refine Below.drew ?_ | with_reducible refine below_drewN ?_ _ | with_reducible refine bw_alloc ?_ _ | (with_reducible refine bw_set ?_ ?_ _; focus (dsimp only; omega)) | (with_reducible apply bw_behind; with_reducible assumption))))); rintro e wd ⟨rfl, hbd⟩; have hrd := below_reads hbd; have hhd := below_holds hbd; obtain ⟨md, hsd⟩ := below_grew hbd))
  refine bodyPost_ret (v := .bool false) (by simp (maxDischargeDepth := 4) [results, Tryd.results56, go_sem, *]) rfl ?_
  refine ⟨rfl, ?_⟩
  repeat (first | with_reducible assumption | with_reducible exact Below.refl _ _ | with_reducible refine Below.drew ?_ | with_reducible refine below_drewN ?_ _ | with_reducible refine bw_alloc ?_ _ | (with_reducible refine bw_set ?_ ?_ _; focus (dsimp only; omega)) | (with_reducible apply bw_behind; with_reducible assumption))

set_option maxHeartbeats 4000000 in
theorem rmay_3 (q O : Bool) (M A X D0 U0 P K : Int) (c3 : ∀ W, Tab W → Calls Tryd.prog 42 #[.agg #[.bool q, .int .u64 M, .int .u64 A]] W (Makes (.tuple #[.agg #[.int .u64 D0, .int .u64 U0, .int .u64 P, .int .u64 K], .bool O]) W)) (c1 : ∀ W, Tab W → Calls Tryd.prog 43 #[.agg #[.bool q, .int .u64 M, .int .u64 A]] W (Makes (.bool true) W)) (c2 : ∀ W, Tab W → Calls Tryd.prog 85 #[.int .u64 X, .int .u64 P] W (Makes (.bool true) W)) (hD : ¬ D0 ≤ A) (w : World) (hT : Tab w) :
    Calls Tryd.prog 56 #[.agg #[.bool q, .int .u64 M, .int .u64 A], .int .u64 X] w (Makes (.bool false) w) := by
  have Cc3 := hide c3
  have Cc1 := hide c1
  have Cc2 := hide c2
  clear c3 c1 c2
  have SS := cell_same
  have LB' := ltB_add
  have LS := ltB_self
  have LA' := alloc_reads
  have LH := alloc_holds
  go_enter Tryd.func56, Tryd.ntmps56
  go_wp2_with (first | (go_at_call 42; (first | ((with_reducible refine (Cc3.out _ ?_).mono ?_); (refine hT.behind ?_; repeat (first | with_reducible assumption | with_reducible exact Below.refl _ _ | with_reducible refine Below.drew ?_ | with_reducible refine below_drewN ?_ _ | with_reducible refine bw_alloc ?_ _ | (with_reducible refine bw_set ?_ ?_ _; focus (dsimp only; omega)) | (with_reducible apply bw_behind; with_reducible assumption))))); rintro e wb ⟨rfl, hbb⟩; have hrb := below_reads hbb; have hhb := below_holds hbb; obtain ⟨mb, hsb⟩ := below_grew hbb) | (go_at_call 43; (first | ((with_reducible refine (Cc1.out _ ?_).mono ?_); (refine hT.behind ?_; repeat (first | with_reducible assumption | with_reducible exact Below.refl _ _ | with_reducible refine Below.drew ?_ | with_reducible refine below_drewN ?_ _ | with_reducible refine bw_alloc ?_ _ | (with_reducible refine bw_set ?_ ?_ _; focus (dsimp only; omega)) | (with_reducible apply bw_behind; with_reducible assumption))))); rintro e wa ⟨rfl, hba⟩; have hra := below_reads hba; have hha := below_holds hba; obtain ⟨ma, hsa⟩ := below_grew hba) | (go_at_call 85; (first | ((with_reducible refine (Cc2.out _ ?_).mono ?_); (refine hT.behind ?_; repeat (first | with_reducible assumption | with_reducible exact Below.refl _ _ | with_reducible refine Below.drew ?_ | with_reducible refine below_drewN ?_ _ | with_reducible refine bw_alloc ?_ _ | (with_reducible refine bw_set ?_ ?_ _; focus (dsimp only; omega)) | (with_reducible apply bw_behind; with_reducible assumption))))); rintro e wd ⟨rfl, hbd⟩; have hrd := below_reads hbd; have hhd := below_holds hbd; obtain ⟨md, hsd⟩ := below_grew hbd))
  refine bodyPost_ret (v := .bool false) (by simp (maxDischargeDepth := 4) [results, Tryd.results56, go_sem, *]) rfl ?_
  refine ⟨rfl, ?_⟩
  repeat (first | with_reducible assumption | with_reducible exact Below.refl _ _ | with_reducible refine Below.drew ?_ | with_reducible refine below_drewN ?_ _ | with_reducible refine bw_alloc ?_ _ | (with_reducible refine bw_set ?_ ?_ _; focus (dsimp only; omega)) | (with_reducible apply bw_behind; with_reducible assumption))

set_option maxHeartbeats 4000000 in
theorem rmay_4 (q O Z : Bool) (M A X D0 U0 P K : Int) (c3 : ∀ W, Tab W → Calls Tryd.prog 42 #[.agg #[.bool q, .int .u64 M, .int .u64 A]] W (Makes (.tuple #[.agg #[.int .u64 D0, .int .u64 U0, .int .u64 P, .int .u64 K], .bool O]) W)) (c1 : ∀ W, Tab W → Calls Tryd.prog 43 #[.agg #[.bool q, .int .u64 M, .int .u64 A]] W (Makes (.bool true) W)) (c2 : ∀ W, Tab W → Calls Tryd.prog 85 #[.int .u64 X, .int .u64 P] W (Makes (.bool true) W)) (hD : D0 ≤ A) (hU : decide (A < U0) = Z) (w : World) (hT : Tab w) :
    Calls Tryd.prog 56 #[.agg #[.bool q, .int .u64 M, .int .u64 A], .int .u64 X] w (Makes (.bool Z) w) := by
  have Cc3 := hide c3
  have Cc1 := hide c1
  have Cc2 := hide c2
  clear c3 c1 c2
  have SS := cell_same
  have LB' := ltB_add
  have LS := ltB_self
  have LA' := alloc_reads
  have LH := alloc_holds
  go_enter Tryd.func56, Tryd.ntmps56
  go_wp2_with (first | (go_at_call 42; (first | ((with_reducible refine (Cc3.out _ ?_).mono ?_); (refine hT.behind ?_; repeat (first | with_reducible assumption | with_reducible exact Below.refl _ _ | with_reducible refine Below.drew ?_ | with_reducible refine below_drewN ?_ _ | with_reducible refine bw_alloc ?_ _ | (with_reducible refine bw_set ?_ ?_ _; focus (dsimp only; omega)) | (with_reducible apply bw_behind; with_reducible assumption))))); rintro e wb ⟨rfl, hbb⟩; have hrb := below_reads hbb; have hhb := below_holds hbb; obtain ⟨mb, hsb⟩ := below_grew hbb) | (go_at_call 43; (first | ((with_reducible refine (Cc1.out _ ?_).mono ?_); (refine hT.behind ?_; repeat (first | with_reducible assumption | with_reducible exact Below.refl _ _ | with_reducible refine Below.drew ?_ | with_reducible refine below_drewN ?_ _ | with_reducible refine bw_alloc ?_ _ | (with_reducible refine bw_set ?_ ?_ _; focus (dsimp only; omega)) | (with_reducible apply bw_behind; with_reducible assumption))))); rintro e wa ⟨rfl, hba⟩; have hra := below_reads hba; have hha := below_holds hba; obtain ⟨ma, hsa⟩ := below_grew hba) | (go_at_call 85; (first | ((with_reducible refine (Cc2.out _ ?_).mono ?_); (refine hT.behind ?_; repeat (first | with_reducible assumption | with_reducible exact Below.refl _ _ | with_reducible refine Below.drew ?_ | with_reducible refine below_drewN ?_ _ | with_reducible refine bw_alloc ?_ _ | (with_reducible refine bw_set ?_ ?_ _; focus (dsimp only; omega)) | (with_reducible apply bw_behind; with_reducible assumption))))); rintro e wd ⟨rfl, hbd⟩; have hrd := below_reads hbd; have hhd := below_holds hbd; obtain ⟨md, hsd⟩ := below_grew hbd))
  refine bodyPost_ret (v := .bool Z) (by simp (maxDischargeDepth := 4) [results, Tryd.results56, go_sem, *]) rfl ?_
  refine ⟨rfl, ?_⟩
  repeat (first | with_reducible assumption | with_reducible exact Below.refl _ _ | with_reducible refine Below.drew ?_ | with_reducible refine below_drewN ?_ _ | with_reducible refine bw_alloc ?_ _ | (with_reducible refine bw_set ?_ ?_ _; focus (dsimp only; omega)) | (with_reducible apply bw_behind; with_reducible assumption))

set_option maxHeartbeats 4000000 in
theorem rseal_1 (q r : Bool) (M A N B : Int) (c1 : ∀ W, Tab W → Calls Tryd.prog 43 #[.agg #[.bool q, .int .u64 M, .int .u64 A]] W (Makes (.bool false) W)) (c5 : ∀ W, Tab W → Calls Tryd.prog 11 #[.agg #[.bool q, .int .u64 M, .int .u64 A]] W (Makes (.agg #[.bool false, .int .u64 M, .int .u64 A]) W)) (w : World) (hT : Tab w) :
    Calls Tryd.prog 21 #[.agg #[.bool q, .int .u64 M, .int .u64 A], .agg #[.bool r, .int .u64 N, .int .u64 B]] w (Makes (.agg #[.bool false, .int .u64 M, .int .u64 A]) w) := by
  have Cc1 := hide c1
  have Cc5 := hide c5
  clear c1 c5
  have SS := cell_same
  have LB' := ltB_add
  have LS := ltB_self
  have LA' := alloc_reads
  have LH := alloc_holds
  go_enter Tryd.func21, Tryd.ntmps21
  go_wp2_with (first | (go_at_call 43; (first | ((with_reducible refine (Cc1.out _ ?_).mono ?_); (refine hT.behind ?_; repeat (first | with_reducible assumption | with_reducible exact Below.refl _ _ | with_reducible refine Below.drew ?_ | with_reducible refine below_drewN ?_ _ | with_reducible refine bw_alloc ?_ _ | (with_reducible refine bw_set ?_ ?_ _; focus (dsimp only; omega)) | (with_reducible apply bw_behind; with_reducible assumption))))); rintro e wa ⟨rfl, hba⟩; have hra := below_reads hba; have hha := below_holds hba; obtain ⟨ma, hsa⟩ := below_grew hba) | (go_at_call 11; (first | ((with_reducible refine (Cc5.out _ ?_).mono ?_); (refine hT.behind ?_; repeat (first | with_reducible assumption | with_reducible exact Below.refl _ _ | with_reducible refine Below.drew ?_ | with_reducible refine below_drewN ?_ _ | with_reducible refine bw_alloc ?_ _ | (with_reducible refine bw_set ?_ ?_ _; focus (dsimp only; omega)) | (with_reducible apply bw_behind; with_reducible assumption))))); rintro e wy ⟨rfl, hby⟩; have hry := below_reads hby; have hhy := below_holds hby; obtain ⟨my, hsy⟩ := below_grew hby))
  refine bodyPost_ret (v := .agg #[.bool false, .int .u64 M, .int .u64 A]) (by simp (maxDischargeDepth := 4) [results, Tryd.results21, go_sem, *]) rfl ?_
  refine ⟨rfl, ?_⟩
  repeat (first | with_reducible assumption | with_reducible exact Below.refl _ _ | with_reducible refine Below.drew ?_ | with_reducible refine below_drewN ?_ _ | with_reducible refine bw_alloc ?_ _ | (with_reducible refine bw_set ?_ ?_ _; focus (dsimp only; omega)) | (with_reducible apply bw_behind; with_reducible assumption))

set_option maxHeartbeats 4000000 in
theorem rseal_2 (q r : Bool) (M A N B : Int) (c1 : ∀ W, Tab W → Calls Tryd.prog 43 #[.agg #[.bool q, .int .u64 M, .int .u64 A]] W (Makes (.bool true) W)) (c6 : ∀ W, Tab W → Calls Tryd.prog 56 #[.agg #[.bool r, .int .u64 N, .int .u64 B], .int .u64 32] W (Makes (.bool false) W)) (c5 : ∀ W, Tab W → Calls Tryd.prog 11 #[.agg #[.bool q, .int .u64 M, .int .u64 A]] W (Makes (.agg #[.bool false, .int .u64 M, .int .u64 A]) W)) (w : World) (hT : Tab w) :
    Calls Tryd.prog 21 #[.agg #[.bool q, .int .u64 M, .int .u64 A], .agg #[.bool r, .int .u64 N, .int .u64 B]] w (Makes (.agg #[.bool false, .int .u64 M, .int .u64 A]) w) := by
  have Cc1 := hide c1
  have Cc6 := hide c6
  have Cc5 := hide c5
  clear c1 c6 c5
  have SS := cell_same
  have LB' := ltB_add
  have LS := ltB_self
  have LA' := alloc_reads
  have LH := alloc_holds
  go_enter Tryd.func21, Tryd.ntmps21
  go_wp2_with (first | (go_at_call 43; (first | ((with_reducible refine (Cc1.out _ ?_).mono ?_); (refine hT.behind ?_; repeat (first | with_reducible assumption | with_reducible exact Below.refl _ _ | with_reducible refine Below.drew ?_ | with_reducible refine below_drewN ?_ _ | with_reducible refine bw_alloc ?_ _ | (with_reducible refine bw_set ?_ ?_ _; focus (dsimp only; omega)) | (with_reducible apply bw_behind; with_reducible assumption))))); rintro e wa ⟨rfl, hba⟩; have hra := below_reads hba; have hha := below_holds hba; obtain ⟨ma, hsa⟩ := below_grew hba) | (go_at_call 56; (first | ((with_reducible refine (Cc6.out _ ?_).mono ?_); (refine hT.behind ?_; repeat (first | with_reducible assumption | with_reducible exact Below.refl _ _ | with_reducible refine Below.drew ?_ | with_reducible refine below_drewN ?_ _ | with_reducible refine bw_alloc ?_ _ | (with_reducible refine bw_set ?_ ?_ _; focus (dsimp only; omega)) | (with_reducible apply bw_behind; with_reducible assumption))))); rintro e we ⟨rfl, hbe⟩; have hre := below_reads hbe; have hhe := below_holds hbe; obtain ⟨me, hse⟩ := below_grew hbe) | (go_at_call 11; (first | ((with_reducible refine (Cc5.out _ ?_).mono ?_); (refine hT.behind ?_; repeat (first | with_reducible assumption | with_reducible exact Below.refl _ _ | with_reducible refine Below.drew ?_ | with_reducible refine below_drewN ?_ _ | with_reducible refine bw_alloc ?_ _ | (with_reducible refine bw_set ?_ ?_ _; focus (dsimp only; omega)) | (with_reducible apply bw_behind; with_reducible assumption))))); rintro e wy ⟨rfl, hby⟩; have hry := below_reads hby; have hhy := below_holds hby; obtain ⟨my, hsy⟩ := below_grew hby))
  refine bodyPost_ret (v := .agg #[.bool false, .int .u64 M, .int .u64 A]) (by simp (maxDischargeDepth := 4) [results, Tryd.results21, go_sem, *]) rfl ?_
  refine ⟨rfl, ?_⟩
  repeat (first | with_reducible assumption | with_reducible exact Below.refl _ _ | with_reducible refine Below.drew ?_ | with_reducible refine below_drewN ?_ _ | with_reducible refine bw_alloc ?_ _ | (with_reducible refine bw_set ?_ ?_ _; focus (dsimp only; omega)) | (with_reducible apply bw_behind; with_reducible assumption))

set_option maxHeartbeats 4000000 in
theorem rseal_3 (q r : Bool) (M A N B : Int) (c1 : ∀ W, Tab W → Calls Tryd.prog 43 #[.agg #[.bool q, .int .u64 M, .int .u64 A]] W (Makes (.bool true) W)) (c6 : ∀ W, Tab W → Calls Tryd.prog 56 #[.agg #[.bool r, .int .u64 N, .int .u64 B], .int .u64 32] W (Makes (.bool true) W)) (c5 : ∀ W, Tab W → Calls Tryd.prog 11 #[.agg #[.bool q, .int .u64 M, .int .u64 A]] W (Makes (.agg #[.bool false, .int .u64 M, .int .u64 A]) W)) (hB : B < 16) (w : World) (hT : Tab w) :
    Calls Tryd.prog 21 #[.agg #[.bool q, .int .u64 M, .int .u64 A], .agg #[.bool r, .int .u64 N, .int .u64 B]] w (Makes (.agg #[.bool false, .int .u64 M, .int .u64 A]) w) := by
  have Cc1 := hide c1
  have Cc6 := hide c6
  have Cc5 := hide c5
  clear c1 c6 c5
  have SS := cell_same
  have LB' := ltB_add
  have LS := ltB_self
  have LA' := alloc_reads
  have LH := alloc_holds
  go_enter Tryd.func21, Tryd.ntmps21
  go_wp2_with (first | (go_at_call 43; (first | ((with_reducible refine (Cc1.out _ ?_).mono ?_); (refine hT.behind ?_; repeat (first | with_reducible assumption | with_reducible exact Below.refl _ _ | with_reducible refine Below.drew ?_ | with_reducible refine below_drewN ?_ _ | with_reducible refine bw_alloc ?_ _ | (with_reducible refine bw_set ?_ ?_ _; focus (dsimp only; omega)) | (with_reducible apply bw_behind; with_reducible assumption))))); rintro e wa ⟨rfl, hba⟩; have hra := below_reads hba; have hha := below_holds hba; obtain ⟨ma, hsa⟩ := below_grew hba) | (go_at_call 56; (first | ((with_reducible refine (Cc6.out _ ?_).mono ?_); (refine hT.behind ?_; repeat (first | with_reducible assumption | with_reducible exact Below.refl _ _ | with_reducible refine Below.drew ?_ | with_reducible refine below_drewN ?_ _ | with_reducible refine bw_alloc ?_ _ | (with_reducible refine bw_set ?_ ?_ _; focus (dsimp only; omega)) | (with_reducible apply bw_behind; with_reducible assumption))))); rintro e we ⟨rfl, hbe⟩; have hre := below_reads hbe; have hhe := below_holds hbe; obtain ⟨me, hse⟩ := below_grew hbe) | (go_at_call 11; (first | ((with_reducible refine (Cc5.out _ ?_).mono ?_); (refine hT.behind ?_; repeat (first | with_reducible assumption | with_reducible exact Below.refl _ _ | with_reducible refine Below.drew ?_ | with_reducible refine below_drewN ?_ _ | with_reducible refine bw_alloc ?_ _ | (with_reducible refine bw_set ?_ ?_ _; focus (dsimp only; omega)) | (with_reducible apply bw_behind; with_reducible assumption))))); rintro e wy ⟨rfl, hby⟩; have hry := below_reads hby; have hhy := below_holds hby; obtain ⟨my, hsy⟩ := below_grew hby))
  refine bodyPost_ret (v := .agg #[.bool false, .int .u64 M, .int .u64 A]) (by simp (maxDischargeDepth := 4) [results, Tryd.results21, go_sem, *]) rfl ?_
  refine ⟨rfl, ?_⟩
  repeat (first | with_reducible assumption | with_reducible exact Below.refl _ _ | with_reducible refine Below.drew ?_ | with_reducible refine below_drewN ?_ _ | with_reducible refine bw_alloc ?_ _ | (with_reducible refine bw_set ?_ ?_ _; focus (dsimp only; omega)) | (with_reducible apply bw_behind; with_reducible assumption))

set_option maxHeartbeats 4000000 in
theorem rseal_4 (q r : Bool) (M A N B : Int) (c1 : ∀ W, Tab W → Calls Tryd.prog 43 #[.agg #[.bool q, .int .u64 M, .int .u64 A]] W (Makes (.bool true) W)) (c6 : ∀ W, Tab W → Calls Tryd.prog 56 #[.agg #[.bool r, .int .u64 N, .int .u64 B], .int .u64 32] W (Makes (.bool true) W)) (c5 : ∀ W, Tab W → Calls Tryd.prog 11 #[.agg #[.bool q, .int .u64 M, .int .u64 A]] W (Makes (.agg #[.bool false, .int .u64 M, .int .u64 A]) W)) (hB : ¬ B < 16) (hB2 : 4095 < B) (w : World) (hT : Tab w) :
    Calls Tryd.prog 21 #[.agg #[.bool q, .int .u64 M, .int .u64 A], .agg #[.bool r, .int .u64 N, .int .u64 B]] w (Makes (.agg #[.bool false, .int .u64 M, .int .u64 A]) w) := by
  have Cc1 := hide c1
  have Cc6 := hide c6
  have Cc5 := hide c5
  clear c1 c6 c5
  have SS := cell_same
  have LB' := ltB_add
  have LS := ltB_self
  have LA' := alloc_reads
  have LH := alloc_holds
  go_enter Tryd.func21, Tryd.ntmps21
  go_wp2_with (first | (go_at_call 43; (first | ((with_reducible refine (Cc1.out _ ?_).mono ?_); (refine hT.behind ?_; repeat (first | with_reducible assumption | with_reducible exact Below.refl _ _ | with_reducible refine Below.drew ?_ | with_reducible refine below_drewN ?_ _ | with_reducible refine bw_alloc ?_ _ | (with_reducible refine bw_set ?_ ?_ _; focus (dsimp only; omega)) | (with_reducible apply bw_behind; with_reducible assumption))))); rintro e wa ⟨rfl, hba⟩; have hra := below_reads hba; have hha := below_holds hba; obtain ⟨ma, hsa⟩ := below_grew hba) | (go_at_call 56; (first | ((with_reducible refine (Cc6.out _ ?_).mono ?_); (refine hT.behind ?_; repeat (first | with_reducible assumption | with_reducible exact Below.refl _ _ | with_reducible refine Below.drew ?_ | with_reducible refine below_drewN ?_ _ | with_reducible refine bw_alloc ?_ _ | (with_reducible refine bw_set ?_ ?_ _; focus (dsimp only; omega)) | (with_reducible apply bw_behind; with_reducible assumption))))); rintro e we ⟨rfl, hbe⟩; have hre := below_reads hbe; have hhe := below_holds hbe; obtain ⟨me, hse⟩ := below_grew hbe) | (go_at_call 11; (first | ((with_reducible refine (Cc5.out _ ?_).mono ?_); (refine hT.behind ?_; repeat (first | with_reducible assumption | with_reducible exact Below.refl _ _ | with_reducible refine Below.drew ?_ | with_reducible refine below_drewN ?_ _ | with_reducible refine bw_alloc ?_ _ | (with_reducible refine bw_set ?_ ?_ _; focus (dsimp only; omega)) | (with_reducible apply bw_behind; with_reducible assumption))))); rintro e wy ⟨rfl, hby⟩; have hry := below_reads hby; have hhy := below_holds hby; obtain ⟨my, hsy⟩ := below_grew hby))
  refine bodyPost_ret (v := .agg #[.bool false, .int .u64 M, .int .u64 A]) (by simp (maxDischargeDepth := 4) [results, Tryd.results21, go_sem, *]) rfl ?_
  refine ⟨rfl, ?_⟩
  repeat (first | with_reducible assumption | with_reducible exact Below.refl _ _ | with_reducible refine Below.drew ?_ | with_reducible refine below_drewN ?_ _ | with_reducible refine bw_alloc ?_ _ | (with_reducible refine bw_set ?_ ?_ _; focus (dsimp only; omega)) | (with_reducible apply bw_behind; with_reducible assumption))

set_option maxHeartbeats 4000000 in
theorem rseal_5 (q r t : Bool) (M A N B M2 A2 : Int) (c1 : ∀ W, Tab W → Calls Tryd.prog 43 #[.agg #[.bool q, .int .u64 M, .int .u64 A]] W (Makes (.bool true) W)) (c6 : ∀ W, Tab W → Calls Tryd.prog 56 #[.agg #[.bool r, .int .u64 N, .int .u64 B], .int .u64 32] W (Makes (.bool true) W)) (c9 : ∀ W, Tab W → Calls Tryd.prog 57 #[.agg #[.bool q, .int .u64 M, .int .u64 A], .int .u64 B] W (Makes (.agg #[.bool t, .int .u64 M2, .int .u64 A2]) W)) (hB : ¬ B < 16) (hB2 : ¬ 4095 < B) (w : World) (hT : Tab w) :
    Calls Tryd.prog 21 #[.agg #[.bool q, .int .u64 M, .int .u64 A], .agg #[.bool r, .int .u64 N, .int .u64 B]] w (Makes (.agg #[.bool t, .int .u64 M2, .int .u64 A2]) w) := by
  have Cc1 := hide c1
  have Cc6 := hide c6
  have Cc9 := hide c9
  clear c1 c6 c9
  have SS := cell_same
  have LB' := ltB_add
  have LS := ltB_self
  have LA' := alloc_reads
  have LH := alloc_holds
  go_enter Tryd.func21, Tryd.ntmps21
  go_wp2_with (first | (go_at_call 43; (first | ((with_reducible refine (Cc1.out _ ?_).mono ?_); (refine hT.behind ?_; repeat (first | with_reducible assumption | with_reducible exact Below.refl _ _ | with_reducible refine Below.drew ?_ | with_reducible refine below_drewN ?_ _ | with_reducible refine bw_alloc ?_ _ | (with_reducible refine bw_set ?_ ?_ _; focus (dsimp only; omega)) | (with_reducible apply bw_behind; with_reducible assumption))))); rintro e wa ⟨rfl, hba⟩; have hra := below_reads hba; have hha := below_holds hba; obtain ⟨ma, hsa⟩ := below_grew hba) | (go_at_call 56; (first | ((with_reducible refine (Cc6.out _ ?_).mono ?_); (refine hT.behind ?_; repeat (first | with_reducible assumption | with_reducible exact Below.refl _ _ | with_reducible refine Below.drew ?_ | with_reducible refine below_drewN ?_ _ | with_reducible refine bw_alloc ?_ _ | (with_reducible refine bw_set ?_ ?_ _; focus (dsimp only; omega)) | (with_reducible apply bw_behind; with_reducible assumption))))); rintro e we ⟨rfl, hbe⟩; have hre := below_reads hbe; have hhe := below_holds hbe; obtain ⟨me, hse⟩ := below_grew hbe) | (go_at_call 57; (first | ((with_reducible refine (Cc9.out _ ?_).mono ?_); (refine hT.behind ?_; repeat (first | with_reducible assumption | with_reducible exact Below.refl _ _ | with_reducible refine Below.drew ?_ | with_reducible refine below_drewN ?_ _ | with_reducible refine bw_alloc ?_ _ | (with_reducible refine bw_set ?_ ?_ _; focus (dsimp only; omega)) | (with_reducible apply bw_behind; with_reducible assumption))))); rintro e wz ⟨rfl, hbz⟩; have hrz := below_reads hbz; have hhz := below_holds hbz; obtain ⟨mz, hsz⟩ := below_grew hbz))
  refine bodyPost_ret (v := .agg #[.bool t, .int .u64 M2, .int .u64 A2]) (by simp (maxDischargeDepth := 4) [results, Tryd.results21, go_sem, *]) rfl ?_
  refine ⟨rfl, ?_⟩
  repeat (first | with_reducible assumption | with_reducible exact Below.refl _ _ | with_reducible refine Below.drew ?_ | with_reducible refine below_drewN ?_ _ | with_reducible refine bw_alloc ?_ _ | (with_reducible refine bw_set ?_ ?_ _; focus (dsimp only; omega)) | (with_reducible apply bw_behind; with_reducible assumption))

set_option maxHeartbeats 4000000 in
theorem renter_1 (q : Bool) (M A : Int) (c1 : ∀ W, Tab W → Calls Tryd.prog 43 #[.agg #[.bool q, .int .u64 M, .int .u64 A]] W (Makes (.bool false) W)) (c5 : ∀ W, Tab W → Calls Tryd.prog 11 #[.agg #[.bool q, .int .u64 M, .int .u64 A]] W (Makes (.agg #[.bool false, .int .u64 M, .int .u64 A]) W)) (w : World) (hT : Tab w) :
    Calls Tryd.prog 25 #[.agg #[.bool q, .int .u64 M, .int .u64 A]] w (Makes (.agg #[.bool false, .int .u64 M, .int .u64 A]) w) := by
  have Cc1 := hide c1
  have Cc5 := hide c5
  clear c1 c5
  have SS := cell_same
  have LB' := ltB_add
  have LS := ltB_self
  have LA' := alloc_reads
  have LH := alloc_holds
  go_enter Tryd.func25, Tryd.ntmps25
  go_wp2_with (first | (go_at_call 43; (first | ((with_reducible refine (Cc1.out _ ?_).mono ?_); (refine hT.behind ?_; repeat (first | with_reducible assumption | with_reducible exact Below.refl _ _ | with_reducible refine Below.drew ?_ | with_reducible refine below_drewN ?_ _ | with_reducible refine bw_alloc ?_ _ | (with_reducible refine bw_set ?_ ?_ _; focus (dsimp only; omega)) | (with_reducible apply bw_behind; with_reducible assumption))))); rintro e wa ⟨rfl, hba⟩; have hra := below_reads hba; have hha := below_holds hba; obtain ⟨ma, hsa⟩ := below_grew hba) | (go_at_call 11; (first | ((with_reducible refine (Cc5.out _ ?_).mono ?_); (refine hT.behind ?_; repeat (first | with_reducible assumption | with_reducible exact Below.refl _ _ | with_reducible refine Below.drew ?_ | with_reducible refine below_drewN ?_ _ | with_reducible refine bw_alloc ?_ _ | (with_reducible refine bw_set ?_ ?_ _; focus (dsimp only; omega)) | (with_reducible apply bw_behind; with_reducible assumption))))); rintro e wy ⟨rfl, hby⟩; have hry := below_reads hby; have hhy := below_holds hby; obtain ⟨my, hsy⟩ := below_grew hby))
  refine bodyPost_ret (v := .agg #[.bool false, .int .u64 M, .int .u64 A]) (by simp (maxDischargeDepth := 4) [results, Tryd.results25, go_sem, *]) rfl ?_
  refine ⟨rfl, ?_⟩
  repeat (first | with_reducible assumption | with_reducible exact Below.refl _ _ | with_reducible refine Below.drew ?_ | with_reducible refine below_drewN ?_ _ | with_reducible refine bw_alloc ?_ _ | (with_reducible refine bw_set ?_ ?_ _; focus (dsimp only; omega)) | (with_reducible apply bw_behind; with_reducible assumption))

set_option maxHeartbeats 4000000 in
theorem renter_2 (q : Bool) (M A P : Int) (c1 : ∀ W, Tab W → Calls Tryd.prog 43 #[.agg #[.bool q, .int .u64 M, .int .u64 A]] W (Makes (.bool true) W)) (c7 : ∀ W, Tab W → Calls Tryd.prog 50 #[.agg #[.bool q, .int .u64 M, .int .u64 A]] W (Makes (.int .u64 P) W)) (c5 : ∀ W, Tab W → Calls Tryd.prog 11 #[.agg #[.bool q, .int .u64 M, .int .u64 A]] W (Makes (.agg #[.bool false, .int .u64 M, .int .u64 A]) W)) (hP : bits .and .u64 P 4 = 0) (w : World) (hT : Tab w) :
    Calls Tryd.prog 25 #[.agg #[.bool q, .int .u64 M, .int .u64 A]] w (Makes (.agg #[.bool false, .int .u64 M, .int .u64 A]) w) := by
  have Cc1 := hide c1
  have Cc7 := hide c7
  have Cc5 := hide c5
  clear c1 c7 c5
  have SS := cell_same
  have LB' := ltB_add
  have LS := ltB_self
  have LA' := alloc_reads
  have LH := alloc_holds
  go_enter Tryd.func25, Tryd.ntmps25
  go_wp2_with (first | (go_at_call 43; (first | ((with_reducible refine (Cc1.out _ ?_).mono ?_); (refine hT.behind ?_; repeat (first | with_reducible assumption | with_reducible exact Below.refl _ _ | with_reducible refine Below.drew ?_ | with_reducible refine below_drewN ?_ _ | with_reducible refine bw_alloc ?_ _ | (with_reducible refine bw_set ?_ ?_ _; focus (dsimp only; omega)) | (with_reducible apply bw_behind; with_reducible assumption))))); rintro e wa ⟨rfl, hba⟩; have hra := below_reads hba; have hha := below_holds hba; obtain ⟨ma, hsa⟩ := below_grew hba) | (go_at_call 50; (first | ((with_reducible refine (Cc7.out _ ?_).mono ?_); (refine hT.behind ?_; repeat (first | with_reducible assumption | with_reducible exact Below.refl _ _ | with_reducible refine Below.drew ?_ | with_reducible refine below_drewN ?_ _ | with_reducible refine bw_alloc ?_ _ | (with_reducible refine bw_set ?_ ?_ _; focus (dsimp only; omega)) | (with_reducible apply bw_behind; with_reducible assumption))))); rintro e wf ⟨rfl, hbf⟩; have hrf := below_reads hbf; have hhf := below_holds hbf; obtain ⟨mf, hsf⟩ := below_grew hbf) | (go_at_call 11; (first | ((with_reducible refine (Cc5.out _ ?_).mono ?_); (refine hT.behind ?_; repeat (first | with_reducible assumption | with_reducible exact Below.refl _ _ | with_reducible refine Below.drew ?_ | with_reducible refine below_drewN ?_ _ | with_reducible refine bw_alloc ?_ _ | (with_reducible refine bw_set ?_ ?_ _; focus (dsimp only; omega)) | (with_reducible apply bw_behind; with_reducible assumption))))); rintro e wy ⟨rfl, hby⟩; have hry := below_reads hby; have hhy := below_holds hby; obtain ⟨my, hsy⟩ := below_grew hby))
  refine bodyPost_ret (v := .agg #[.bool false, .int .u64 M, .int .u64 A]) (by simp (maxDischargeDepth := 4) [results, Tryd.results25, go_sem, *]) rfl ?_
  refine ⟨rfl, ?_⟩
  repeat (first | with_reducible assumption | with_reducible exact Below.refl _ _ | with_reducible refine Below.drew ?_ | with_reducible refine below_drewN ?_ _ | with_reducible refine bw_alloc ?_ _ | (with_reducible refine bw_set ?_ ?_ _; focus (dsimp only; omega)) | (with_reducible apply bw_behind; with_reducible assumption))

set_option maxHeartbeats 4000000 in
theorem renter_3 (q t : Bool) (M A P M2 A2 : Int) (c1 : ∀ W, Tab W → Calls Tryd.prog 43 #[.agg #[.bool q, .int .u64 M, .int .u64 A]] W (Makes (.bool true) W)) (c7 : ∀ W, Tab W → Calls Tryd.prog 50 #[.agg #[.bool q, .int .u64 M, .int .u64 A]] W (Makes (.int .u64 P) W)) (c9 : ∀ W, Tab W → Calls Tryd.prog 57 #[.agg #[.bool q, .int .u64 M, .int .u64 A], .int .u64 1] W (Makes (.agg #[.bool t, .int .u64 M2, .int .u64 A2]) W)) (hP : bits .and .u64 P 4 = 4) (w : World) (hT : Tab w) :
    Calls Tryd.prog 25 #[.agg #[.bool q, .int .u64 M, .int .u64 A]] w (Makes (.agg #[.bool t, .int .u64 M2, .int .u64 A2]) w) := by
  have Cc1 := hide c1
  have Cc7 := hide c7
  have Cc9 := hide c9
  clear c1 c7 c9
  have SS := cell_same
  have LB' := ltB_add
  have LS := ltB_self
  have LA' := alloc_reads
  have LH := alloc_holds
  go_enter Tryd.func25, Tryd.ntmps25
  go_wp2_with (first | (go_at_call 43; (first | ((with_reducible refine (Cc1.out _ ?_).mono ?_); (refine hT.behind ?_; repeat (first | with_reducible assumption | with_reducible exact Below.refl _ _ | with_reducible refine Below.drew ?_ | with_reducible refine below_drewN ?_ _ | with_reducible refine bw_alloc ?_ _ | (with_reducible refine bw_set ?_ ?_ _; focus (dsimp only; omega)) | (with_reducible apply bw_behind; with_reducible assumption))))); rintro e wa ⟨rfl, hba⟩; have hra := below_reads hba; have hha := below_holds hba; obtain ⟨ma, hsa⟩ := below_grew hba) | (go_at_call 50; (first | ((with_reducible refine (Cc7.out _ ?_).mono ?_); (refine hT.behind ?_; repeat (first | with_reducible assumption | with_reducible exact Below.refl _ _ | with_reducible refine Below.drew ?_ | with_reducible refine below_drewN ?_ _ | with_reducible refine bw_alloc ?_ _ | (with_reducible refine bw_set ?_ ?_ _; focus (dsimp only; omega)) | (with_reducible apply bw_behind; with_reducible assumption))))); rintro e wf ⟨rfl, hbf⟩; have hrf := below_reads hbf; have hhf := below_holds hbf; obtain ⟨mf, hsf⟩ := below_grew hbf) | (go_at_call 57; (first | ((with_reducible refine (Cc9.out _ ?_).mono ?_); (refine hT.behind ?_; repeat (first | with_reducible assumption | with_reducible exact Below.refl _ _ | with_reducible refine Below.drew ?_ | with_reducible refine below_drewN ?_ _ | with_reducible refine bw_alloc ?_ _ | (with_reducible refine bw_set ?_ ?_ _; focus (dsimp only; omega)) | (with_reducible apply bw_behind; with_reducible assumption))))); rintro e wz ⟨rfl, hbz⟩; have hrz := below_reads hbz; have hhz := below_holds hbz; obtain ⟨mz, hsz⟩ := below_grew hbz))
  refine bodyPost_ret (v := .agg #[.bool t, .int .u64 M2, .int .u64 A2]) (by simp (maxDischargeDepth := 4) [results, Tryd.results25, go_sem, *]) rfl ?_
  refine ⟨rfl, ?_⟩
  repeat (first | with_reducible assumption | with_reducible exact Below.refl _ _ | with_reducible refine Below.drew ?_ | with_reducible refine below_drewN ?_ _ | with_reducible refine bw_alloc ?_ _ | (with_reducible refine bw_set ?_ ?_ _; focus (dsimp only; omega)) | (with_reducible apply bw_behind; with_reducible assumption))

set_option maxHeartbeats 4000000 in
theorem ropened_1 (q : Bool) (M A : Int) (c1 : ∀ W, Tab W → Calls Tryd.prog 61 #[.agg #[.bool q, .int .u64 M, .int .u64 A]] W (Makes (.bool false) W)) (w : World) (hT : Tab w) :
    Calls Tryd.prog 27 #[.agg #[.bool q, .int .u64 M, .int .u64 A]] w (Makes (.agg #[.bool q, .int .u64 M, .int .u64 A]) w) := by
  have Cc1 := hide c1
  clear c1
  have SS := cell_same
  have LB' := ltB_add
  have LS := ltB_self
  have LA' := alloc_reads
  have LH := alloc_holds
  go_enter Tryd.func27, Tryd.ntmps27
  go_wp2_with (first | (go_at_call 61; (first | ((with_reducible refine (Cc1.out _ ?_).mono ?_); (refine hT.behind ?_; repeat (first | with_reducible assumption | with_reducible exact Below.refl _ _ | with_reducible refine Below.drew ?_ | with_reducible refine below_drewN ?_ _ | with_reducible refine bw_alloc ?_ _ | (with_reducible refine bw_set ?_ ?_ _; focus (dsimp only; omega)) | (with_reducible apply bw_behind; with_reducible assumption))))); rintro e wa ⟨rfl, hba⟩; have hra := below_reads hba; have hha := below_holds hba; obtain ⟨ma, hsa⟩ := below_grew hba))
  refine bodyPost_ret (v := .agg #[.bool q, .int .u64 M, .int .u64 A]) (by simp (maxDischargeDepth := 4) [results, Tryd.results27, go_sem, *]) rfl ?_
  refine ⟨rfl, ?_⟩
  repeat (first | with_reducible assumption | with_reducible exact Below.refl _ _ | with_reducible refine Below.drew ?_ | with_reducible refine below_drewN ?_ _ | with_reducible refine bw_alloc ?_ _ | (with_reducible refine bw_set ?_ ?_ _; focus (dsimp only; omega)) | (with_reducible apply bw_behind; with_reducible assumption))

set_option maxHeartbeats 4000000 in
theorem ropened_2 (q : Bool) (M A K : Int) (c1 : ∀ W, Tab W → Calls Tryd.prog 61 #[.agg #[.bool q, .int .u64 M, .int .u64 A]] W (Makes (.bool true) W)) (c2 : ∀ W, Tab W → Calls Tryd.prog 62 #[.agg #[.bool q, .int .u64 M, .int .u64 A]] W (Makes (.int .u64 K) W)) (hK : (K == 1) = false) (w : World) (hT : Tab w) :
    Calls Tryd.prog 27 #[.agg #[.bool q, .int .u64 M, .int .u64 A]] w (Makes (.agg #[.bool q, .int .u64 M, .int .u64 A]) w) := by
  have Cc1 := hide c1
  have Cc2 := hide c2
  clear c1 c2
  have SS := cell_same
  have LB' := ltB_add
  have LS := ltB_self
  have LA' := alloc_reads
  have LH := alloc_holds
  go_enter Tryd.func27, Tryd.ntmps27
  go_wp2_with (first | (go_at_call 61; (first | ((with_reducible refine (Cc1.out _ ?_).mono ?_); (refine hT.behind ?_; repeat (first | with_reducible assumption | with_reducible exact Below.refl _ _ | with_reducible refine Below.drew ?_ | with_reducible refine below_drewN ?_ _ | with_reducible refine bw_alloc ?_ _ | (with_reducible refine bw_set ?_ ?_ _; focus (dsimp only; omega)) | (with_reducible apply bw_behind; with_reducible assumption))))); rintro e wa ⟨rfl, hba⟩; have hra := below_reads hba; have hha := below_holds hba; obtain ⟨ma, hsa⟩ := below_grew hba) | (go_at_call 62; (first | ((with_reducible refine (Cc2.out _ ?_).mono ?_); (refine hT.behind ?_; repeat (first | with_reducible assumption | with_reducible exact Below.refl _ _ | with_reducible refine Below.drew ?_ | with_reducible refine below_drewN ?_ _ | with_reducible refine bw_alloc ?_ _ | (with_reducible refine bw_set ?_ ?_ _; focus (dsimp only; omega)) | (with_reducible apply bw_behind; with_reducible assumption))))); rintro e wb ⟨rfl, hbb⟩; have hrb := below_reads hbb; have hhb := below_holds hbb; obtain ⟨mb, hsb⟩ := below_grew hbb))
  refine bodyPost_ret (v := .agg #[.bool q, .int .u64 M, .int .u64 A]) (by simp (maxDischargeDepth := 4) [results, Tryd.results27, go_sem, *]) rfl ?_
  refine ⟨rfl, ?_⟩
  repeat (first | with_reducible assumption | with_reducible exact Below.refl _ _ | with_reducible refine Below.drew ?_ | with_reducible refine below_drewN ?_ _ | with_reducible refine bw_alloc ?_ _ | (with_reducible refine bw_set ?_ ?_ _; focus (dsimp only; omega)) | (with_reducible apply bw_behind; with_reducible assumption))

set_option maxHeartbeats 4000000 in
theorem ropened_3 (q t : Bool) (M A K M2 A2 : Int) (c1 : ∀ W, Tab W → Calls Tryd.prog 61 #[.agg #[.bool q, .int .u64 M, .int .u64 A]] W (Makes (.bool true) W)) (c2 : ∀ W, Tab W → Calls Tryd.prog 62 #[.agg #[.bool q, .int .u64 M, .int .u64 A]] W (Makes (.int .u64 K) W)) (c9 : ∀ W, Tab W → Calls Tryd.prog 57 #[.agg #[.bool q, .int .u64 M, .int .u64 A], .int .u64 0] W (Makes (.agg #[.bool t, .int .u64 M2, .int .u64 A2]) W)) (hK : (K == 1) = true) (w : World) (hT : Tab w) :
    Calls Tryd.prog 27 #[.agg #[.bool q, .int .u64 M, .int .u64 A]] w (Makes (.agg #[.bool t, .int .u64 M2, .int .u64 A2]) w) := by
  have Cc1 := hide c1
  have Cc2 := hide c2
  have Cc9 := hide c9
  clear c1 c2 c9
  have SS := cell_same
  have LB' := ltB_add
  have LS := ltB_self
  have LA' := alloc_reads
  have LH := alloc_holds
  go_enter Tryd.func27, Tryd.ntmps27
  go_wp2_with (first | (go_at_call 61; (first | ((with_reducible refine (Cc1.out _ ?_).mono ?_); (refine hT.behind ?_; repeat (first | with_reducible assumption | with_reducible exact Below.refl _ _ | with_reducible refine Below.drew ?_ | with_reducible refine below_drewN ?_ _ | with_reducible refine bw_alloc ?_ _ | (with_reducible refine bw_set ?_ ?_ _; focus (dsimp only; omega)) | (with_reducible apply bw_behind; with_reducible assumption))))); rintro e wa ⟨rfl, hba⟩; have hra := below_reads hba; have hha := below_holds hba; obtain ⟨ma, hsa⟩ := below_grew hba) | (go_at_call 62; (first | ((with_reducible refine (Cc2.out _ ?_).mono ?_); (refine hT.behind ?_; repeat (first | with_reducible assumption | with_reducible exact Below.refl _ _ | with_reducible refine Below.drew ?_ | with_reducible refine below_drewN ?_ _ | with_reducible refine bw_alloc ?_ _ | (with_reducible refine bw_set ?_ ?_ _; focus (dsimp only; omega)) | (with_reducible apply bw_behind; with_reducible assumption))))); rintro e wb ⟨rfl, hbb⟩; have hrb := below_reads hbb; have hhb := below_holds hbb; obtain ⟨mb, hsb⟩ := below_grew hbb) | (go_at_call 57; (first | ((with_reducible refine (Cc9.out _ ?_).mono ?_); (refine hT.behind ?_; repeat (first | with_reducible assumption | with_reducible exact Below.refl _ _ | with_reducible refine Below.drew ?_ | with_reducible refine below_drewN ?_ _ | with_reducible refine bw_alloc ?_ _ | (with_reducible refine bw_set ?_ ?_ _; focus (dsimp only; omega)) | (with_reducible apply bw_behind; with_reducible assumption))))); rintro e wz ⟨rfl, hbz⟩; have hrz := below_reads hbz; have hhz := below_holds hbz; obtain ⟨mz, hsz⟩ := below_grew hbz))
  refine bodyPost_ret (v := .agg #[.bool t, .int .u64 M2, .int .u64 A2]) (by simp (maxDischargeDepth := 4) [results, Tryd.results27, go_sem, *]) rfl ?_
  refine ⟨rfl, ?_⟩
  repeat (first | with_reducible assumption | with_reducible exact Below.refl _ _ | with_reducible refine Below.drew ?_ | with_reducible refine below_drewN ?_ _ | with_reducible refine bw_alloc ?_ _ | (with_reducible refine bw_set ?_ ?_ _; focus (dsimp only; omega)) | (with_reducible apply bw_behind; with_reducible assumption))

set_option maxHeartbeats 4000000 in
theorem rbuild_1 (q r : Bool) (M A N B : Int) (c5 : ∀ W, Tab W → Calls Tryd.prog 11 #[.agg #[.bool q, .int .u64 M, .int .u64 A]] W (Makes (.agg #[.bool false, .int .u64 M, .int .u64 A]) W)) (c1 : ∀ W, Tab W → Calls Tryd.prog 43 #[.agg #[.bool r, .int .u64 N, .int .u64 B]] W (Makes (.bool false) W)) (w : World) (hT : Tab w) :
    Calls Tryd.prog 29 #[.agg #[.bool q, .int .u64 M, .int .u64 A], .agg #[.bool r, .int .u64 N, .int .u64 B]] w (Makes (.agg #[.bool false, .int .u64 M, .int .u64 A]) w) := by
  have Cc5 := hide c5
  have Cc1 := hide c1
  clear c5 c1
  have SS := cell_same
  have LB' := ltB_add
  have LS := ltB_self
  have LA' := alloc_reads
  have LH := alloc_holds
  go_enter Tryd.func29, Tryd.ntmps29
  go_wp2_with (first | (go_at_call 11; (first | ((with_reducible refine (Cc5.out _ ?_).mono ?_); (refine hT.behind ?_; repeat (first | with_reducible assumption | with_reducible exact Below.refl _ _ | with_reducible refine Below.drew ?_ | with_reducible refine below_drewN ?_ _ | with_reducible refine bw_alloc ?_ _ | (with_reducible refine bw_set ?_ ?_ _; focus (dsimp only; omega)) | (with_reducible apply bw_behind; with_reducible assumption))))); rintro e wy ⟨rfl, hby⟩; have hry := below_reads hby; have hhy := below_holds hby; obtain ⟨my, hsy⟩ := below_grew hby) | (go_at_call 43; (first | ((with_reducible refine (Cc1.out _ ?_).mono ?_); (refine hT.behind ?_; repeat (first | with_reducible assumption | with_reducible exact Below.refl _ _ | with_reducible refine Below.drew ?_ | with_reducible refine below_drewN ?_ _ | with_reducible refine bw_alloc ?_ _ | (with_reducible refine bw_set ?_ ?_ _; focus (dsimp only; omega)) | (with_reducible apply bw_behind; with_reducible assumption))))); rintro e wa ⟨rfl, hba⟩; have hra := below_reads hba; have hha := below_holds hba; obtain ⟨ma, hsa⟩ := below_grew hba))
  refine bodyPost_ret (v := .agg #[.bool false, .int .u64 M, .int .u64 A]) (by simp (maxDischargeDepth := 4) [results, Tryd.results29, go_sem, *]) rfl ?_
  refine ⟨rfl, ?_⟩
  repeat (first | with_reducible assumption | with_reducible exact Below.refl _ _ | with_reducible refine Below.drew ?_ | with_reducible refine below_drewN ?_ _ | with_reducible refine bw_alloc ?_ _ | (with_reducible refine bw_set ?_ ?_ _; focus (dsimp only; omega)) | (with_reducible apply bw_behind; with_reducible assumption))

set_option maxHeartbeats 4000000 in
theorem rbuild_2 (q r : Bool) (M A N B : Int) (c5 : ∀ W, Tab W → Calls Tryd.prog 11 #[.agg #[.bool q, .int .u64 M, .int .u64 A]] W (Makes (.agg #[.bool false, .int .u64 M, .int .u64 A]) W)) (c1 : ∀ W, Tab W → Calls Tryd.prog 43 #[.agg #[.bool r, .int .u64 N, .int .u64 B]] W (Makes (.bool true) W)) (c8 : ∀ W, Tab W → Calls Tryd.prog 65 #[.agg #[.bool q, .int .u64 M, .int .u64 A], .agg #[.bool r, .int .u64 N, .int .u64 B]] W (Makes (.bool false) W)) (w : World) (hT : Tab w) :
    Calls Tryd.prog 29 #[.agg #[.bool q, .int .u64 M, .int .u64 A], .agg #[.bool r, .int .u64 N, .int .u64 B]] w (Makes (.agg #[.bool false, .int .u64 M, .int .u64 A]) w) := by
  have Cc5 := hide c5
  have Cc1 := hide c1
  have Cc8 := hide c8
  clear c5 c1 c8
  have SS := cell_same
  have LB' := ltB_add
  have LS := ltB_self
  have LA' := alloc_reads
  have LH := alloc_holds
  go_enter Tryd.func29, Tryd.ntmps29
  go_wp2_with (first | (go_at_call 11; (first | ((with_reducible refine (Cc5.out _ ?_).mono ?_); (refine hT.behind ?_; repeat (first | with_reducible assumption | with_reducible exact Below.refl _ _ | with_reducible refine Below.drew ?_ | with_reducible refine below_drewN ?_ _ | with_reducible refine bw_alloc ?_ _ | (with_reducible refine bw_set ?_ ?_ _; focus (dsimp only; omega)) | (with_reducible apply bw_behind; with_reducible assumption))))); rintro e wy ⟨rfl, hby⟩; have hry := below_reads hby; have hhy := below_holds hby; obtain ⟨my, hsy⟩ := below_grew hby) | (go_at_call 43; (first | ((with_reducible refine (Cc1.out _ ?_).mono ?_); (refine hT.behind ?_; repeat (first | with_reducible assumption | with_reducible exact Below.refl _ _ | with_reducible refine Below.drew ?_ | with_reducible refine below_drewN ?_ _ | with_reducible refine bw_alloc ?_ _ | (with_reducible refine bw_set ?_ ?_ _; focus (dsimp only; omega)) | (with_reducible apply bw_behind; with_reducible assumption))))); rintro e wa ⟨rfl, hba⟩; have hra := below_reads hba; have hha := below_holds hba; obtain ⟨ma, hsa⟩ := below_grew hba) | (go_at_call 65; (first | ((with_reducible refine (Cc8.out _ ?_).mono ?_); (refine hT.behind ?_; repeat (first | with_reducible assumption | with_reducible exact Below.refl _ _ | with_reducible refine Below.drew ?_ | with_reducible refine below_drewN ?_ _ | with_reducible refine bw_alloc ?_ _ | (with_reducible refine bw_set ?_ ?_ _; focus (dsimp only; omega)) | (with_reducible apply bw_behind; with_reducible assumption))))); rintro e wg ⟨rfl, hbg⟩; have hrg := below_reads hbg; have hhg := below_holds hbg; obtain ⟨mg, hsg⟩ := below_grew hbg))
  refine bodyPost_ret (v := .agg #[.bool false, .int .u64 M, .int .u64 A]) (by simp (maxDischargeDepth := 4) [results, Tryd.results29, go_sem, *]) rfl ?_
  refine ⟨rfl, ?_⟩
  repeat (first | with_reducible assumption | with_reducible exact Below.refl _ _ | with_reducible refine Below.drew ?_ | with_reducible refine below_drewN ?_ _ | with_reducible refine bw_alloc ?_ _ | (with_reducible refine bw_set ?_ ?_ _; focus (dsimp only; omega)) | (with_reducible apply bw_behind; with_reducible assumption))

set_option maxHeartbeats 4000000 in
theorem rbuild_3 (q r Z : Bool) (M A N B K : Int) (c5 : ∀ W, Tab W → Calls Tryd.prog 11 #[.agg #[.bool q, .int .u64 M, .int .u64 A]] W (Makes (.agg #[.bool false, .int .u64 M, .int .u64 A]) W)) (c1 : ∀ W, Tab W → Calls Tryd.prog 43 #[.agg #[.bool r, .int .u64 N, .int .u64 B]] W (Makes (.bool true) W)) (c8 : ∀ W, Tab W → Calls Tryd.prog 65 #[.agg #[.bool q, .int .u64 M, .int .u64 A], .agg #[.bool r, .int .u64 N, .int .u64 B]] W (Makes (.bool true) W)) (c2 : ∀ W, Tab W → Calls Tryd.prog 62 #[.agg #[.bool q, .int .u64 M, .int .u64 A]] W (Makes (.int .u64 K) W)) (hZ : decide (K < 2) = Z) (w : World) (hT : Tab w) :
    Calls Tryd.prog 29 #[.agg #[.bool q, .int .u64 M, .int .u64 A], .agg #[.bool r, .int .u64 N, .int .u64 B]] w (Makes (.agg #[.bool Z, .int .u64 M, .int .u64 A]) w) := by
  have Cc5 := hide c5
  have Cc1 := hide c1
  have Cc8 := hide c8
  have Cc2 := hide c2
  clear c5 c1 c8 c2
  have SS := cell_same
  have LB' := ltB_add
  have LS := ltB_self
  have LA' := alloc_reads
  have LH := alloc_holds
  go_enter Tryd.func29, Tryd.ntmps29
  go_wp2_with (first | (go_at_call 11; (first | ((with_reducible refine (Cc5.out _ ?_).mono ?_); (refine hT.behind ?_; repeat (first | with_reducible assumption | with_reducible exact Below.refl _ _ | with_reducible refine Below.drew ?_ | with_reducible refine below_drewN ?_ _ | with_reducible refine bw_alloc ?_ _ | (with_reducible refine bw_set ?_ ?_ _; focus (dsimp only; omega)) | (with_reducible apply bw_behind; with_reducible assumption))))); rintro e wy ⟨rfl, hby⟩; have hry := below_reads hby; have hhy := below_holds hby; obtain ⟨my, hsy⟩ := below_grew hby) | (go_at_call 43; (first | ((with_reducible refine (Cc1.out _ ?_).mono ?_); (refine hT.behind ?_; repeat (first | with_reducible assumption | with_reducible exact Below.refl _ _ | with_reducible refine Below.drew ?_ | with_reducible refine below_drewN ?_ _ | with_reducible refine bw_alloc ?_ _ | (with_reducible refine bw_set ?_ ?_ _; focus (dsimp only; omega)) | (with_reducible apply bw_behind; with_reducible assumption))))); rintro e wa ⟨rfl, hba⟩; have hra := below_reads hba; have hha := below_holds hba; obtain ⟨ma, hsa⟩ := below_grew hba) | (go_at_call 65; (first | ((with_reducible refine (Cc8.out _ ?_).mono ?_); (refine hT.behind ?_; repeat (first | with_reducible assumption | with_reducible exact Below.refl _ _ | with_reducible refine Below.drew ?_ | with_reducible refine below_drewN ?_ _ | with_reducible refine bw_alloc ?_ _ | (with_reducible refine bw_set ?_ ?_ _; focus (dsimp only; omega)) | (with_reducible apply bw_behind; with_reducible assumption))))); rintro e wg ⟨rfl, hbg⟩; have hrg := below_reads hbg; have hhg := below_holds hbg; obtain ⟨mg, hsg⟩ := below_grew hbg) | (go_at_call 62; (first | ((with_reducible refine (Cc2.out _ ?_).mono ?_); (refine hT.behind ?_; repeat (first | with_reducible assumption | with_reducible exact Below.refl _ _ | with_reducible refine Below.drew ?_ | with_reducible refine below_drewN ?_ _ | with_reducible refine bw_alloc ?_ _ | (with_reducible refine bw_set ?_ ?_ _; focus (dsimp only; omega)) | (with_reducible apply bw_behind; with_reducible assumption))))); rintro e wb ⟨rfl, hbb⟩; have hrb := below_reads hbb; have hhb := below_holds hbb; obtain ⟨mb, hsb⟩ := below_grew hbb))
  refine bodyPost_ret (v := .agg #[.bool Z, .int .u64 M, .int .u64 A]) (by simp (maxDischargeDepth := 4) [results, Tryd.results29, go_sem, *]) rfl ?_
  refine ⟨rfl, ?_⟩
  repeat (first | with_reducible assumption | with_reducible exact Below.refl _ _ | with_reducible refine Below.drew ?_ | with_reducible refine below_drewN ?_ _ | with_reducible refine bw_alloc ?_ _ | (with_reducible refine bw_set ?_ ?_ _; focus (dsimp only; omega)) | (with_reducible apply bw_behind; with_reducible assumption))

set_option maxRecDepth 100000 in
set_option maxHeartbeats 4000000 in
theorem rbnd_1 (q O x : Bool) (M A N D0 U0 P K : Int) (c3 : ∀ W, Tab W → Calls Tryd.prog 42 #[.agg #[.bool q, .int .u64 M, .int .u64 A]] W (Makes (.tuple #[.agg #[.int .u64 D0, .int .u64 U0, .int .u64 P, .int .u64 K], .bool O]) W)) (c5 : ∀ W, Tab W → Calls Tryd.prog 11 #[.agg #[.bool q, .int .u64 M, .int .u64 A]] W (Makes (.agg #[.bool false, .int .u64 M, .int .u64 A]) W)) (hA : 281474976710656 ≤ A) (w : World) (hT : Tab w) :
    Calls Tryd.prog 16 #[.agg #[.bool q, .int .u64 M, .int .u64 A], .int .u64 N, .bool x] w (Makes (.agg #[.bool false, .int .u64 M, .int .u64 A]) w) := by
  have Cc3 := hide c3
  have Cc5 := hide c5
  clear c3 c5
  have SS := cell_same
  have LB' := ltB_add
  have LS := ltB_self
  have LA' := alloc_reads
  have LH := alloc_holds
  go_enter Tryd.func16, Tryd.ntmps16
  go_wp2_with (first | (go_at_call 42; (first | ((with_reducible refine (Cc3.out _ ?_).mono ?_); (refine hT.behind ?_; repeat (first | with_reducible assumption | with_reducible exact Below.refl _ _ | with_reducible refine Below.drew ?_ | with_reducible refine below_drewN ?_ _ | with_reducible refine bw_alloc ?_ _ | (with_reducible refine bw_set ?_ ?_ _; focus (dsimp only; omega)) | (with_reducible apply bw_behind; with_reducible assumption))))); rintro e wb ⟨rfl, hbb⟩; have hrb := below_reads hbb; have hhb := below_holds hbb; obtain ⟨mb, hsb⟩ := below_grew hbb) | (go_at_call 11; (first | ((with_reducible refine (Cc5.out _ ?_).mono ?_); (refine hT.behind ?_; repeat (first | with_reducible assumption | with_reducible exact Below.refl _ _ | with_reducible refine Below.drew ?_ | with_reducible refine below_drewN ?_ _ | with_reducible refine bw_alloc ?_ _ | (with_reducible refine bw_set ?_ ?_ _; focus (dsimp only; omega)) | (with_reducible apply bw_behind; with_reducible assumption))))); rintro e wy ⟨rfl, hby⟩; have hry := below_reads hby; have hhy := below_holds hby; obtain ⟨my, hsy⟩ := below_grew hby))
  refine bodyPost_ret (v := .agg #[.bool false, .int .u64 M, .int .u64 A]) (by simp (maxDischargeDepth := 4) [results, Tryd.results16, go_sem, *]) rfl ?_
  refine ⟨rfl, ?_⟩
  repeat (first | with_reducible assumption | with_reducible exact Below.refl _ _ | with_reducible refine Below.drew ?_ | with_reducible refine below_drewN ?_ _ | with_reducible refine bw_alloc ?_ _ | (with_reducible refine bw_set ?_ ?_ _; focus (dsimp only; omega)) | (with_reducible apply bw_behind; with_reducible assumption))

set_option maxRecDepth 100000 in
set_option maxHeartbeats 4000000 in
theorem rbnd_2 (q O x : Bool) (M A N D0 U0 P K Y : Int) (c3 : ∀ W, Tab W → Calls Tryd.prog 42 #[.agg #[.bool q, .int .u64 M, .int .u64 A]] W (Makes (.tuple #[.agg #[.int .u64 D0, .int .u64 U0, .int .u64 P, .int .u64 K], .bool O]) W)) (c5 : ∀ W, Tab W → Calls Tryd.prog 11 #[.agg #[.bool q, .int .u64 M, .int .u64 A]] W (Makes (.agg #[.bool false, .int .u64 M, .int .u64 A]) W)) (hA : ¬ 281474976710656 ≤ A) (hY : IntKind.u64.wrap (281474976710656 - A) = Y) (hN : Y < N) (w : World) (hT : Tab w) :
    Calls Tryd.prog 16 #[.agg #[.bool q, .int .u64 M, .int .u64 A], .int .u64 N, .bool x] w (Makes (.agg #[.bool false, .int .u64 M, .int .u64 A]) w) := by
  have Cc3 := hide c3
  have Cc5 := hide c5
  clear c3 c5
  have SS := cell_same
  have LB' := ltB_add
  have LS := ltB_self
  have LA' := alloc_reads
  have LH := alloc_holds
  go_enter Tryd.func16, Tryd.ntmps16
  go_wp2_with (first | (go_at_call 42; (first | ((with_reducible refine (Cc3.out _ ?_).mono ?_); (refine hT.behind ?_; repeat (first | with_reducible assumption | with_reducible exact Below.refl _ _ | with_reducible refine Below.drew ?_ | with_reducible refine below_drewN ?_ _ | with_reducible refine bw_alloc ?_ _ | (with_reducible refine bw_set ?_ ?_ _; focus (dsimp only; omega)) | (with_reducible apply bw_behind; with_reducible assumption))))); rintro e wb ⟨rfl, hbb⟩; have hrb := below_reads hbb; have hhb := below_holds hbb; obtain ⟨mb, hsb⟩ := below_grew hbb) | (go_at_call 11; (first | ((with_reducible refine (Cc5.out _ ?_).mono ?_); (refine hT.behind ?_; repeat (first | with_reducible assumption | with_reducible exact Below.refl _ _ | with_reducible refine Below.drew ?_ | with_reducible refine below_drewN ?_ _ | with_reducible refine bw_alloc ?_ _ | (with_reducible refine bw_set ?_ ?_ _; focus (dsimp only; omega)) | (with_reducible apply bw_behind; with_reducible assumption))))); rintro e wy ⟨rfl, hby⟩; have hry := below_reads hby; have hhy := below_holds hby; obtain ⟨my, hsy⟩ := below_grew hby))
  refine bodyPost_ret (v := .agg #[.bool false, .int .u64 M, .int .u64 A]) (by simp (maxDischargeDepth := 4) [results, Tryd.results16, go_sem, *]) rfl ?_
  refine ⟨rfl, ?_⟩
  repeat (first | with_reducible assumption | with_reducible exact Below.refl _ _ | with_reducible refine Below.drew ?_ | with_reducible refine below_drewN ?_ _ | with_reducible refine bw_alloc ?_ _ | (with_reducible refine bw_set ?_ ?_ _; focus (dsimp only; omega)) | (with_reducible apply bw_behind; with_reducible assumption))

set_option maxRecDepth 100000 in
set_option maxHeartbeats 4000000 in
theorem rbnd_3 (q O x : Bool) (M A N D0 U0 P K Y X D U M2 : Int) (c3 : ∀ W, Tab W → Calls Tryd.prog 42 #[.agg #[.bool q, .int .u64 M, .int .u64 A]] W (Makes (.tuple #[.agg #[.int .u64 D0, .int .u64 U0, .int .u64 P, .int .u64 K], .bool O]) W)) (c11 : ∀ W, Tab W → Calls Tryd.prog 47 #[.agg #[.int .u64 A, .int .u64 X]] W (Makes (.tuple #[.agg #[.int .u64 D, .int .u64 U], .bool true]) W)) (c12 : ∀ W, Tab W → Calls Tryd.prog 48 #[.agg #[.int .u64 D, .int .u64 U, .int .u64 P, .int .u64 K], .int .u64 A] W (Makes (.tuple #[.agg #[.bool false, .int .u64 M2, .int .u64 A], .bool true]) W)) (c1 : ∀ W, Tab W → Calls Tryd.prog 43 #[.agg #[.bool q, .int .u64 M, .int .u64 A]] W (Makes (.bool false) W)) (hA : ¬ 281474976710656 ≤ A) (hY : IntKind.u64.wrap (281474976710656 - A) = Y) (hN : ¬ Y < N) (hX : IntKind.u64.wrap (A + N) = X) (w : World) (hT : Tab w) :
    Calls Tryd.prog 16 #[.agg #[.bool q, .int .u64 M, .int .u64 A], .int .u64 N, .bool x] w (Makes (.agg #[.bool false, .int .u64 M2, .int .u64 A]) w) := by
  have Cc3 := hide c3
  have Cc11 := hide c11
  have Cc12 := hide c12
  have Cc1 := hide c1
  clear c3 c11 c12 c1
  have SS := cell_same
  have LB' := ltB_add
  have LS := ltB_self
  have LA' := alloc_reads
  have LH := alloc_holds
  go_enter Tryd.func16, Tryd.ntmps16
  go_wp2_with (first | (go_at_call 42; (first | ((with_reducible refine (Cc3.out _ ?_).mono ?_); (refine hT.behind ?_; repeat (first | with_reducible assumption | with_reducible exact Below.refl _ _ | with_reducible refine Below.drew ?_ | with_reducible refine below_drewN ?_ _ | with_reducible refine bw_alloc ?_ _ | (with_reducible refine bw_set ?_ ?_ _; focus (dsimp only; omega)) | (with_reducible apply bw_behind; with_reducible assumption))))); rintro e wb ⟨rfl, hbb⟩; have hrb := below_reads hbb; have hhb := below_holds hbb; obtain ⟨mb, hsb⟩ := below_grew hbb) | (go_at_call 47; (first | ((with_reducible refine (Cc11.out _ ?_).mono ?_); (refine hT.behind ?_; repeat (first | with_reducible assumption | with_reducible exact Below.refl _ _ | with_reducible refine Below.drew ?_ | with_reducible refine below_drewN ?_ _ | with_reducible refine bw_alloc ?_ _ | (with_reducible refine bw_set ?_ ?_ _; focus (dsimp only; omega)) | (with_reducible apply bw_behind; with_reducible assumption))))); rintro e wg ⟨rfl, hbg⟩; have hrg := below_reads hbg; have hhg := below_holds hbg; obtain ⟨mg, hsg⟩ := below_grew hbg) | (go_at_call 48; (first | ((with_reducible refine (Cc12.out _ ?_).mono ?_); (refine hT.behind ?_; repeat (first | with_reducible assumption | with_reducible exact Below.refl _ _ | with_reducible refine Below.drew ?_ | with_reducible refine below_drewN ?_ _ | with_reducible refine bw_alloc ?_ _ | (with_reducible refine bw_set ?_ ?_ _; focus (dsimp only; omega)) | (with_reducible apply bw_behind; with_reducible assumption))))); rintro e wk ⟨rfl, hbk⟩; have hrk := below_reads hbk; have hhk := below_holds hbk; obtain ⟨mk, hsk⟩ := below_grew hbk) | (go_at_call 43; (first | ((with_reducible refine (Cc1.out _ ?_).mono ?_); (refine hT.behind ?_; repeat (first | with_reducible assumption | with_reducible exact Below.refl _ _ | with_reducible refine Below.drew ?_ | with_reducible refine below_drewN ?_ _ | with_reducible refine bw_alloc ?_ _ | (with_reducible refine bw_set ?_ ?_ _; focus (dsimp only; omega)) | (with_reducible apply bw_behind; with_reducible assumption))))); rintro e wa ⟨rfl, hba⟩; have hra := below_reads hba; have hha := below_holds hba; obtain ⟨ma, hsa⟩ := below_grew hba))
  refine bodyPost_ret (v := .agg #[.bool false, .int .u64 M2, .int .u64 A]) (by simp (maxDischargeDepth := 4) [results, Tryd.results16, go_sem, *]) rfl ?_
  refine ⟨rfl, ?_⟩
  repeat (first | with_reducible assumption | with_reducible exact Below.refl _ _ | with_reducible refine Below.drew ?_ | with_reducible refine below_drewN ?_ _ | with_reducible refine bw_alloc ?_ _ | (with_reducible refine bw_set ?_ ?_ _; focus (dsimp only; omega)) | (with_reducible apply bw_behind; with_reducible assumption))

set_option maxRecDepth 100000 in
set_option maxHeartbeats 4000000 in
theorem rbnd_4 (q O x : Bool) (M A N D0 U0 P K Y X D U M2 : Int) (c3 : ∀ W, Tab W → Calls Tryd.prog 42 #[.agg #[.bool q, .int .u64 M, .int .u64 A]] W (Makes (.tuple #[.agg #[.int .u64 D0, .int .u64 U0, .int .u64 P, .int .u64 K], .bool O]) W)) (c11 : ∀ W, Tab W → Calls Tryd.prog 47 #[.agg #[.int .u64 A, .int .u64 X]] W (Makes (.tuple #[.agg #[.int .u64 D, .int .u64 U], .bool true]) W)) (c12 : ∀ W, Tab W → Calls Tryd.prog 48 #[.agg #[.int .u64 D, .int .u64 U, .int .u64 P, .int .u64 K], .int .u64 A] W (Makes (.tuple #[.agg #[.bool false, .int .u64 M2, .int .u64 A], .bool true]) W)) (c1 : ∀ W, Tab W → Calls Tryd.prog 43 #[.agg #[.bool q, .int .u64 M, .int .u64 A]] W (Makes (.bool true) W)) (hA : ¬ 281474976710656 ≤ A) (hY : IntKind.u64.wrap (281474976710656 - A) = Y) (hN : ¬ Y < N) (hX : IntKind.u64.wrap (A + N) = X) (hD : ¬ D0 ≤ D) (w : World) (hT : Tab w) :
    Calls Tryd.prog 16 #[.agg #[.bool q, .int .u64 M, .int .u64 A], .int .u64 N, .bool x] w (Makes (.agg #[.bool false, .int .u64 M2, .int .u64 A]) w) := by
  have Cc3 := hide c3
  have Cc11 := hide c11
  have Cc12 := hide c12
  have Cc1 := hide c1
  clear c3 c11 c12 c1
  have SS := cell_same
  have LB' := ltB_add
  have LS := ltB_self
  have LA' := alloc_reads
  have LH := alloc_holds
  go_enter Tryd.func16, Tryd.ntmps16
  go_wp2_with (first | (go_at_call 42; (first | ((with_reducible refine (Cc3.out _ ?_).mono ?_); (refine hT.behind ?_; repeat (first | with_reducible assumption | with_reducible exact Below.refl _ _ | with_reducible refine Below.drew ?_ | with_reducible refine below_drewN ?_ _ | with_reducible refine bw_alloc ?_ _ | (with_reducible refine bw_set ?_ ?_ _; focus (dsimp only; omega)) | (with_reducible apply bw_behind; with_reducible assumption))))); rintro e wb ⟨rfl, hbb⟩; have hrb := below_reads hbb; have hhb := below_holds hbb; obtain ⟨mb, hsb⟩ := below_grew hbb) | (go_at_call 47; (first | ((with_reducible refine (Cc11.out _ ?_).mono ?_); (refine hT.behind ?_; repeat (first | with_reducible assumption | with_reducible exact Below.refl _ _ | with_reducible refine Below.drew ?_ | with_reducible refine below_drewN ?_ _ | with_reducible refine bw_alloc ?_ _ | (with_reducible refine bw_set ?_ ?_ _; focus (dsimp only; omega)) | (with_reducible apply bw_behind; with_reducible assumption))))); rintro e wg ⟨rfl, hbg⟩; have hrg := below_reads hbg; have hhg := below_holds hbg; obtain ⟨mg, hsg⟩ := below_grew hbg) | (go_at_call 48; (first | ((with_reducible refine (Cc12.out _ ?_).mono ?_); (refine hT.behind ?_; repeat (first | with_reducible assumption | with_reducible exact Below.refl _ _ | with_reducible refine Below.drew ?_ | with_reducible refine below_drewN ?_ _ | with_reducible refine bw_alloc ?_ _ | (with_reducible refine bw_set ?_ ?_ _; focus (dsimp only; omega)) | (with_reducible apply bw_behind; with_reducible assumption))))); rintro e wk ⟨rfl, hbk⟩; have hrk := below_reads hbk; have hhk := below_holds hbk; obtain ⟨mk, hsk⟩ := below_grew hbk) | (go_at_call 43; (first | ((with_reducible refine (Cc1.out _ ?_).mono ?_); (refine hT.behind ?_; repeat (first | with_reducible assumption | with_reducible exact Below.refl _ _ | with_reducible refine Below.drew ?_ | with_reducible refine below_drewN ?_ _ | with_reducible refine bw_alloc ?_ _ | (with_reducible refine bw_set ?_ ?_ _; focus (dsimp only; omega)) | (with_reducible apply bw_behind; with_reducible assumption))))); rintro e wa ⟨rfl, hba⟩; have hra := below_reads hba; have hha := below_holds hba; obtain ⟨ma, hsa⟩ := below_grew hba))
  refine bodyPost_ret (v := .agg #[.bool false, .int .u64 M2, .int .u64 A]) (by simp (maxDischargeDepth := 4) [results, Tryd.results16, go_sem, *]) rfl ?_
  refine ⟨rfl, ?_⟩
  repeat (first | with_reducible assumption | with_reducible exact Below.refl _ _ | with_reducible refine Below.drew ?_ | with_reducible refine below_drewN ?_ _ | with_reducible refine bw_alloc ?_ _ | (with_reducible refine bw_set ?_ ?_ _; focus (dsimp only; omega)) | (with_reducible apply bw_behind; with_reducible assumption))

set_option maxRecDepth 100000 in
set_option maxHeartbeats 4000000 in
theorem rbnd_5 (q O x : Bool) (M A N D0 U0 P K Y X D U M2 : Int) (c3 : ∀ W, Tab W → Calls Tryd.prog 42 #[.agg #[.bool q, .int .u64 M, .int .u64 A]] W (Makes (.tuple #[.agg #[.int .u64 D0, .int .u64 U0, .int .u64 P, .int .u64 K], .bool O]) W)) (c11 : ∀ W, Tab W → Calls Tryd.prog 47 #[.agg #[.int .u64 A, .int .u64 X]] W (Makes (.tuple #[.agg #[.int .u64 D, .int .u64 U], .bool true]) W)) (c12 : ∀ W, Tab W → Calls Tryd.prog 48 #[.agg #[.int .u64 D, .int .u64 U, .int .u64 P, .int .u64 K], .int .u64 A] W (Makes (.tuple #[.agg #[.bool false, .int .u64 M2, .int .u64 A], .bool true]) W)) (c1 : ∀ W, Tab W → Calls Tryd.prog 43 #[.agg #[.bool q, .int .u64 M, .int .u64 A]] W (Makes (.bool true) W)) (hA : ¬ 281474976710656 ≤ A) (hY : IntKind.u64.wrap (281474976710656 - A) = Y) (hN : ¬ Y < N) (hX : IntKind.u64.wrap (A + N) = X) (hD : D0 ≤ D) (hU : ¬ U ≤ U0) (w : World) (hT : Tab w) :
    Calls Tryd.prog 16 #[.agg #[.bool q, .int .u64 M, .int .u64 A], .int .u64 N, .bool x] w (Makes (.agg #[.bool false, .int .u64 M2, .int .u64 A]) w) := by
  have Cc3 := hide c3
  have Cc11 := hide c11
  have Cc12 := hide c12
  have Cc1 := hide c1
  clear c3 c11 c12 c1
  have SS := cell_same
  have LB' := ltB_add
  have LS := ltB_self
  have LA' := alloc_reads
  have LH := alloc_holds
  go_enter Tryd.func16, Tryd.ntmps16
  go_wp2_with (first | (go_at_call 42; (first | ((with_reducible refine (Cc3.out _ ?_).mono ?_); (refine hT.behind ?_; repeat (first | with_reducible assumption | with_reducible exact Below.refl _ _ | with_reducible refine Below.drew ?_ | with_reducible refine below_drewN ?_ _ | with_reducible refine bw_alloc ?_ _ | (with_reducible refine bw_set ?_ ?_ _; focus (dsimp only; omega)) | (with_reducible apply bw_behind; with_reducible assumption))))); rintro e wb ⟨rfl, hbb⟩; have hrb := below_reads hbb; have hhb := below_holds hbb; obtain ⟨mb, hsb⟩ := below_grew hbb) | (go_at_call 47; (first | ((with_reducible refine (Cc11.out _ ?_).mono ?_); (refine hT.behind ?_; repeat (first | with_reducible assumption | with_reducible exact Below.refl _ _ | with_reducible refine Below.drew ?_ | with_reducible refine below_drewN ?_ _ | with_reducible refine bw_alloc ?_ _ | (with_reducible refine bw_set ?_ ?_ _; focus (dsimp only; omega)) | (with_reducible apply bw_behind; with_reducible assumption))))); rintro e wg ⟨rfl, hbg⟩; have hrg := below_reads hbg; have hhg := below_holds hbg; obtain ⟨mg, hsg⟩ := below_grew hbg) | (go_at_call 48; (first | ((with_reducible refine (Cc12.out _ ?_).mono ?_); (refine hT.behind ?_; repeat (first | with_reducible assumption | with_reducible exact Below.refl _ _ | with_reducible refine Below.drew ?_ | with_reducible refine below_drewN ?_ _ | with_reducible refine bw_alloc ?_ _ | (with_reducible refine bw_set ?_ ?_ _; focus (dsimp only; omega)) | (with_reducible apply bw_behind; with_reducible assumption))))); rintro e wk ⟨rfl, hbk⟩; have hrk := below_reads hbk; have hhk := below_holds hbk; obtain ⟨mk, hsk⟩ := below_grew hbk) | (go_at_call 43; (first | ((with_reducible refine (Cc1.out _ ?_).mono ?_); (refine hT.behind ?_; repeat (first | with_reducible assumption | with_reducible exact Below.refl _ _ | with_reducible refine Below.drew ?_ | with_reducible refine below_drewN ?_ _ | with_reducible refine bw_alloc ?_ _ | (with_reducible refine bw_set ?_ ?_ _; focus (dsimp only; omega)) | (with_reducible apply bw_behind; with_reducible assumption))))); rintro e wa ⟨rfl, hba⟩; have hra := below_reads hba; have hha := below_holds hba; obtain ⟨ma, hsa⟩ := below_grew hba))
  refine bodyPost_ret (v := .agg #[.bool false, .int .u64 M2, .int .u64 A]) (by simp (maxDischargeDepth := 4) [results, Tryd.results16, go_sem, *]) rfl ?_
  refine ⟨rfl, ?_⟩
  repeat (first | with_reducible assumption | with_reducible exact Below.refl _ _ | with_reducible refine Below.drew ?_ | with_reducible refine below_drewN ?_ _ | with_reducible refine bw_alloc ?_ _ | (with_reducible refine bw_set ?_ ?_ _; focus (dsimp only; omega)) | (with_reducible apply bw_behind; with_reducible assumption))

set_option maxRecDepth 100000 in
set_option maxHeartbeats 4000000 in
theorem rbnd_6 (q O : Bool) (M A N D0 U0 P K Y X D U M2 : Int) (c3 : ∀ W, Tab W → Calls Tryd.prog 42 #[.agg #[.bool q, .int .u64 M, .int .u64 A]] W (Makes (.tuple #[.agg #[.int .u64 D0, .int .u64 U0, .int .u64 P, .int .u64 K], .bool O]) W)) (c11 : ∀ W, Tab W → Calls Tryd.prog 47 #[.agg #[.int .u64 A, .int .u64 X]] W (Makes (.tuple #[.agg #[.int .u64 D, .int .u64 U], .bool true]) W)) (c12 : ∀ W, Tab W → Calls Tryd.prog 48 #[.agg #[.int .u64 D, .int .u64 U, .int .u64 P, .int .u64 K], .int .u64 A] W (Makes (.tuple #[.agg #[.bool false, .int .u64 M2, .int .u64 A], .bool true]) W)) (c1 : ∀ W, Tab W → Calls Tryd.prog 43 #[.agg #[.bool q, .int .u64 M, .int .u64 A]] W (Makes (.bool true) W)) (hA : ¬ 281474976710656 ≤ A) (hY : IntKind.u64.wrap (281474976710656 - A) = Y) (hN : ¬ Y < N) (hX : IntKind.u64.wrap (A + N) = X) (hD : D0 ≤ D) (hU : U ≤ U0) (w : World) (hT : Tab w) :
    Calls Tryd.prog 16 #[.agg #[.bool q, .int .u64 M, .int .u64 A], .int .u64 N, .bool false] w (Makes (.agg #[.bool true, .int .u64 M2, .int .u64 A]) w) := by
  have Cc3 := hide c3
  have Cc11 := hide c11
  have Cc12 := hide c12
  have Cc1 := hide c1
  clear c3 c11 c12 c1
  have SS := cell_same
  have LB' := ltB_add
  have LS := ltB_self
  have LA' := alloc_reads
  have LH := alloc_holds
  go_enter Tryd.func16, Tryd.ntmps16
  go_wp2_with (first | (go_at_call 42; (first | ((with_reducible refine (Cc3.out _ ?_).mono ?_); (refine hT.behind ?_; repeat (first | with_reducible assumption | with_reducible exact Below.refl _ _ | with_reducible refine Below.drew ?_ | with_reducible refine below_drewN ?_ _ | with_reducible refine bw_alloc ?_ _ | (with_reducible refine bw_set ?_ ?_ _; focus (dsimp only; omega)) | (with_reducible apply bw_behind; with_reducible assumption))))); rintro e wb ⟨rfl, hbb⟩; have hrb := below_reads hbb; have hhb := below_holds hbb; obtain ⟨mb, hsb⟩ := below_grew hbb) | (go_at_call 47; (first | ((with_reducible refine (Cc11.out _ ?_).mono ?_); (refine hT.behind ?_; repeat (first | with_reducible assumption | with_reducible exact Below.refl _ _ | with_reducible refine Below.drew ?_ | with_reducible refine below_drewN ?_ _ | with_reducible refine bw_alloc ?_ _ | (with_reducible refine bw_set ?_ ?_ _; focus (dsimp only; omega)) | (with_reducible apply bw_behind; with_reducible assumption))))); rintro e wg ⟨rfl, hbg⟩; have hrg := below_reads hbg; have hhg := below_holds hbg; obtain ⟨mg, hsg⟩ := below_grew hbg) | (go_at_call 48; (first | ((with_reducible refine (Cc12.out _ ?_).mono ?_); (refine hT.behind ?_; repeat (first | with_reducible assumption | with_reducible exact Below.refl _ _ | with_reducible refine Below.drew ?_ | with_reducible refine below_drewN ?_ _ | with_reducible refine bw_alloc ?_ _ | (with_reducible refine bw_set ?_ ?_ _; focus (dsimp only; omega)) | (with_reducible apply bw_behind; with_reducible assumption))))); rintro e wk ⟨rfl, hbk⟩; have hrk := below_reads hbk; have hhk := below_holds hbk; obtain ⟨mk, hsk⟩ := below_grew hbk) | (go_at_call 43; (first | ((with_reducible refine (Cc1.out _ ?_).mono ?_); (refine hT.behind ?_; repeat (first | with_reducible assumption | with_reducible exact Below.refl _ _ | with_reducible refine Below.drew ?_ | with_reducible refine below_drewN ?_ _ | with_reducible refine bw_alloc ?_ _ | (with_reducible refine bw_set ?_ ?_ _; focus (dsimp only; omega)) | (with_reducible apply bw_behind; with_reducible assumption))))); rintro e wa ⟨rfl, hba⟩; have hra := below_reads hba; have hha := below_holds hba; obtain ⟨ma, hsa⟩ := below_grew hba))
  refine bodyPost_ret (v := .agg #[.bool true, .int .u64 M2, .int .u64 A]) (by simp (maxDischargeDepth := 4) [results, Tryd.results16, go_sem, *]) rfl ?_
  refine ⟨rfl, ?_⟩
  repeat (first | with_reducible assumption | with_reducible exact Below.refl _ _ | with_reducible refine Below.drew ?_ | with_reducible refine below_drewN ?_ _ | with_reducible refine bw_alloc ?_ _ | (with_reducible refine bw_set ?_ ?_ _; focus (dsimp only; omega)) | (with_reducible apply bw_behind; with_reducible assumption))

set_option maxRecDepth 100000 in
set_option maxHeartbeats 4000000 in
theorem rbnd_7 (q O : Bool) (M A N D0 U0 P K Y X D U M2 : Int) (c3 : ∀ W, Tab W → Calls Tryd.prog 42 #[.agg #[.bool q, .int .u64 M, .int .u64 A]] W (Makes (.tuple #[.agg #[.int .u64 D0, .int .u64 U0, .int .u64 P, .int .u64 K], .bool O]) W)) (c11 : ∀ W, Tab W → Calls Tryd.prog 47 #[.agg #[.int .u64 A, .int .u64 X]] W (Makes (.tuple #[.agg #[.int .u64 D, .int .u64 U], .bool true]) W)) (c12 : ∀ W, Tab W → Calls Tryd.prog 48 #[.agg #[.int .u64 D, .int .u64 U, .int .u64 P, .int .u64 K], .int .u64 A] W (Makes (.tuple #[.agg #[.bool false, .int .u64 M2, .int .u64 A], .bool true]) W)) (c1 : ∀ W, Tab W → Calls Tryd.prog 43 #[.agg #[.bool q, .int .u64 M, .int .u64 A]] W (Makes (.bool true) W)) (hA : ¬ 281474976710656 ≤ A) (hY : IntKind.u64.wrap (281474976710656 - A) = Y) (hN : ¬ Y < N) (hX : IntKind.u64.wrap (A + N) = X) (hD : D0 ≤ D) (hU : U ≤ U0) (w : World) (hT : Tab w) :
    Calls Tryd.prog 16 #[.agg #[.bool q, .int .u64 M, .int .u64 A], .int .u64 N, .bool true] w (Makes (.agg #[.bool (decide (D = A ∧ U = X)), .int .u64 M2, .int .u64 A]) w) := by
  have Cc3 := hide c3
  have Cc11 := hide c11
  have Cc12 := hide c12
  have Cc1 := hide c1
  clear c3 c11 c12 c1
  have EQ := eq_rspan D U A X
  have SS := cell_same
  have LB' := ltB_add
  have LS := ltB_self
  have LA' := alloc_reads
  have LH := alloc_holds
  go_enter Tryd.func16, Tryd.ntmps16
  go_wp2_with (first | (go_at_call 42; (first | ((with_reducible refine (Cc3.out _ ?_).mono ?_); (refine hT.behind ?_; repeat (first | with_reducible assumption | with_reducible exact Below.refl _ _ | with_reducible refine Below.drew ?_ | with_reducible refine below_drewN ?_ _ | with_reducible refine bw_alloc ?_ _ | (with_reducible refine bw_set ?_ ?_ _; focus (dsimp only; omega)) | (with_reducible apply bw_behind; with_reducible assumption))))); rintro e wb ⟨rfl, hbb⟩; have hrb := below_reads hbb; have hhb := below_holds hbb; obtain ⟨mb, hsb⟩ := below_grew hbb) | (go_at_call 47; (first | ((with_reducible refine (Cc11.out _ ?_).mono ?_); (refine hT.behind ?_; repeat (first | with_reducible assumption | with_reducible exact Below.refl _ _ | with_reducible refine Below.drew ?_ | with_reducible refine below_drewN ?_ _ | with_reducible refine bw_alloc ?_ _ | (with_reducible refine bw_set ?_ ?_ _; focus (dsimp only; omega)) | (with_reducible apply bw_behind; with_reducible assumption))))); rintro e wg ⟨rfl, hbg⟩; have hrg := below_reads hbg; have hhg := below_holds hbg; obtain ⟨mg, hsg⟩ := below_grew hbg) | (go_at_call 48; (first | ((with_reducible refine (Cc12.out _ ?_).mono ?_); (refine hT.behind ?_; repeat (first | with_reducible assumption | with_reducible exact Below.refl _ _ | with_reducible refine Below.drew ?_ | with_reducible refine below_drewN ?_ _ | with_reducible refine bw_alloc ?_ _ | (with_reducible refine bw_set ?_ ?_ _; focus (dsimp only; omega)) | (with_reducible apply bw_behind; with_reducible assumption))))); rintro e wk ⟨rfl, hbk⟩; have hrk := below_reads hbk; have hhk := below_holds hbk; obtain ⟨mk, hsk⟩ := below_grew hbk) | (go_at_call 43; (first | ((with_reducible refine (Cc1.out _ ?_).mono ?_); (refine hT.behind ?_; repeat (first | with_reducible assumption | with_reducible exact Below.refl _ _ | with_reducible refine Below.drew ?_ | with_reducible refine below_drewN ?_ _ | with_reducible refine bw_alloc ?_ _ | (with_reducible refine bw_set ?_ ?_ _; focus (dsimp only; omega)) | (with_reducible apply bw_behind; with_reducible assumption))))); rintro e wa ⟨rfl, hba⟩; have hra := below_reads hba; have hha := below_holds hba; obtain ⟨ma, hsa⟩ := below_grew hba))
  refine bodyPost_ret (v := .agg #[.bool (decide (D = A ∧ U = X)), .int .u64 M2, .int .u64 A]) (by simp (maxDischargeDepth := 4) [results, Tryd.results16, go_sem, *]) rfl ?_
  refine ⟨rfl, ?_⟩
  repeat (first | with_reducible assumption | with_reducible exact Below.refl _ _ | with_reducible refine Below.drew ?_ | with_reducible refine below_drewN ?_ _ | with_reducible refine bw_alloc ?_ _ | (with_reducible refine bw_set ?_ ?_ _; focus (dsimp only; omega)) | (with_reducible apply bw_behind; with_reducible assumption))

set_option maxHeartbeats 4000000 in
theorem rand_let (q L : Bool) (M A P D X Y M2 : Int) (c1 : ∀ W, Tab W → Calls Tryd.prog 43 #[.agg #[.bool q, .int .u64 M, .int .u64 A]] W (Makes (.bool L) W)) (c2 : ∀ W, Tab W → Calls Tryd.prog 50 #[.agg #[.bool q, .int .u64 M, .int .u64 A]] W (Makes (.int .u64 P) W)) (hX : bits .andNot .u64 P D = X) (hY : IntKind.u64.wrap (X * 4294967296) = Y) (hM : IntKind.u64.wrap (M - Y) = M2) (w : World) (hT : Tab w) :
    Calls Tryd.prog 18 #[.agg #[.bool q, .int .u64 M, .int .u64 A], .int .u64 D] w (Makes (.agg #[.bool L, .int .u64 M2, .int .u64 A]) w) := by
  have Cc1 := hide c1
  have Cc2 := hide c2
  clear c1 c2
  have SS := cell_same
  have LB' := ltB_add
  have LS := ltB_self
  have LA' := alloc_reads
  have LH := alloc_holds
  go_enter Tryd.func18, Tryd.ntmps18
  go_upto_region 2 with (first | (go_at_call 50; (first | ((with_reducible refine (Cc2.out _ ?_).mono ?_); (refine hT.behind ?_; repeat (first | with_reducible assumption | with_reducible exact Below.refl _ _ | with_reducible refine Below.drew ?_ | with_reducible refine below_drewN ?_ _ | with_reducible refine bw_alloc ?_ _ | (with_reducible refine bw_set ?_ ?_ _; focus (dsimp only; omega)) | (with_reducible apply bw_behind; with_reducible assumption))))); rintro e wb ⟨rfl, hbb⟩; have hrb := below_reads hbb; have hhb := below_holds hbb; obtain ⟨mb, hsb⟩ := below_grew hbb))
  go_cut [] (fun wx => wx.cell? ⟨w.heap.size + 1, 0, none⟩ = some (.bool L) ∧ wx.cell? ⟨w.heap.size + 1, 1, none⟩ = some (.int .u64 M2) ∧ wx.cell? ⟨w.heap.size + 1, 2, none⟩ = some (.int .u64 A) ∧ Below w.heap.size w wx)
  case first =>
    go_region_held3 (fun w' => w'.cell? ⟨w.heap.size, 0, none⟩ = some (.bool q) ∧ w'.cell? ⟨w.heap.size, 1, none⟩ = some (.int .u64 M) ∧ w'.cell? ⟨w.heap.size, 2, none⟩ = some (.int .u64 A) ∧ Own w' (w.heap.size + 1) 3 ∧ Tab w' ∧ Below w.heap.size w w') (first | with_reducible assumption | (refine ⟨?_, ?_, ?_, ?_, ?_, ?_⟩ <;> first | ((repeat (first | with_reducible assumption | with_reducible refine c_dr _ ?_ | with_reducible refine c_d1 ?_ | with_reducible refine c_al _ ?_ | (with_reducible refine c_set ?_ ?_; focus (dsimp only; omega)) | (with_reducible apply c_be; with_reducible assumption))); done) | ((repeat (first | with_reducible assumption | with_reducible exact Below.refl _ _ | with_reducible refine Below.drew ?_ | with_reducible refine below_drewN ?_ _ | with_reducible refine bw_alloc ?_ _ | (with_reducible refine bw_set ?_ ?_ _; focus (dsimp only; omega)) | (with_reducible apply bw_behind; with_reducible assumption))); done) | ((repeat (first | with_reducible assumption | with_reducible refine o_dr _ ?_ | with_reducible refine o_d1 ?_ | with_reducible refine o_set ?_ | (with_reducible refine o_new ?_ ?_; (focus (simp)); (focus (simp))) | with_reducible refine o_al _ ?_ | (with_reducible apply o_be; with_reducible assumption))); done) | (refine hT.behind ?_; (repeat (first | with_reducible assumption | with_reducible exact Below.refl _ _ | with_reducible refine Below.drew ?_ | with_reducible refine below_drewN ?_ _ | with_reducible refine bw_alloc ?_ _ | (with_reducible refine bw_set ?_ ?_ _; focus (dsimp only; omega)) | (with_reducible apply bw_behind; with_reducible assumption))); done) | (simp [go_sem, *]; done))) (first | (go_at_call 43; (first | ((with_reducible refine (Cc1.out _ ?_).mono ?_); (refine hT.behind ?_; repeat (first | with_reducible assumption | with_reducible exact Below.refl _ _ | with_reducible refine Below.drew ?_ | with_reducible refine below_drewN ?_ _ | with_reducible refine bw_alloc ?_ _ | (with_reducible refine bw_set ?_ ?_ _; focus (dsimp only; omega)) | (with_reducible apply bw_behind; with_reducible assumption))))); rintro e wa ⟨rfl, hba⟩; have hra := below_reads hba; have hha := below_holds hba; obtain ⟨ma, hsa⟩ := below_grew hba))
    all_goals
      go_wp2_with fail
      go_meet
      refine ⟨?_, ?_, ?_, ?_⟩
    all_goals (first | with_reducible assumption | ((repeat (first | with_reducible assumption | with_reducible refine c_dr _ ?_ | with_reducible refine c_d1 ?_ | with_reducible refine c_al _ ?_ | (with_reducible refine c_set ?_ ?_; focus (dsimp only; omega)) | (with_reducible apply c_be; with_reducible assumption))); done) | ((repeat (first | with_reducible assumption | with_reducible refine o_dr _ ?_ | with_reducible refine o_d1 ?_ | with_reducible refine o_set ?_ | (with_reducible refine o_new ?_ ?_; (focus (simp)); (focus (simp))) | with_reducible refine o_al _ ?_ | (with_reducible apply o_be; with_reducible assumption))); done) | ((repeat (first | with_reducible assumption | with_reducible exact Below.refl _ _ | with_reducible refine Below.drew ?_ | with_reducible refine below_drewN ?_ _ | with_reducible refine bw_alloc ?_ _ | (with_reducible refine bw_set ?_ ?_ _; focus (dsimp only; omega)) | (with_reducible apply bw_behind; with_reducible assumption))); done) | (refine hT.behind ?_; (repeat (first | with_reducible assumption | with_reducible exact Below.refl _ _ | with_reducible refine Below.drew ?_ | with_reducible refine below_drewN ?_ _ | with_reducible refine bw_alloc ?_ _ | (with_reducible refine bw_set ?_ ?_ _; focus (dsimp only; omega)) | (with_reducible apply bw_behind; with_reducible assumption))); done) | (simp [go_sem, *]; omega) | (simp (maxDischargeDepth := 4) [go_sem, *]; done))
  case rest =>
    obtain ⟨g0, g1, g2, hB⟩ := hcut
    go_wp2
    refine bodyPost_ret (v := .agg #[.bool L, .int .u64 M2, .int .u64 A]) (by simp (maxDischargeDepth := 4) [results, Tryd.results18, go_sem, *]) rfl ?_
    refine ⟨rfl, ?_⟩
    repeat (first | with_reducible assumption | with_reducible exact Below.refl _ _ | with_reducible refine Below.drew ?_ | with_reducible refine below_drewN ?_ _ | with_reducible refine bw_alloc ?_ _ | (with_reducible refine bw_set ?_ ?_ _; focus (dsimp only; omega)) | (with_reducible apply bw_behind; with_reducible assumption))

set_option maxRecDepth 100000 in
set_option maxHeartbeats 4000000 in
theorem rtyped_let (q : Bool) (M A K T Y1 Y2 Y3 M2 : Int) (c2 : ∀ W, Tab W → Calls Tryd.prog 62 #[.agg #[.bool q, .int .u64 M, .int .u64 A]] W (Makes (.int .u64 K) W)) (h1 : IntKind.u64.wrap (K * 281474976710656) = Y1) (h2 : IntKind.u64.wrap (M - Y1) = Y2) (h3 : IntKind.u64.wrap (T * 281474976710656) = Y3) (h4 : IntKind.u64.wrap (Y2 + Y3) = M2) (w : World) (hT : Tab w) :
    Calls Tryd.prog 57 #[.agg #[.bool q, .int .u64 M, .int .u64 A], .int .u64 T] w (Makes (.agg #[.bool true, .int .u64 M2, .int .u64 A]) w) := by
  have Cc2 := hide c2
  clear c2
  have SS := cell_same
  have LB' := ltB_add
  have LS := ltB_self
  have LA' := alloc_reads
  have LH := alloc_holds
  go_enter Tryd.func57, Tryd.ntmps57
  go_upto_region 1 with fail
  go_cut [] (fun wx => wx.cell? ⟨w.heap.size + 1, 0, none⟩ = some (.bool true) ∧ wx.cell? ⟨w.heap.size + 1, 1, none⟩ = some (.int .u64 M2) ∧ wx.cell? ⟨w.heap.size + 1, 2, none⟩ = some (.int .u64 A) ∧ Below w.heap.size w wx)
  case first =>
    go_region_held3 (fun w' => w'.cell? ⟨w.heap.size, 0, none⟩ = some (.bool q) ∧ w'.cell? ⟨w.heap.size, 1, none⟩ = some (.int .u64 M) ∧ w'.cell? ⟨w.heap.size, 2, none⟩ = some (.int .u64 A) ∧ Own w' (w.heap.size + 1) 3 ∧ Tab w' ∧ Below w.heap.size w w') (first | with_reducible assumption | (refine ⟨?_, ?_, ?_, ?_, ?_, ?_⟩ <;> first | ((repeat (first | with_reducible assumption | with_reducible refine c_dr _ ?_ | with_reducible refine c_d1 ?_ | with_reducible refine c_al _ ?_ | (with_reducible refine c_set ?_ ?_; focus (dsimp only; omega)) | (with_reducible apply c_be; with_reducible assumption))); done) | ((repeat (first | with_reducible assumption | with_reducible exact Below.refl _ _ | with_reducible refine Below.drew ?_ | with_reducible refine below_drewN ?_ _ | with_reducible refine bw_alloc ?_ _ | (with_reducible refine bw_set ?_ ?_ _; focus (dsimp only; omega)) | (with_reducible apply bw_behind; with_reducible assumption))); done) | ((repeat (first | with_reducible assumption | with_reducible refine o_dr _ ?_ | with_reducible refine o_d1 ?_ | with_reducible refine o_set ?_ | (with_reducible refine o_new ?_ ?_; (focus (simp)); (focus (simp))) | with_reducible refine o_al _ ?_ | (with_reducible apply o_be; with_reducible assumption))); done) | (refine hT.behind ?_; (repeat (first | with_reducible assumption | with_reducible exact Below.refl _ _ | with_reducible refine Below.drew ?_ | with_reducible refine below_drewN ?_ _ | with_reducible refine bw_alloc ?_ _ | (with_reducible refine bw_set ?_ ?_ _; focus (dsimp only; omega)) | (with_reducible apply bw_behind; with_reducible assumption))); done) | (simp [go_sem, *]; done))) (first | (go_at_call 62; (first | ((with_reducible refine (Cc2.out _ ?_).mono ?_); (refine hT.behind ?_; repeat (first | with_reducible assumption | with_reducible exact Below.refl _ _ | with_reducible refine Below.drew ?_ | with_reducible refine below_drewN ?_ _ | with_reducible refine bw_alloc ?_ _ | (with_reducible refine bw_set ?_ ?_ _; focus (dsimp only; omega)) | (with_reducible apply bw_behind; with_reducible assumption))))); rintro e wb ⟨rfl, hbb⟩; have hrb := below_reads hbb; have hhb := below_holds hbb; obtain ⟨mb, hsb⟩ := below_grew hbb))
    all_goals
      go_wp2_with fail
      go_meet
      refine ⟨?_, ?_, ?_, ?_⟩
    all_goals (first | with_reducible assumption | ((repeat (first | with_reducible assumption | with_reducible refine c_dr _ ?_ | with_reducible refine c_d1 ?_ | with_reducible refine c_al _ ?_ | (with_reducible refine c_set ?_ ?_; focus (dsimp only; omega)) | (with_reducible apply c_be; with_reducible assumption))); done) | ((repeat (first | with_reducible assumption | with_reducible refine o_dr _ ?_ | with_reducible refine o_d1 ?_ | with_reducible refine o_set ?_ | (with_reducible refine o_new ?_ ?_; (focus (simp)); (focus (simp))) | with_reducible refine o_al _ ?_ | (with_reducible apply o_be; with_reducible assumption))); done) | ((repeat (first | with_reducible assumption | with_reducible exact Below.refl _ _ | with_reducible refine Below.drew ?_ | with_reducible refine below_drewN ?_ _ | with_reducible refine bw_alloc ?_ _ | (with_reducible refine bw_set ?_ ?_ _; focus (dsimp only; omega)) | (with_reducible apply bw_behind; with_reducible assumption))); done) | (refine hT.behind ?_; (repeat (first | with_reducible assumption | with_reducible exact Below.refl _ _ | with_reducible refine Below.drew ?_ | with_reducible refine below_drewN ?_ _ | with_reducible refine bw_alloc ?_ _ | (with_reducible refine bw_set ?_ ?_ _; focus (dsimp only; omega)) | (with_reducible apply bw_behind; with_reducible assumption))); done) | (simp [go_sem, *]; omega) | (simp (maxDischargeDepth := 4) [go_sem, *]; done))
  case rest =>
    obtain ⟨g0, g1, g2, hB⟩ := hcut
    go_wp2
    refine bodyPost_ret (v := .agg #[.bool true, .int .u64 M2, .int .u64 A]) (by simp (maxDischargeDepth := 4) [results, Tryd.results57, go_sem, *]) rfl ?_
    refine ⟨rfl, ?_⟩
    repeat (first | with_reducible assumption | with_reducible exact Below.refl _ _ | with_reducible refine Below.drew ?_ | with_reducible refine below_drewN ?_ _ | with_reducible refine bw_alloc ?_ _ | (with_reducible refine bw_set ?_ ?_ _; focus (dsimp only; omega)) | (with_reducible apply bw_behind; with_reducible assumption))

set_option maxRecDepth 100000 in
set_option maxHeartbeats 4000000 in
theorem runseal_1 (q r : Bool) (M A N B : Int) (c1 : ∀ W, Tab W → Calls Tryd.prog 61 #[.agg #[.bool q, .int .u64 M, .int .u64 A]] W (Makes (.bool false) W)) (c5 : ∀ W, Tab W → Calls Tryd.prog 11 #[.agg #[.bool q, .int .u64 M, .int .u64 A]] W (Makes (.agg #[.bool false, .int .u64 M, .int .u64 A]) W)) (w : World) (hT : Tab w) :
    Calls Tryd.prog 23 #[.agg #[.bool q, .int .u64 M, .int .u64 A], .agg #[.bool r, .int .u64 N, .int .u64 B]] w (Makes (.agg #[.bool false, .int .u64 M, .int .u64 A]) w) := by
  have Cc1 := hide c1
  have Cc5 := hide c5
  clear c1 c5
  have SS := cell_same
  have LB' := ltB_add
  have LS := ltB_self
  have LA' := alloc_reads
  have LH := alloc_holds
  go_enter Tryd.func23, Tryd.ntmps23
  go_upto_region 1 with fail
  refine wp_abs (fun W => Tab W ∧ Below w.heap.size w W ∧ W.cell? ⟨w.heap.size, 0, none⟩ = some (.bool q) ∧ W.cell? ⟨w.heap.size, 1, none⟩ = some (.int .u64 M) ∧ W.cell? ⟨w.heap.size, 2, none⟩ = some (.int .u64 A) ∧ W.cell? ⟨w.heap.size + 1, 0, none⟩ = some (.bool r) ∧ W.cell? ⟨w.heap.size + 1, 1, none⟩ = some (.int .u64 N) ∧ W.cell? ⟨w.heap.size + 1, 2, none⟩ = some (.int .u64 B) ∧ Own W (w.heap.size + 1 + 1) 3) ?_ ?_
  · refine ⟨?_, ?_, ?_, ?_, ?_, ?_, ?_, ?_, ?_⟩
    all_goals (first | with_reducible assumption | ((repeat (first | with_reducible assumption | with_reducible refine c_dr _ ?_ | with_reducible refine c_d1 ?_ | with_reducible refine c_al _ ?_ | (with_reducible refine c_set ?_ ?_; focus (dsimp only; omega)) | (with_reducible apply c_be; with_reducible assumption))); done) | ((repeat (first | with_reducible assumption | with_reducible refine o_dr _ ?_ | with_reducible refine o_d1 ?_ | with_reducible refine o_set ?_ | (with_reducible refine o_new ?_ ?_; (focus (simp)); (focus (simp))) | with_reducible refine o_al _ ?_ | (with_reducible apply o_be; with_reducible assumption))); done) | ((repeat (first | with_reducible assumption | with_reducible exact Below.refl _ _ | with_reducible refine Below.drew ?_ | with_reducible refine below_drewN ?_ _ | with_reducible refine bw_alloc ?_ _ | (with_reducible refine bw_set ?_ ?_ _; focus (dsimp only; omega)) | (with_reducible apply bw_behind; with_reducible assumption))); done) | (refine hT.behind ?_; (repeat (first | with_reducible assumption | with_reducible exact Below.refl _ _ | with_reducible refine Below.drew ?_ | with_reducible refine below_drewN ?_ _ | with_reducible refine bw_alloc ?_ _ | (with_reducible refine bw_set ?_ ?_ _; focus (dsimp only; omega)) | (with_reducible apply bw_behind; with_reducible assumption))); done) | (simp [go_sem, *]; omega) | (simp (maxDischargeDepth := 4) [go_sem, *]; done))
  rintro w0 ⟨hT0, hB0, c0, c1, c2, c3, c4, c5, o0⟩
  have y0 := behind_cell0 c0
  have y1 := behind_cell0 c1
  have y2 := behind_cell0 c2
  have y3 := behind_cell0 c3
  have y4 := behind_cell0 c4
  have y5 := behind_cell0 c5
  have hsome := Behind.any w0
  clear c0 c1 c2 c3 c4 c5
  refine wp_region_behind w0 (by kernel_rfl) (by kernel_rfl) (Below.refl _ _) ?_
  repeat (go_big_quiet_step (first | (go_at_call 61; with_reducible first | exact behind_call Cc1.out hT0 _)))
  refine wpQuiet_nil ?_
  rintro _ ⟨y, rfl⟩
  have po0 := o_be y.below o0
  clear o0
  have hTy := hT0.behind y.below
  have hBy := bw_behind y.below hB0
  have x0 := y0 y
  have x1 := y1 y
  have x2 := y2 y
  have x3 := y3 y
  have x4 := y4 y
  have x5 := y5 y
  clear hsome y0 y1 y2 y3 y4 y5
  obtain ⟨w1, hw1⟩ : ∃ W, W = y.world := ⟨_, rfl⟩
  rw [← hw1] at hTy hBy x0 x1 x2 x3 x4 x5 po0 ⊢
  clear hw1 y hT0 hB0
  obtain ⟨v0, ev0⟩ := po0.val 0 (by omega)
  have fv0 := po0.free 0 (by omega)
  obtain ⟨v1, ev1⟩ := po0.val 1 (by omega)
  have fv1 := po0.free 1 (by omega)
  obtain ⟨v2, ev2⟩ := po0.val 2 (by omega)
  have fv2 := po0.free 2 (by omega)
  have hlt := World.block_lt_of_cell? w1 _ ev0
  obtain ⟨k1, hk1⟩ : ∃ k, w1.heap.size = w.heap.size + 1 + 1 + 1 + k := ⟨w1.heap.size - (w.heap.size + 1 + 1 + 1), by dsimp only at hlt; omega⟩
  clear hlt
  go_wp2_with (first | (go_at_call 11; (first | ((with_reducible refine (Cc5.out _ ?_).mono ?_); (refine hTy.behind ?_; repeat (first | with_reducible assumption | with_reducible exact Below.refl _ _ | with_reducible refine Below.drew ?_ | with_reducible refine below_drewN ?_ _ | with_reducible refine bw_alloc ?_ _ | (with_reducible refine bw_set ?_ ?_ _; focus (dsimp only; omega)) | (with_reducible apply bw_behind; with_reducible assumption))))); rintro e wy ⟨rfl, hby⟩; have hry := below_reads hby; have hhy := below_holds hby; obtain ⟨my, hsy⟩ := below_grew hby))
  refine bodyPost_ret (v := .agg #[.bool false, .int .u64 M, .int .u64 A]) (by simp (maxDischargeDepth := 4) [results, Tryd.results23, go_sem, *]) rfl ?_
  refine ⟨rfl, ?_⟩
  repeat (first | with_reducible assumption | with_reducible exact Below.refl _ _ | with_reducible refine Below.drew ?_ | with_reducible refine below_drewN ?_ _ | with_reducible refine bw_alloc ?_ _ | (with_reducible refine bw_set ?_ ?_ _; focus (dsimp only; omega)) | (with_reducible apply bw_behind; with_reducible assumption))

set_option maxRecDepth 100000 in
set_option maxHeartbeats 4000000 in
theorem runseal_2 (q r : Bool) (M A N B K : Int) (c1 : ∀ W, Tab W → Calls Tryd.prog 61 #[.agg #[.bool q, .int .u64 M, .int .u64 A]] W (Makes (.bool true) W)) (c2 : ∀ W, Tab W → Calls Tryd.prog 62 #[.agg #[.bool q, .int .u64 M, .int .u64 A]] W (Makes (.int .u64 K) W)) (c5 : ∀ W, Tab W → Calls Tryd.prog 11 #[.agg #[.bool q, .int .u64 M, .int .u64 A]] W (Makes (.agg #[.bool false, .int .u64 M, .int .u64 A]) W)) (hK : K < 16) (w : World) (hT : Tab w) :
    Calls Tryd.prog 23 #[.agg #[.bool q, .int .u64 M, .int .u64 A], .agg #[.bool r, .int .u64 N, .int .u64 B]] w (Makes (.agg #[.bool false, .int .u64 M, .int .u64 A]) w) := by
  have Cc1 := hide c1
  have Cc2 := hide c2
  have Cc5 := hide c5
  clear c1 c2 c5
  have SS := cell_same
  have LB' := ltB_add
  have LS := ltB_self
  have LA' := alloc_reads
  have LH := alloc_holds
  go_enter Tryd.func23, Tryd.ntmps23
  go_upto_region 1 with fail
  refine wp_abs (fun W => Tab W ∧ Below w.heap.size w W ∧ W.cell? ⟨w.heap.size, 0, none⟩ = some (.bool q) ∧ W.cell? ⟨w.heap.size, 1, none⟩ = some (.int .u64 M) ∧ W.cell? ⟨w.heap.size, 2, none⟩ = some (.int .u64 A) ∧ W.cell? ⟨w.heap.size + 1, 0, none⟩ = some (.bool r) ∧ W.cell? ⟨w.heap.size + 1, 1, none⟩ = some (.int .u64 N) ∧ W.cell? ⟨w.heap.size + 1, 2, none⟩ = some (.int .u64 B) ∧ Own W (w.heap.size + 1 + 1) 3) ?_ ?_
  · refine ⟨?_, ?_, ?_, ?_, ?_, ?_, ?_, ?_, ?_⟩
    all_goals (first | with_reducible assumption | ((repeat (first | with_reducible assumption | with_reducible refine c_dr _ ?_ | with_reducible refine c_d1 ?_ | with_reducible refine c_al _ ?_ | (with_reducible refine c_set ?_ ?_; focus (dsimp only; omega)) | (with_reducible apply c_be; with_reducible assumption))); done) | ((repeat (first | with_reducible assumption | with_reducible refine o_dr _ ?_ | with_reducible refine o_d1 ?_ | with_reducible refine o_set ?_ | (with_reducible refine o_new ?_ ?_; (focus (simp)); (focus (simp))) | with_reducible refine o_al _ ?_ | (with_reducible apply o_be; with_reducible assumption))); done) | ((repeat (first | with_reducible assumption | with_reducible exact Below.refl _ _ | with_reducible refine Below.drew ?_ | with_reducible refine below_drewN ?_ _ | with_reducible refine bw_alloc ?_ _ | (with_reducible refine bw_set ?_ ?_ _; focus (dsimp only; omega)) | (with_reducible apply bw_behind; with_reducible assumption))); done) | (refine hT.behind ?_; (repeat (first | with_reducible assumption | with_reducible exact Below.refl _ _ | with_reducible refine Below.drew ?_ | with_reducible refine below_drewN ?_ _ | with_reducible refine bw_alloc ?_ _ | (with_reducible refine bw_set ?_ ?_ _; focus (dsimp only; omega)) | (with_reducible apply bw_behind; with_reducible assumption))); done) | (simp [go_sem, *]; omega) | (simp (maxDischargeDepth := 4) [go_sem, *]; done))
  rintro w0 ⟨hT0, hB0, c0, c1, c2, c3, c4, c5, o0⟩
  have y0 := behind_cell0 c0
  have y1 := behind_cell0 c1
  have y2 := behind_cell0 c2
  have y3 := behind_cell0 c3
  have y4 := behind_cell0 c4
  have y5 := behind_cell0 c5
  have hsome := Behind.any w0
  clear c0 c1 c2 c3 c4 c5
  refine wp_region_behind w0 (by kernel_rfl) (by kernel_rfl) (Below.refl _ _) ?_
  repeat (go_big_quiet_step (first | (go_at_call 61; with_reducible first | exact behind_call Cc1.out hT0 _) | (go_at_call 62; with_reducible first | exact behind_call Cc2.out hT0 _)))
  refine wpQuiet_nil ?_
  rintro _ ⟨y, rfl⟩
  have po0 := o_be y.below o0
  clear o0
  have hTy := hT0.behind y.below
  have hBy := bw_behind y.below hB0
  have x0 := y0 y
  have x1 := y1 y
  have x2 := y2 y
  have x3 := y3 y
  have x4 := y4 y
  have x5 := y5 y
  clear hsome y0 y1 y2 y3 y4 y5
  obtain ⟨w1, hw1⟩ : ∃ W, W = y.world := ⟨_, rfl⟩
  rw [← hw1] at hTy hBy x0 x1 x2 x3 x4 x5 po0 ⊢
  clear hw1 y hT0 hB0
  obtain ⟨v0, ev0⟩ := po0.val 0 (by omega)
  have fv0 := po0.free 0 (by omega)
  obtain ⟨v1, ev1⟩ := po0.val 1 (by omega)
  have fv1 := po0.free 1 (by omega)
  obtain ⟨v2, ev2⟩ := po0.val 2 (by omega)
  have fv2 := po0.free 2 (by omega)
  have hlt := World.block_lt_of_cell? w1 _ ev0
  obtain ⟨k1, hk1⟩ : ∃ k, w1.heap.size = w.heap.size + 1 + 1 + 1 + k := ⟨w1.heap.size - (w.heap.size + 1 + 1 + 1), by dsimp only at hlt; omega⟩
  clear hlt
  go_wp2_with (first | (go_at_call 11; (first | ((with_reducible refine (Cc5.out _ ?_).mono ?_); (refine hTy.behind ?_; repeat (first | with_reducible assumption | with_reducible exact Below.refl _ _ | with_reducible refine Below.drew ?_ | with_reducible refine below_drewN ?_ _ | with_reducible refine bw_alloc ?_ _ | (with_reducible refine bw_set ?_ ?_ _; focus (dsimp only; omega)) | (with_reducible apply bw_behind; with_reducible assumption))))); rintro e wy ⟨rfl, hby⟩; have hry := below_reads hby; have hhy := below_holds hby; obtain ⟨my, hsy⟩ := below_grew hby))
  refine bodyPost_ret (v := .agg #[.bool false, .int .u64 M, .int .u64 A]) (by simp (maxDischargeDepth := 4) [results, Tryd.results23, go_sem, *]) rfl ?_
  refine ⟨rfl, ?_⟩
  repeat (first | with_reducible assumption | with_reducible exact Below.refl _ _ | with_reducible refine Below.drew ?_ | with_reducible refine below_drewN ?_ _ | with_reducible refine bw_alloc ?_ _ | (with_reducible refine bw_set ?_ ?_ _; focus (dsimp only; omega)) | (with_reducible apply bw_behind; with_reducible assumption))

set_option maxRecDepth 100000 in
set_option maxHeartbeats 4000000 in
theorem runseal_3 (q r : Bool) (M A N B K : Int) (c1 : ∀ W, Tab W → Calls Tryd.prog 61 #[.agg #[.bool q, .int .u64 M, .int .u64 A]] W (Makes (.bool true) W)) (c2 : ∀ W, Tab W → Calls Tryd.prog 62 #[.agg #[.bool q, .int .u64 M, .int .u64 A]] W (Makes (.int .u64 K) W)) (c6 : ∀ W, Tab W → Calls Tryd.prog 56 #[.agg #[.bool r, .int .u64 N, .int .u64 B], .int .u64 64] W (Makes (.bool false) W)) (c5 : ∀ W, Tab W → Calls Tryd.prog 11 #[.agg #[.bool q, .int .u64 M, .int .u64 A]] W (Makes (.agg #[.bool false, .int .u64 M, .int .u64 A]) W)) (hK : ¬ K < 16) (w : World) (hT : Tab w) :
    Calls Tryd.prog 23 #[.agg #[.bool q, .int .u64 M, .int .u64 A], .agg #[.bool r, .int .u64 N, .int .u64 B]] w (Makes (.agg #[.bool false, .int .u64 M, .int .u64 A]) w) := by
  have Cc1 := hide c1
  have Cc2 := hide c2
  have Cc6 := hide c6
  have Cc5 := hide c5
  clear c1 c2 c6 c5
  have SS := cell_same
  have LB' := ltB_add
  have LS := ltB_self
  have LA' := alloc_reads
  have LH := alloc_holds
  go_enter Tryd.func23, Tryd.ntmps23
  go_upto_region 1 with fail
  refine wp_abs (fun W => Tab W ∧ Below w.heap.size w W ∧ W.cell? ⟨w.heap.size, 0, none⟩ = some (.bool q) ∧ W.cell? ⟨w.heap.size, 1, none⟩ = some (.int .u64 M) ∧ W.cell? ⟨w.heap.size, 2, none⟩ = some (.int .u64 A) ∧ W.cell? ⟨w.heap.size + 1, 0, none⟩ = some (.bool r) ∧ W.cell? ⟨w.heap.size + 1, 1, none⟩ = some (.int .u64 N) ∧ W.cell? ⟨w.heap.size + 1, 2, none⟩ = some (.int .u64 B) ∧ Own W (w.heap.size + 1 + 1) 3) ?_ ?_
  · refine ⟨?_, ?_, ?_, ?_, ?_, ?_, ?_, ?_, ?_⟩
    all_goals (first | with_reducible assumption | ((repeat (first | with_reducible assumption | with_reducible refine c_dr _ ?_ | with_reducible refine c_d1 ?_ | with_reducible refine c_al _ ?_ | (with_reducible refine c_set ?_ ?_; focus (dsimp only; omega)) | (with_reducible apply c_be; with_reducible assumption))); done) | ((repeat (first | with_reducible assumption | with_reducible refine o_dr _ ?_ | with_reducible refine o_d1 ?_ | with_reducible refine o_set ?_ | (with_reducible refine o_new ?_ ?_; (focus (simp)); (focus (simp))) | with_reducible refine o_al _ ?_ | (with_reducible apply o_be; with_reducible assumption))); done) | ((repeat (first | with_reducible assumption | with_reducible exact Below.refl _ _ | with_reducible refine Below.drew ?_ | with_reducible refine below_drewN ?_ _ | with_reducible refine bw_alloc ?_ _ | (with_reducible refine bw_set ?_ ?_ _; focus (dsimp only; omega)) | (with_reducible apply bw_behind; with_reducible assumption))); done) | (refine hT.behind ?_; (repeat (first | with_reducible assumption | with_reducible exact Below.refl _ _ | with_reducible refine Below.drew ?_ | with_reducible refine below_drewN ?_ _ | with_reducible refine bw_alloc ?_ _ | (with_reducible refine bw_set ?_ ?_ _; focus (dsimp only; omega)) | (with_reducible apply bw_behind; with_reducible assumption))); done) | (simp [go_sem, *]; omega) | (simp (maxDischargeDepth := 4) [go_sem, *]; done))
  rintro w0 ⟨hT0, hB0, c0, c1, c2, c3, c4, c5, o0⟩
  have y0 := behind_cell0 c0
  have y1 := behind_cell0 c1
  have y2 := behind_cell0 c2
  have y3 := behind_cell0 c3
  have y4 := behind_cell0 c4
  have y5 := behind_cell0 c5
  have hsome := Behind.any w0
  clear c0 c1 c2 c3 c4 c5
  refine wp_region_behind w0 (by kernel_rfl) (by kernel_rfl) (Below.refl _ _) ?_
  repeat (go_big_quiet_step (first | (go_at_call 61; with_reducible first | exact behind_call Cc1.out hT0 _) | (go_at_call 62; with_reducible first | exact behind_call Cc2.out hT0 _) | (go_at_call 56; with_reducible first | exact behind_call Cc6.out hT0 _)))
  refine wpQuiet_nil ?_
  rintro _ ⟨y, rfl⟩
  have po0 := o_be y.below o0
  clear o0
  have hTy := hT0.behind y.below
  have hBy := bw_behind y.below hB0
  have x0 := y0 y
  have x1 := y1 y
  have x2 := y2 y
  have x3 := y3 y
  have x4 := y4 y
  have x5 := y5 y
  clear hsome y0 y1 y2 y3 y4 y5
  obtain ⟨w1, hw1⟩ : ∃ W, W = y.world := ⟨_, rfl⟩
  rw [← hw1] at hTy hBy x0 x1 x2 x3 x4 x5 po0 ⊢
  clear hw1 y hT0 hB0
  obtain ⟨v0, ev0⟩ := po0.val 0 (by omega)
  have fv0 := po0.free 0 (by omega)
  obtain ⟨v1, ev1⟩ := po0.val 1 (by omega)
  have fv1 := po0.free 1 (by omega)
  obtain ⟨v2, ev2⟩ := po0.val 2 (by omega)
  have fv2 := po0.free 2 (by omega)
  have hlt := World.block_lt_of_cell? w1 _ ev0
  obtain ⟨k1, hk1⟩ : ∃ k, w1.heap.size = w.heap.size + 1 + 1 + 1 + k := ⟨w1.heap.size - (w.heap.size + 1 + 1 + 1), by dsimp only at hlt; omega⟩
  clear hlt
  go_wp2_with (first | (go_at_call 11; (first | ((with_reducible refine (Cc5.out _ ?_).mono ?_); (refine hTy.behind ?_; repeat (first | with_reducible assumption | with_reducible exact Below.refl _ _ | with_reducible refine Below.drew ?_ | with_reducible refine below_drewN ?_ _ | with_reducible refine bw_alloc ?_ _ | (with_reducible refine bw_set ?_ ?_ _; focus (dsimp only; omega)) | (with_reducible apply bw_behind; with_reducible assumption))))); rintro e wy ⟨rfl, hby⟩; have hry := below_reads hby; have hhy := below_holds hby; obtain ⟨my, hsy⟩ := below_grew hby))
  refine bodyPost_ret (v := .agg #[.bool false, .int .u64 M, .int .u64 A]) (by simp (maxDischargeDepth := 4) [results, Tryd.results23, go_sem, *]) rfl ?_
  refine ⟨rfl, ?_⟩
  repeat (first | with_reducible assumption | with_reducible exact Below.refl _ _ | with_reducible refine Below.drew ?_ | with_reducible refine below_drewN ?_ _ | with_reducible refine bw_alloc ?_ _ | (with_reducible refine bw_set ?_ ?_ _; focus (dsimp only; omega)) | (with_reducible apply bw_behind; with_reducible assumption))

set_option maxRecDepth 100000 in
set_option maxHeartbeats 4000000 in
theorem runseal_4 (q r : Bool) (M A N B K : Int) (c1 : ∀ W, Tab W → Calls Tryd.prog 61 #[.agg #[.bool q, .int .u64 M, .int .u64 A]] W (Makes (.bool true) W)) (c2 : ∀ W, Tab W → Calls Tryd.prog 62 #[.agg #[.bool q, .int .u64 M, .int .u64 A]] W (Makes (.int .u64 K) W)) (c6 : ∀ W, Tab W → Calls Tryd.prog 56 #[.agg #[.bool r, .int .u64 N, .int .u64 B], .int .u64 64] W (Makes (.bool true) W)) (c5 : ∀ W, Tab W → Calls Tryd.prog 11 #[.agg #[.bool q, .int .u64 M, .int .u64 A]] W (Makes (.agg #[.bool false, .int .u64 M, .int .u64 A]) W)) (hK : ¬ K < 16) (hE : (B == K) = false) (w : World) (hT : Tab w) :
    Calls Tryd.prog 23 #[.agg #[.bool q, .int .u64 M, .int .u64 A], .agg #[.bool r, .int .u64 N, .int .u64 B]] w (Makes (.agg #[.bool false, .int .u64 M, .int .u64 A]) w) := by
  have Cc1 := hide c1
  have Cc2 := hide c2
  have Cc6 := hide c6
  have Cc5 := hide c5
  clear c1 c2 c6 c5
  have SS := cell_same
  have LB' := ltB_add
  have LS := ltB_self
  have LA' := alloc_reads
  have LH := alloc_holds
  go_enter Tryd.func23, Tryd.ntmps23
  go_upto_region 1 with fail
  refine wp_abs (fun W => Tab W ∧ Below w.heap.size w W ∧ W.cell? ⟨w.heap.size, 0, none⟩ = some (.bool q) ∧ W.cell? ⟨w.heap.size, 1, none⟩ = some (.int .u64 M) ∧ W.cell? ⟨w.heap.size, 2, none⟩ = some (.int .u64 A) ∧ W.cell? ⟨w.heap.size + 1, 0, none⟩ = some (.bool r) ∧ W.cell? ⟨w.heap.size + 1, 1, none⟩ = some (.int .u64 N) ∧ W.cell? ⟨w.heap.size + 1, 2, none⟩ = some (.int .u64 B) ∧ Own W (w.heap.size + 1 + 1) 3) ?_ ?_
  · refine ⟨?_, ?_, ?_, ?_, ?_, ?_, ?_, ?_, ?_⟩
    all_goals (first | with_reducible assumption | ((repeat (first | with_reducible assumption | with_reducible refine c_dr _ ?_ | with_reducible refine c_d1 ?_ | with_reducible refine c_al _ ?_ | (with_reducible refine c_set ?_ ?_; focus (dsimp only; omega)) | (with_reducible apply c_be; with_reducible assumption))); done) | ((repeat (first | with_reducible assumption | with_reducible refine o_dr _ ?_ | with_reducible refine o_d1 ?_ | with_reducible refine o_set ?_ | (with_reducible refine o_new ?_ ?_; (focus (simp)); (focus (simp))) | with_reducible refine o_al _ ?_ | (with_reducible apply o_be; with_reducible assumption))); done) | ((repeat (first | with_reducible assumption | with_reducible exact Below.refl _ _ | with_reducible refine Below.drew ?_ | with_reducible refine below_drewN ?_ _ | with_reducible refine bw_alloc ?_ _ | (with_reducible refine bw_set ?_ ?_ _; focus (dsimp only; omega)) | (with_reducible apply bw_behind; with_reducible assumption))); done) | (refine hT.behind ?_; (repeat (first | with_reducible assumption | with_reducible exact Below.refl _ _ | with_reducible refine Below.drew ?_ | with_reducible refine below_drewN ?_ _ | with_reducible refine bw_alloc ?_ _ | (with_reducible refine bw_set ?_ ?_ _; focus (dsimp only; omega)) | (with_reducible apply bw_behind; with_reducible assumption))); done) | (simp [go_sem, *]; omega) | (simp (maxDischargeDepth := 4) [go_sem, *]; done))
  rintro w0 ⟨hT0, hB0, c0, c1, c2, c3, c4, c5, o0⟩
  have y0 := behind_cell0 c0
  have y1 := behind_cell0 c1
  have y2 := behind_cell0 c2
  have y3 := behind_cell0 c3
  have y4 := behind_cell0 c4
  have y5 := behind_cell0 c5
  have hsome := Behind.any w0
  clear c0 c1 c2 c3 c4 c5
  refine wp_region_behind w0 (by kernel_rfl) (by kernel_rfl) (Below.refl _ _) ?_
  repeat (go_big_quiet_step (first | (go_at_call 61; with_reducible first | exact behind_call Cc1.out hT0 _) | (go_at_call 62; with_reducible first | exact behind_call Cc2.out hT0 _) | (go_at_call 56; with_reducible first | exact behind_call Cc6.out hT0 _)))
  refine wpQuiet_nil ?_
  rintro _ ⟨y, rfl⟩
  have po0 := o_be y.below o0
  clear o0
  have hTy := hT0.behind y.below
  have hBy := bw_behind y.below hB0
  have x0 := y0 y
  have x1 := y1 y
  have x2 := y2 y
  have x3 := y3 y
  have x4 := y4 y
  have x5 := y5 y
  clear hsome y0 y1 y2 y3 y4 y5
  obtain ⟨w1, hw1⟩ : ∃ W, W = y.world := ⟨_, rfl⟩
  rw [← hw1] at hTy hBy x0 x1 x2 x3 x4 x5 po0 ⊢
  clear hw1 y hT0 hB0
  obtain ⟨v0, ev0⟩ := po0.val 0 (by omega)
  have fv0 := po0.free 0 (by omega)
  obtain ⟨v1, ev1⟩ := po0.val 1 (by omega)
  have fv1 := po0.free 1 (by omega)
  obtain ⟨v2, ev2⟩ := po0.val 2 (by omega)
  have fv2 := po0.free 2 (by omega)
  have hlt := World.block_lt_of_cell? w1 _ ev0
  obtain ⟨k1, hk1⟩ : ∃ k, w1.heap.size = w.heap.size + 1 + 1 + 1 + k := ⟨w1.heap.size - (w.heap.size + 1 + 1 + 1), by dsimp only at hlt; omega⟩
  clear hlt
  go_wp2_with (first | (go_at_call 11; (first | ((with_reducible refine (Cc5.out _ ?_).mono ?_); (refine hTy.behind ?_; repeat (first | with_reducible assumption | with_reducible exact Below.refl _ _ | with_reducible refine Below.drew ?_ | with_reducible refine below_drewN ?_ _ | with_reducible refine bw_alloc ?_ _ | (with_reducible refine bw_set ?_ ?_ _; focus (dsimp only; omega)) | (with_reducible apply bw_behind; with_reducible assumption))))); rintro e wy ⟨rfl, hby⟩; have hry := below_reads hby; have hhy := below_holds hby; obtain ⟨my, hsy⟩ := below_grew hby))
  refine bodyPost_ret (v := .agg #[.bool false, .int .u64 M, .int .u64 A]) (by simp (maxDischargeDepth := 4) [results, Tryd.results23, go_sem, *]) rfl ?_
  refine ⟨rfl, ?_⟩
  repeat (first | with_reducible assumption | with_reducible exact Below.refl _ _ | with_reducible refine Below.drew ?_ | with_reducible refine below_drewN ?_ _ | with_reducible refine bw_alloc ?_ _ | (with_reducible refine bw_set ?_ ?_ _; focus (dsimp only; omega)) | (with_reducible apply bw_behind; with_reducible assumption))

set_option maxRecDepth 100000 in
set_option maxHeartbeats 4000000 in
theorem runseal_5 (q r t : Bool) (M A N B K M2 A2 : Int) (c1 : ∀ W, Tab W → Calls Tryd.prog 61 #[.agg #[.bool q, .int .u64 M, .int .u64 A]] W (Makes (.bool true) W)) (c2 : ∀ W, Tab W → Calls Tryd.prog 62 #[.agg #[.bool q, .int .u64 M, .int .u64 A]] W (Makes (.int .u64 K) W)) (c6 : ∀ W, Tab W → Calls Tryd.prog 56 #[.agg #[.bool r, .int .u64 N, .int .u64 B], .int .u64 64] W (Makes (.bool true) W)) (c9 : ∀ W, Tab W → Calls Tryd.prog 57 #[.agg #[.bool q, .int .u64 M, .int .u64 A], .int .u64 0] W (Makes (.agg #[.bool t, .int .u64 M2, .int .u64 A2]) W)) (hK : ¬ K < 16) (hE : (B == K) = true) (w : World) (hT : Tab w) :
    Calls Tryd.prog 23 #[.agg #[.bool q, .int .u64 M, .int .u64 A], .agg #[.bool r, .int .u64 N, .int .u64 B]] w (Makes (.agg #[.bool t, .int .u64 M2, .int .u64 A2]) w) := by
  have Cc1 := hide c1
  have Cc2 := hide c2
  have Cc6 := hide c6
  have Cc9 := hide c9
  clear c1 c2 c6 c9
  have SS := cell_same
  have LB' := ltB_add
  have LS := ltB_self
  have LA' := alloc_reads
  have LH := alloc_holds
  go_enter Tryd.func23, Tryd.ntmps23
  go_upto_region 1 with fail
  refine wp_abs (fun W => Tab W ∧ Below w.heap.size w W ∧ W.cell? ⟨w.heap.size, 0, none⟩ = some (.bool q) ∧ W.cell? ⟨w.heap.size, 1, none⟩ = some (.int .u64 M) ∧ W.cell? ⟨w.heap.size, 2, none⟩ = some (.int .u64 A) ∧ W.cell? ⟨w.heap.size + 1, 0, none⟩ = some (.bool r) ∧ W.cell? ⟨w.heap.size + 1, 1, none⟩ = some (.int .u64 N) ∧ W.cell? ⟨w.heap.size + 1, 2, none⟩ = some (.int .u64 B) ∧ Own W (w.heap.size + 1 + 1) 3) ?_ ?_
  · refine ⟨?_, ?_, ?_, ?_, ?_, ?_, ?_, ?_, ?_⟩
    all_goals (first | with_reducible assumption | ((repeat (first | with_reducible assumption | with_reducible refine c_dr _ ?_ | with_reducible refine c_d1 ?_ | with_reducible refine c_al _ ?_ | (with_reducible refine c_set ?_ ?_; focus (dsimp only; omega)) | (with_reducible apply c_be; with_reducible assumption))); done) | ((repeat (first | with_reducible assumption | with_reducible refine o_dr _ ?_ | with_reducible refine o_d1 ?_ | with_reducible refine o_set ?_ | (with_reducible refine o_new ?_ ?_; (focus (simp)); (focus (simp))) | with_reducible refine o_al _ ?_ | (with_reducible apply o_be; with_reducible assumption))); done) | ((repeat (first | with_reducible assumption | with_reducible exact Below.refl _ _ | with_reducible refine Below.drew ?_ | with_reducible refine below_drewN ?_ _ | with_reducible refine bw_alloc ?_ _ | (with_reducible refine bw_set ?_ ?_ _; focus (dsimp only; omega)) | (with_reducible apply bw_behind; with_reducible assumption))); done) | (refine hT.behind ?_; (repeat (first | with_reducible assumption | with_reducible exact Below.refl _ _ | with_reducible refine Below.drew ?_ | with_reducible refine below_drewN ?_ _ | with_reducible refine bw_alloc ?_ _ | (with_reducible refine bw_set ?_ ?_ _; focus (dsimp only; omega)) | (with_reducible apply bw_behind; with_reducible assumption))); done) | (simp [go_sem, *]; omega) | (simp (maxDischargeDepth := 4) [go_sem, *]; done))
  rintro w0 ⟨hT0, hB0, c0, c1, c2, c3, c4, c5, o0⟩
  have y0 := behind_cell0 c0
  have y1 := behind_cell0 c1
  have y2 := behind_cell0 c2
  have y3 := behind_cell0 c3
  have y4 := behind_cell0 c4
  have y5 := behind_cell0 c5
  have hsome := Behind.any w0
  clear c0 c1 c2 c3 c4 c5
  refine wp_region_behind w0 (by kernel_rfl) (by kernel_rfl) (Below.refl _ _) ?_
  repeat (go_big_quiet_step (first | (go_at_call 61; with_reducible first | exact behind_call Cc1.out hT0 _) | (go_at_call 62; with_reducible first | exact behind_call Cc2.out hT0 _) | (go_at_call 56; with_reducible first | exact behind_call Cc6.out hT0 _)))
  refine wpQuiet_nil ?_
  rintro _ ⟨y, rfl⟩
  have po0 := o_be y.below o0
  clear o0
  have hTy := hT0.behind y.below
  have hBy := bw_behind y.below hB0
  have x0 := y0 y
  have x1 := y1 y
  have x2 := y2 y
  have x3 := y3 y
  have x4 := y4 y
  have x5 := y5 y
  clear hsome y0 y1 y2 y3 y4 y5
  obtain ⟨w1, hw1⟩ : ∃ W, W = y.world := ⟨_, rfl⟩
  rw [← hw1] at hTy hBy x0 x1 x2 x3 x4 x5 po0 ⊢
  clear hw1 y hT0 hB0
  obtain ⟨v0, ev0⟩ := po0.val 0 (by omega)
  have fv0 := po0.free 0 (by omega)
  obtain ⟨v1, ev1⟩ := po0.val 1 (by omega)
  have fv1 := po0.free 1 (by omega)
  obtain ⟨v2, ev2⟩ := po0.val 2 (by omega)
  have fv2 := po0.free 2 (by omega)
  have hlt := World.block_lt_of_cell? w1 _ ev0
  obtain ⟨k1, hk1⟩ : ∃ k, w1.heap.size = w.heap.size + 1 + 1 + 1 + k := ⟨w1.heap.size - (w.heap.size + 1 + 1 + 1), by dsimp only at hlt; omega⟩
  clear hlt
  go_wp2_with (first | (go_at_call 57; (first | ((with_reducible refine (Cc9.out _ ?_).mono ?_); (refine hTy.behind ?_; repeat (first | with_reducible assumption | with_reducible exact Below.refl _ _ | with_reducible refine Below.drew ?_ | with_reducible refine below_drewN ?_ _ | with_reducible refine bw_alloc ?_ _ | (with_reducible refine bw_set ?_ ?_ _; focus (dsimp only; omega)) | (with_reducible apply bw_behind; with_reducible assumption))))); rintro e wz ⟨rfl, hbz⟩; have hrz := below_reads hbz; have hhz := below_holds hbz; obtain ⟨mz, hsz⟩ := below_grew hbz))
  refine bodyPost_ret (v := .agg #[.bool t, .int .u64 M2, .int .u64 A2]) (by simp (maxDischargeDepth := 4) [results, Tryd.results23, go_sem, *]) rfl ?_
  refine ⟨rfl, ?_⟩
  repeat (first | with_reducible assumption | with_reducible exact Below.refl _ _ | with_reducible refine Below.drew ?_ | with_reducible refine below_drewN ?_ _ | with_reducible refine bw_alloc ?_ _ | (with_reducible refine bw_set ?_ ?_ _; focus (dsimp only; omega)) | (with_reducible apply bw_behind; with_reducible assumption))
end Go.Proofs.YtbncoiejbclpjaaDoor
