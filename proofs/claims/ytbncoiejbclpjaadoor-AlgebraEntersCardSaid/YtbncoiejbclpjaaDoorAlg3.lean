/-
  What Seal, Unseal, Enter, Open, Build, And answer, over letters, way by way.
-/
import Derived.Test.YtbncoiejbclpjaaDoorAlg2
import Derived.Deep.DeepCutAuto
import Derived.Deep.RegionHeld3
namespace Go.Proofs.YtbncoiejbclpjaaDoor
open Go.RowKit Words FieldMath BoundsMath

set_option maxHeartbeats 4000000 in
theorem seal_1 (q r t : Bool) (M A N B M2 A2 : Int) (c1 : ∀ W, Tab W → Calls Tryd.prog 40 #[.agg #[.bool q, .int .u64 M, .int .u64 A]] W (Makes (.bool false) W)) (c9 : ∀ W, Tab W → Calls Tryd.prog 54 #[.agg #[.bool q, .int .u64 M, .int .u64 A], .bool false, .func (.func 55) #[] #[], .int .u64 B] W (Makes (.agg #[.bool t, .int .u64 M2, .int .u64 A2]) W)) (w : World) (hT : Tab w) :
    Calls Tryd.prog 20 #[.agg #[.bool q, .int .u64 M, .int .u64 A], .agg #[.bool r, .int .u64 N, .int .u64 B]] w (Makes (.agg #[.bool t, .int .u64 M2, .int .u64 A2]) w) := by
  have Cc1 := hide c1
  have Cc9 := hide c9
  clear c1 c9
  have SS := cell_same
  have LB' := ltB_add
  have LS := ltB_self
  have LA' := alloc_reads
  have LH := alloc_holds
  go_enter Tryd.func20, Tryd.ntmps20
  go_wp2_with (first | (go_at_call 40; (first | ((with_reducible refine (Cc1.out _ ?_).mono ?_); (refine hT.behind ?_; repeat (first | with_reducible assumption | with_reducible exact Below.refl _ _ | with_reducible refine Below.drew ?_ | with_reducible refine below_drewN ?_ _ | with_reducible refine bw_alloc ?_ _ | (with_reducible refine bw_set ?_ ?_ _; focus (dsimp only; omega)) | (with_reducible apply bw_behind; with_reducible assumption))))); rintro e wa ⟨rfl, hba⟩; have hra := below_reads hba; have hha := below_holds hba; obtain ⟨ma, hsa⟩ := below_grew hba) | (go_at_call 54; (first | ((with_reducible refine (Cc9.out _ ?_).mono ?_); (refine hT.behind ?_; repeat (first | with_reducible assumption | with_reducible exact Below.refl _ _ | with_reducible refine Below.drew ?_ | with_reducible refine below_drewN ?_ _ | with_reducible refine bw_alloc ?_ _ | (with_reducible refine bw_set ?_ ?_ _; focus (dsimp only; omega)) | (with_reducible apply bw_behind; with_reducible assumption))))); rintro e wz ⟨rfl, hbz⟩; have hrz := below_reads hbz; have hhz := below_holds hbz; obtain ⟨mz, hsz⟩ := below_grew hbz))
  refine bodyPost_ret (v := .agg #[.bool t, .int .u64 M2, .int .u64 A2]) (by simp (maxDischargeDepth := 4) [results, Tryd.results20, go_sem, *]) rfl ?_
  refine ⟨rfl, ?_⟩
  repeat (first | with_reducible assumption | with_reducible exact Below.refl _ _ | with_reducible refine Below.drew ?_ | with_reducible refine below_drewN ?_ _ | with_reducible refine bw_alloc ?_ _ | (with_reducible refine bw_set ?_ ?_ _; focus (dsimp only; omega)) | (with_reducible apply bw_behind; with_reducible assumption))

set_option maxHeartbeats 4000000 in
theorem seal_2 (q r t : Bool) (M A N B M2 A2 : Int) (c1 : ∀ W, Tab W → Calls Tryd.prog 40 #[.agg #[.bool q, .int .u64 M, .int .u64 A]] W (Makes (.bool true) W)) (c2 : ∀ W, Tab W → Calls Tryd.prog 53 #[.agg #[.bool r, .int .u64 N, .int .u64 B], .int .u64 32] W (Makes (.bool false) W)) (c9 : ∀ W, Tab W → Calls Tryd.prog 54 #[.agg #[.bool q, .int .u64 M, .int .u64 A], .bool false, .func (.func 55) #[] #[], .int .u64 B] W (Makes (.agg #[.bool t, .int .u64 M2, .int .u64 A2]) W)) (w : World) (hT : Tab w) :
    Calls Tryd.prog 20 #[.agg #[.bool q, .int .u64 M, .int .u64 A], .agg #[.bool r, .int .u64 N, .int .u64 B]] w (Makes (.agg #[.bool t, .int .u64 M2, .int .u64 A2]) w) := by
  have Cc1 := hide c1
  have Cc2 := hide c2
  have Cc9 := hide c9
  clear c1 c2 c9
  have SS := cell_same
  have LB' := ltB_add
  have LS := ltB_self
  have LA' := alloc_reads
  have LH := alloc_holds
  go_enter Tryd.func20, Tryd.ntmps20
  go_wp2_with (first | (go_at_call 40; (first | ((with_reducible refine (Cc1.out _ ?_).mono ?_); (refine hT.behind ?_; repeat (first | with_reducible assumption | with_reducible exact Below.refl _ _ | with_reducible refine Below.drew ?_ | with_reducible refine below_drewN ?_ _ | with_reducible refine bw_alloc ?_ _ | (with_reducible refine bw_set ?_ ?_ _; focus (dsimp only; omega)) | (with_reducible apply bw_behind; with_reducible assumption))))); rintro e wa ⟨rfl, hba⟩; have hra := below_reads hba; have hha := below_holds hba; obtain ⟨ma, hsa⟩ := below_grew hba) | (go_at_call 53; (first | ((with_reducible refine (Cc2.out _ ?_).mono ?_); (refine hT.behind ?_; repeat (first | with_reducible assumption | with_reducible exact Below.refl _ _ | with_reducible refine Below.drew ?_ | with_reducible refine below_drewN ?_ _ | with_reducible refine bw_alloc ?_ _ | (with_reducible refine bw_set ?_ ?_ _; focus (dsimp only; omega)) | (with_reducible apply bw_behind; with_reducible assumption))))); rintro e wb ⟨rfl, hbb⟩; have hrb := below_reads hbb; have hhb := below_holds hbb; obtain ⟨mb, hsb⟩ := below_grew hbb) | (go_at_call 54; (first | ((with_reducible refine (Cc9.out _ ?_).mono ?_); (refine hT.behind ?_; repeat (first | with_reducible assumption | with_reducible exact Below.refl _ _ | with_reducible refine Below.drew ?_ | with_reducible refine below_drewN ?_ _ | with_reducible refine bw_alloc ?_ _ | (with_reducible refine bw_set ?_ ?_ _; focus (dsimp only; omega)) | (with_reducible apply bw_behind; with_reducible assumption))))); rintro e wz ⟨rfl, hbz⟩; have hrz := below_reads hbz; have hhz := below_holds hbz; obtain ⟨mz, hsz⟩ := below_grew hbz))
  refine bodyPost_ret (v := .agg #[.bool t, .int .u64 M2, .int .u64 A2]) (by simp (maxDischargeDepth := 4) [results, Tryd.results20, go_sem, *]) rfl ?_
  refine ⟨rfl, ?_⟩
  repeat (first | with_reducible assumption | with_reducible exact Below.refl _ _ | with_reducible refine Below.drew ?_ | with_reducible refine below_drewN ?_ _ | with_reducible refine bw_alloc ?_ _ | (with_reducible refine bw_set ?_ ?_ _; focus (dsimp only; omega)) | (with_reducible apply bw_behind; with_reducible assumption))

set_option maxHeartbeats 4000000 in
theorem seal_3 (q r t : Bool) (M A N B M2 A2 : Int) (c1 : ∀ W, Tab W → Calls Tryd.prog 40 #[.agg #[.bool q, .int .u64 M, .int .u64 A]] W (Makes (.bool true) W)) (c2 : ∀ W, Tab W → Calls Tryd.prog 53 #[.agg #[.bool r, .int .u64 N, .int .u64 B], .int .u64 32] W (Makes (.bool true) W)) (c9 : ∀ W, Tab W → Calls Tryd.prog 54 #[.agg #[.bool q, .int .u64 M, .int .u64 A], .bool false, .func (.func 55) #[] #[], .int .u64 B] W (Makes (.agg #[.bool t, .int .u64 M2, .int .u64 A2]) W)) (hB : ¬ 16 ≤ B) (w : World) (hT : Tab w) :
    Calls Tryd.prog 20 #[.agg #[.bool q, .int .u64 M, .int .u64 A], .agg #[.bool r, .int .u64 N, .int .u64 B]] w (Makes (.agg #[.bool t, .int .u64 M2, .int .u64 A2]) w) := by
  have Cc1 := hide c1
  have Cc2 := hide c2
  have Cc9 := hide c9
  clear c1 c2 c9
  have SS := cell_same
  have LB' := ltB_add
  have LS := ltB_self
  have LA' := alloc_reads
  have LH := alloc_holds
  go_enter Tryd.func20, Tryd.ntmps20
  go_wp2_with (first | (go_at_call 40; (first | ((with_reducible refine (Cc1.out _ ?_).mono ?_); (refine hT.behind ?_; repeat (first | with_reducible assumption | with_reducible exact Below.refl _ _ | with_reducible refine Below.drew ?_ | with_reducible refine below_drewN ?_ _ | with_reducible refine bw_alloc ?_ _ | (with_reducible refine bw_set ?_ ?_ _; focus (dsimp only; omega)) | (with_reducible apply bw_behind; with_reducible assumption))))); rintro e wa ⟨rfl, hba⟩; have hra := below_reads hba; have hha := below_holds hba; obtain ⟨ma, hsa⟩ := below_grew hba) | (go_at_call 53; (first | ((with_reducible refine (Cc2.out _ ?_).mono ?_); (refine hT.behind ?_; repeat (first | with_reducible assumption | with_reducible exact Below.refl _ _ | with_reducible refine Below.drew ?_ | with_reducible refine below_drewN ?_ _ | with_reducible refine bw_alloc ?_ _ | (with_reducible refine bw_set ?_ ?_ _; focus (dsimp only; omega)) | (with_reducible apply bw_behind; with_reducible assumption))))); rintro e wb ⟨rfl, hbb⟩; have hrb := below_reads hbb; have hhb := below_holds hbb; obtain ⟨mb, hsb⟩ := below_grew hbb) | (go_at_call 54; (first | ((with_reducible refine (Cc9.out _ ?_).mono ?_); (refine hT.behind ?_; repeat (first | with_reducible assumption | with_reducible exact Below.refl _ _ | with_reducible refine Below.drew ?_ | with_reducible refine below_drewN ?_ _ | with_reducible refine bw_alloc ?_ _ | (with_reducible refine bw_set ?_ ?_ _; focus (dsimp only; omega)) | (with_reducible apply bw_behind; with_reducible assumption))))); rintro e wz ⟨rfl, hbz⟩; have hrz := below_reads hbz; have hhz := below_holds hbz; obtain ⟨mz, hsz⟩ := below_grew hbz))
  refine bodyPost_ret (v := .agg #[.bool t, .int .u64 M2, .int .u64 A2]) (by simp (maxDischargeDepth := 4) [results, Tryd.results20, go_sem, *]) rfl ?_
  refine ⟨rfl, ?_⟩
  repeat (first | with_reducible assumption | with_reducible exact Below.refl _ _ | with_reducible refine Below.drew ?_ | with_reducible refine below_drewN ?_ _ | with_reducible refine bw_alloc ?_ _ | (with_reducible refine bw_set ?_ ?_ _; focus (dsimp only; omega)) | (with_reducible apply bw_behind; with_reducible assumption))

set_option maxHeartbeats 4000000 in
theorem seal_4 (q r t Z : Bool) (M A N B M2 A2 : Int) (c1 : ∀ W, Tab W → Calls Tryd.prog 40 #[.agg #[.bool q, .int .u64 M, .int .u64 A]] W (Makes (.bool true) W)) (c2 : ∀ W, Tab W → Calls Tryd.prog 53 #[.agg #[.bool r, .int .u64 N, .int .u64 B], .int .u64 32] W (Makes (.bool true) W)) (c9 : ∀ W, Tab W → Calls Tryd.prog 54 #[.agg #[.bool q, .int .u64 M, .int .u64 A], .bool Z, .func (.func 55) #[] #[], .int .u64 B] W (Makes (.agg #[.bool t, .int .u64 M2, .int .u64 A2]) W)) (hB : 16 ≤ B) (hB2 : decide (B ≤ 4095) = Z) (w : World) (hT : Tab w) :
    Calls Tryd.prog 20 #[.agg #[.bool q, .int .u64 M, .int .u64 A], .agg #[.bool r, .int .u64 N, .int .u64 B]] w (Makes (.agg #[.bool t, .int .u64 M2, .int .u64 A2]) w) := by
  have Cc1 := hide c1
  have Cc2 := hide c2
  have Cc9 := hide c9
  clear c1 c2 c9
  have SS := cell_same
  have LB' := ltB_add
  have LS := ltB_self
  have LA' := alloc_reads
  have LH := alloc_holds
  go_enter Tryd.func20, Tryd.ntmps20
  go_wp2_with (first | (go_at_call 40; (first | ((with_reducible refine (Cc1.out _ ?_).mono ?_); (refine hT.behind ?_; repeat (first | with_reducible assumption | with_reducible exact Below.refl _ _ | with_reducible refine Below.drew ?_ | with_reducible refine below_drewN ?_ _ | with_reducible refine bw_alloc ?_ _ | (with_reducible refine bw_set ?_ ?_ _; focus (dsimp only; omega)) | (with_reducible apply bw_behind; with_reducible assumption))))); rintro e wa ⟨rfl, hba⟩; have hra := below_reads hba; have hha := below_holds hba; obtain ⟨ma, hsa⟩ := below_grew hba) | (go_at_call 53; (first | ((with_reducible refine (Cc2.out _ ?_).mono ?_); (refine hT.behind ?_; repeat (first | with_reducible assumption | with_reducible exact Below.refl _ _ | with_reducible refine Below.drew ?_ | with_reducible refine below_drewN ?_ _ | with_reducible refine bw_alloc ?_ _ | (with_reducible refine bw_set ?_ ?_ _; focus (dsimp only; omega)) | (with_reducible apply bw_behind; with_reducible assumption))))); rintro e wb ⟨rfl, hbb⟩; have hrb := below_reads hbb; have hhb := below_holds hbb; obtain ⟨mb, hsb⟩ := below_grew hbb) | (go_at_call 54; (first | ((with_reducible refine (Cc9.out _ ?_).mono ?_); (refine hT.behind ?_; repeat (first | with_reducible assumption | with_reducible exact Below.refl _ _ | with_reducible refine Below.drew ?_ | with_reducible refine below_drewN ?_ _ | with_reducible refine bw_alloc ?_ _ | (with_reducible refine bw_set ?_ ?_ _; focus (dsimp only; omega)) | (with_reducible apply bw_behind; with_reducible assumption))))); rintro e wz ⟨rfl, hbz⟩; have hrz := below_reads hbz; have hhz := below_holds hbz; obtain ⟨mz, hsz⟩ := below_grew hbz))
  refine bodyPost_ret (v := .agg #[.bool t, .int .u64 M2, .int .u64 A2]) (by simp (maxDischargeDepth := 4) [results, Tryd.results20, go_sem, *]) rfl ?_
  refine ⟨rfl, ?_⟩
  repeat (first | with_reducible assumption | with_reducible exact Below.refl _ _ | with_reducible refine Below.drew ?_ | with_reducible refine below_drewN ?_ _ | with_reducible refine bw_alloc ?_ _ | (with_reducible refine bw_set ?_ ?_ _; focus (dsimp only; omega)) | (with_reducible apply bw_behind; with_reducible assumption))

set_option maxHeartbeats 4000000 in
theorem unseal_1 (q r t : Bool) (M A N B M2 A2 K : Int) (c0 : ∀ W, Tab W → Calls Tryd.prog 58 #[.agg #[.bool q, .int .u64 M, .int .u64 A], .func (.func 59) #[] #[]] W (Makes (.int .u64 K) W)) (c1 : ∀ W, Tab W → Calls Tryd.prog 60 #[.agg #[.bool q, .int .u64 M, .int .u64 A]] W (Makes (.bool false) W)) (c9 : ∀ W, Tab W → Calls Tryd.prog 54 #[.agg #[.bool q, .int .u64 M, .int .u64 A], .bool false, .func (.func 55) #[] #[], .int .u64 0] W (Makes (.agg #[.bool t, .int .u64 M2, .int .u64 A2]) W)) (w : World) (hT : Tab w) :
    Calls Tryd.prog 22 #[.agg #[.bool q, .int .u64 M, .int .u64 A], .agg #[.bool r, .int .u64 N, .int .u64 B]] w (Makes (.agg #[.bool t, .int .u64 M2, .int .u64 A2]) w) := by
  have Cc0 := hide c0
  have Cc1 := hide c1
  have Cc9 := hide c9
  clear c0 c1 c9
  have SS := cell_same
  have LB' := ltB_add
  have LS := ltB_self
  have LA' := alloc_reads
  have LH := alloc_holds
  go_enter Tryd.func22, Tryd.ntmps22
  go_wp2_with (first | (go_at_call 58; (first | ((with_reducible refine (Cc0.out _ ?_).mono ?_); (refine hT.behind ?_; repeat (first | with_reducible assumption | with_reducible exact Below.refl _ _ | with_reducible refine Below.drew ?_ | with_reducible refine below_drewN ?_ _ | with_reducible refine bw_alloc ?_ _ | (with_reducible refine bw_set ?_ ?_ _; focus (dsimp only; omega)) | (with_reducible apply bw_behind; with_reducible assumption))))); rintro e wd ⟨rfl, hbd⟩; have hrd := below_reads hbd; have hhd := below_holds hbd; obtain ⟨md, hsd⟩ := below_grew hbd) | (go_at_call 60; (first | ((with_reducible refine (Cc1.out _ ?_).mono ?_); (refine hT.behind ?_; repeat (first | with_reducible assumption | with_reducible exact Below.refl _ _ | with_reducible refine Below.drew ?_ | with_reducible refine below_drewN ?_ _ | with_reducible refine bw_alloc ?_ _ | (with_reducible refine bw_set ?_ ?_ _; focus (dsimp only; omega)) | (with_reducible apply bw_behind; with_reducible assumption))))); rintro e wa ⟨rfl, hba⟩; have hra := below_reads hba; have hha := below_holds hba; obtain ⟨ma, hsa⟩ := below_grew hba) | (go_at_call 54; (first | ((with_reducible refine (Cc9.out _ ?_).mono ?_); (refine hT.behind ?_; repeat (first | with_reducible assumption | with_reducible exact Below.refl _ _ | with_reducible refine Below.drew ?_ | with_reducible refine below_drewN ?_ _ | with_reducible refine bw_alloc ?_ _ | (with_reducible refine bw_set ?_ ?_ _; focus (dsimp only; omega)) | (with_reducible apply bw_behind; with_reducible assumption))))); rintro e wz ⟨rfl, hbz⟩; have hrz := below_reads hbz; have hhz := below_holds hbz; obtain ⟨mz, hsz⟩ := below_grew hbz))
  refine bodyPost_ret (v := .agg #[.bool t, .int .u64 M2, .int .u64 A2]) (by simp (maxDischargeDepth := 4) [results, Tryd.results22, go_sem, *]) rfl ?_
  refine ⟨rfl, ?_⟩
  repeat (first | with_reducible assumption | with_reducible exact Below.refl _ _ | with_reducible refine Below.drew ?_ | with_reducible refine below_drewN ?_ _ | with_reducible refine bw_alloc ?_ _ | (with_reducible refine bw_set ?_ ?_ _; focus (dsimp only; omega)) | (with_reducible apply bw_behind; with_reducible assumption))

set_option maxHeartbeats 4000000 in
theorem unseal_2 (q r t : Bool) (M A N B M2 A2 K : Int) (c0 : ∀ W, Tab W → Calls Tryd.prog 58 #[.agg #[.bool q, .int .u64 M, .int .u64 A], .func (.func 59) #[] #[]] W (Makes (.int .u64 K) W)) (c1 : ∀ W, Tab W → Calls Tryd.prog 60 #[.agg #[.bool q, .int .u64 M, .int .u64 A]] W (Makes (.bool true) W)) (c9 : ∀ W, Tab W → Calls Tryd.prog 54 #[.agg #[.bool q, .int .u64 M, .int .u64 A], .bool false, .func (.func 55) #[] #[], .int .u64 0] W (Makes (.agg #[.bool t, .int .u64 M2, .int .u64 A2]) W)) (hK : ¬ 16 ≤ K) (w : World) (hT : Tab w) :
    Calls Tryd.prog 22 #[.agg #[.bool q, .int .u64 M, .int .u64 A], .agg #[.bool r, .int .u64 N, .int .u64 B]] w (Makes (.agg #[.bool t, .int .u64 M2, .int .u64 A2]) w) := by
  have Cc0 := hide c0
  have Cc1 := hide c1
  have Cc9 := hide c9
  clear c0 c1 c9
  have SS := cell_same
  have LB' := ltB_add
  have LS := ltB_self
  have LA' := alloc_reads
  have LH := alloc_holds
  go_enter Tryd.func22, Tryd.ntmps22
  go_wp2_with (first | (go_at_call 58; (first | ((with_reducible refine (Cc0.out _ ?_).mono ?_); (refine hT.behind ?_; repeat (first | with_reducible assumption | with_reducible exact Below.refl _ _ | with_reducible refine Below.drew ?_ | with_reducible refine below_drewN ?_ _ | with_reducible refine bw_alloc ?_ _ | (with_reducible refine bw_set ?_ ?_ _; focus (dsimp only; omega)) | (with_reducible apply bw_behind; with_reducible assumption))))); rintro e wd ⟨rfl, hbd⟩; have hrd := below_reads hbd; have hhd := below_holds hbd; obtain ⟨md, hsd⟩ := below_grew hbd) | (go_at_call 60; (first | ((with_reducible refine (Cc1.out _ ?_).mono ?_); (refine hT.behind ?_; repeat (first | with_reducible assumption | with_reducible exact Below.refl _ _ | with_reducible refine Below.drew ?_ | with_reducible refine below_drewN ?_ _ | with_reducible refine bw_alloc ?_ _ | (with_reducible refine bw_set ?_ ?_ _; focus (dsimp only; omega)) | (with_reducible apply bw_behind; with_reducible assumption))))); rintro e wa ⟨rfl, hba⟩; have hra := below_reads hba; have hha := below_holds hba; obtain ⟨ma, hsa⟩ := below_grew hba) | (go_at_call 54; (first | ((with_reducible refine (Cc9.out _ ?_).mono ?_); (refine hT.behind ?_; repeat (first | with_reducible assumption | with_reducible exact Below.refl _ _ | with_reducible refine Below.drew ?_ | with_reducible refine below_drewN ?_ _ | with_reducible refine bw_alloc ?_ _ | (with_reducible refine bw_set ?_ ?_ _; focus (dsimp only; omega)) | (with_reducible apply bw_behind; with_reducible assumption))))); rintro e wz ⟨rfl, hbz⟩; have hrz := below_reads hbz; have hhz := below_holds hbz; obtain ⟨mz, hsz⟩ := below_grew hbz))
  refine bodyPost_ret (v := .agg #[.bool t, .int .u64 M2, .int .u64 A2]) (by simp (maxDischargeDepth := 4) [results, Tryd.results22, go_sem, *]) rfl ?_
  refine ⟨rfl, ?_⟩
  repeat (first | with_reducible assumption | with_reducible exact Below.refl _ _ | with_reducible refine Below.drew ?_ | with_reducible refine below_drewN ?_ _ | with_reducible refine bw_alloc ?_ _ | (with_reducible refine bw_set ?_ ?_ _; focus (dsimp only; omega)) | (with_reducible apply bw_behind; with_reducible assumption))

set_option maxHeartbeats 4000000 in
theorem unseal_3 (q r t : Bool) (M A N B M2 A2 K : Int) (c0 : ∀ W, Tab W → Calls Tryd.prog 58 #[.agg #[.bool q, .int .u64 M, .int .u64 A], .func (.func 59) #[] #[]] W (Makes (.int .u64 K) W)) (c1 : ∀ W, Tab W → Calls Tryd.prog 60 #[.agg #[.bool q, .int .u64 M, .int .u64 A]] W (Makes (.bool true) W)) (c2 : ∀ W, Tab W → Calls Tryd.prog 53 #[.agg #[.bool r, .int .u64 N, .int .u64 B], .int .u64 64] W (Makes (.bool false) W)) (c9 : ∀ W, Tab W → Calls Tryd.prog 54 #[.agg #[.bool q, .int .u64 M, .int .u64 A], .bool false, .func (.func 55) #[] #[], .int .u64 0] W (Makes (.agg #[.bool t, .int .u64 M2, .int .u64 A2]) W)) (hK : 16 ≤ K) (w : World) (hT : Tab w) :
    Calls Tryd.prog 22 #[.agg #[.bool q, .int .u64 M, .int .u64 A], .agg #[.bool r, .int .u64 N, .int .u64 B]] w (Makes (.agg #[.bool t, .int .u64 M2, .int .u64 A2]) w) := by
  have Cc0 := hide c0
  have Cc1 := hide c1
  have Cc2 := hide c2
  have Cc9 := hide c9
  clear c0 c1 c2 c9
  have SS := cell_same
  have LB' := ltB_add
  have LS := ltB_self
  have LA' := alloc_reads
  have LH := alloc_holds
  go_enter Tryd.func22, Tryd.ntmps22
  go_wp2_with (first | (go_at_call 58; (first | ((with_reducible refine (Cc0.out _ ?_).mono ?_); (refine hT.behind ?_; repeat (first | with_reducible assumption | with_reducible exact Below.refl _ _ | with_reducible refine Below.drew ?_ | with_reducible refine below_drewN ?_ _ | with_reducible refine bw_alloc ?_ _ | (with_reducible refine bw_set ?_ ?_ _; focus (dsimp only; omega)) | (with_reducible apply bw_behind; with_reducible assumption))))); rintro e wd ⟨rfl, hbd⟩; have hrd := below_reads hbd; have hhd := below_holds hbd; obtain ⟨md, hsd⟩ := below_grew hbd) | (go_at_call 60; (first | ((with_reducible refine (Cc1.out _ ?_).mono ?_); (refine hT.behind ?_; repeat (first | with_reducible assumption | with_reducible exact Below.refl _ _ | with_reducible refine Below.drew ?_ | with_reducible refine below_drewN ?_ _ | with_reducible refine bw_alloc ?_ _ | (with_reducible refine bw_set ?_ ?_ _; focus (dsimp only; omega)) | (with_reducible apply bw_behind; with_reducible assumption))))); rintro e wa ⟨rfl, hba⟩; have hra := below_reads hba; have hha := below_holds hba; obtain ⟨ma, hsa⟩ := below_grew hba) | (go_at_call 53; (first | ((with_reducible refine (Cc2.out _ ?_).mono ?_); (refine hT.behind ?_; repeat (first | with_reducible assumption | with_reducible exact Below.refl _ _ | with_reducible refine Below.drew ?_ | with_reducible refine below_drewN ?_ _ | with_reducible refine bw_alloc ?_ _ | (with_reducible refine bw_set ?_ ?_ _; focus (dsimp only; omega)) | (with_reducible apply bw_behind; with_reducible assumption))))); rintro e wb ⟨rfl, hbb⟩; have hrb := below_reads hbb; have hhb := below_holds hbb; obtain ⟨mb, hsb⟩ := below_grew hbb) | (go_at_call 54; (first | ((with_reducible refine (Cc9.out _ ?_).mono ?_); (refine hT.behind ?_; repeat (first | with_reducible assumption | with_reducible exact Below.refl _ _ | with_reducible refine Below.drew ?_ | with_reducible refine below_drewN ?_ _ | with_reducible refine bw_alloc ?_ _ | (with_reducible refine bw_set ?_ ?_ _; focus (dsimp only; omega)) | (with_reducible apply bw_behind; with_reducible assumption))))); rintro e wz ⟨rfl, hbz⟩; have hrz := below_reads hbz; have hhz := below_holds hbz; obtain ⟨mz, hsz⟩ := below_grew hbz))
  refine bodyPost_ret (v := .agg #[.bool t, .int .u64 M2, .int .u64 A2]) (by simp (maxDischargeDepth := 4) [results, Tryd.results22, go_sem, *]) rfl ?_
  refine ⟨rfl, ?_⟩
  repeat (first | with_reducible assumption | with_reducible exact Below.refl _ _ | with_reducible refine Below.drew ?_ | with_reducible refine below_drewN ?_ _ | with_reducible refine bw_alloc ?_ _ | (with_reducible refine bw_set ?_ ?_ _; focus (dsimp only; omega)) | (with_reducible apply bw_behind; with_reducible assumption))

set_option maxHeartbeats 4000000 in
theorem unseal_4 (q r t : Bool) (M A N B M2 A2 K : Int) (c0 : ∀ W, Tab W → Calls Tryd.prog 58 #[.agg #[.bool q, .int .u64 M, .int .u64 A], .func (.func 59) #[] #[]] W (Makes (.int .u64 K) W)) (c1 : ∀ W, Tab W → Calls Tryd.prog 60 #[.agg #[.bool q, .int .u64 M, .int .u64 A]] W (Makes (.bool true) W)) (c2 : ∀ W, Tab W → Calls Tryd.prog 53 #[.agg #[.bool r, .int .u64 N, .int .u64 B], .int .u64 64] W (Makes (.bool true) W)) (c9 : ∀ W, Tab W → Calls Tryd.prog 54 #[.agg #[.bool q, .int .u64 M, .int .u64 A], .bool false, .func (.func 55) #[] #[], .int .u64 0] W (Makes (.agg #[.bool t, .int .u64 M2, .int .u64 A2]) W)) (hK : 16 ≤ K) (hE : (B == K) = false) (w : World) (hT : Tab w) :
    Calls Tryd.prog 22 #[.agg #[.bool q, .int .u64 M, .int .u64 A], .agg #[.bool r, .int .u64 N, .int .u64 B]] w (Makes (.agg #[.bool t, .int .u64 M2, .int .u64 A2]) w) := by
  have Cc0 := hide c0
  have Cc1 := hide c1
  have Cc2 := hide c2
  have Cc9 := hide c9
  clear c0 c1 c2 c9
  have SS := cell_same
  have LB' := ltB_add
  have LS := ltB_self
  have LA' := alloc_reads
  have LH := alloc_holds
  go_enter Tryd.func22, Tryd.ntmps22
  go_wp2_with (first | (go_at_call 58; (first | ((with_reducible refine (Cc0.out _ ?_).mono ?_); (refine hT.behind ?_; repeat (first | with_reducible assumption | with_reducible exact Below.refl _ _ | with_reducible refine Below.drew ?_ | with_reducible refine below_drewN ?_ _ | with_reducible refine bw_alloc ?_ _ | (with_reducible refine bw_set ?_ ?_ _; focus (dsimp only; omega)) | (with_reducible apply bw_behind; with_reducible assumption))))); rintro e wd ⟨rfl, hbd⟩; have hrd := below_reads hbd; have hhd := below_holds hbd; obtain ⟨md, hsd⟩ := below_grew hbd) | (go_at_call 60; (first | ((with_reducible refine (Cc1.out _ ?_).mono ?_); (refine hT.behind ?_; repeat (first | with_reducible assumption | with_reducible exact Below.refl _ _ | with_reducible refine Below.drew ?_ | with_reducible refine below_drewN ?_ _ | with_reducible refine bw_alloc ?_ _ | (with_reducible refine bw_set ?_ ?_ _; focus (dsimp only; omega)) | (with_reducible apply bw_behind; with_reducible assumption))))); rintro e wa ⟨rfl, hba⟩; have hra := below_reads hba; have hha := below_holds hba; obtain ⟨ma, hsa⟩ := below_grew hba) | (go_at_call 53; (first | ((with_reducible refine (Cc2.out _ ?_).mono ?_); (refine hT.behind ?_; repeat (first | with_reducible assumption | with_reducible exact Below.refl _ _ | with_reducible refine Below.drew ?_ | with_reducible refine below_drewN ?_ _ | with_reducible refine bw_alloc ?_ _ | (with_reducible refine bw_set ?_ ?_ _; focus (dsimp only; omega)) | (with_reducible apply bw_behind; with_reducible assumption))))); rintro e wb ⟨rfl, hbb⟩; have hrb := below_reads hbb; have hhb := below_holds hbb; obtain ⟨mb, hsb⟩ := below_grew hbb) | (go_at_call 54; (first | ((with_reducible refine (Cc9.out _ ?_).mono ?_); (refine hT.behind ?_; repeat (first | with_reducible assumption | with_reducible exact Below.refl _ _ | with_reducible refine Below.drew ?_ | with_reducible refine below_drewN ?_ _ | with_reducible refine bw_alloc ?_ _ | (with_reducible refine bw_set ?_ ?_ _; focus (dsimp only; omega)) | (with_reducible apply bw_behind; with_reducible assumption))))); rintro e wz ⟨rfl, hbz⟩; have hrz := below_reads hbz; have hhz := below_holds hbz; obtain ⟨mz, hsz⟩ := below_grew hbz))
  refine bodyPost_ret (v := .agg #[.bool t, .int .u64 M2, .int .u64 A2]) (by simp (maxDischargeDepth := 4) [results, Tryd.results22, go_sem, *]) rfl ?_
  refine ⟨rfl, ?_⟩
  repeat (first | with_reducible assumption | with_reducible exact Below.refl _ _ | with_reducible refine Below.drew ?_ | with_reducible refine below_drewN ?_ _ | with_reducible refine bw_alloc ?_ _ | (with_reducible refine bw_set ?_ ?_ _; focus (dsimp only; omega)) | (with_reducible apply bw_behind; with_reducible assumption))

set_option maxHeartbeats 4000000 in
theorem unseal_5 (q r t : Bool) (M A N B M2 A2 K : Int) (c0 : ∀ W, Tab W → Calls Tryd.prog 58 #[.agg #[.bool q, .int .u64 M, .int .u64 A], .func (.func 59) #[] #[]] W (Makes (.int .u64 K) W)) (c1 : ∀ W, Tab W → Calls Tryd.prog 60 #[.agg #[.bool q, .int .u64 M, .int .u64 A]] W (Makes (.bool true) W)) (c2 : ∀ W, Tab W → Calls Tryd.prog 53 #[.agg #[.bool r, .int .u64 N, .int .u64 B], .int .u64 64] W (Makes (.bool true) W)) (c9 : ∀ W, Tab W → Calls Tryd.prog 54 #[.agg #[.bool q, .int .u64 M, .int .u64 A], .bool true, .func (.func 55) #[] #[], .int .u64 0] W (Makes (.agg #[.bool t, .int .u64 M2, .int .u64 A2]) W)) (hK : 16 ≤ K) (hE : (B == K) = true) (w : World) (hT : Tab w) :
    Calls Tryd.prog 22 #[.agg #[.bool q, .int .u64 M, .int .u64 A], .agg #[.bool r, .int .u64 N, .int .u64 B]] w (Makes (.agg #[.bool t, .int .u64 M2, .int .u64 A2]) w) := by
  have Cc0 := hide c0
  have Cc1 := hide c1
  have Cc2 := hide c2
  have Cc9 := hide c9
  clear c0 c1 c2 c9
  have SS := cell_same
  have LB' := ltB_add
  have LS := ltB_self
  have LA' := alloc_reads
  have LH := alloc_holds
  go_enter Tryd.func22, Tryd.ntmps22
  go_wp2_with (first | (go_at_call 58; (first | ((with_reducible refine (Cc0.out _ ?_).mono ?_); (refine hT.behind ?_; repeat (first | with_reducible assumption | with_reducible exact Below.refl _ _ | with_reducible refine Below.drew ?_ | with_reducible refine below_drewN ?_ _ | with_reducible refine bw_alloc ?_ _ | (with_reducible refine bw_set ?_ ?_ _; focus (dsimp only; omega)) | (with_reducible apply bw_behind; with_reducible assumption))))); rintro e wd ⟨rfl, hbd⟩; have hrd := below_reads hbd; have hhd := below_holds hbd; obtain ⟨md, hsd⟩ := below_grew hbd) | (go_at_call 60; (first | ((with_reducible refine (Cc1.out _ ?_).mono ?_); (refine hT.behind ?_; repeat (first | with_reducible assumption | with_reducible exact Below.refl _ _ | with_reducible refine Below.drew ?_ | with_reducible refine below_drewN ?_ _ | with_reducible refine bw_alloc ?_ _ | (with_reducible refine bw_set ?_ ?_ _; focus (dsimp only; omega)) | (with_reducible apply bw_behind; with_reducible assumption))))); rintro e wa ⟨rfl, hba⟩; have hra := below_reads hba; have hha := below_holds hba; obtain ⟨ma, hsa⟩ := below_grew hba) | (go_at_call 53; (first | ((with_reducible refine (Cc2.out _ ?_).mono ?_); (refine hT.behind ?_; repeat (first | with_reducible assumption | with_reducible exact Below.refl _ _ | with_reducible refine Below.drew ?_ | with_reducible refine below_drewN ?_ _ | with_reducible refine bw_alloc ?_ _ | (with_reducible refine bw_set ?_ ?_ _; focus (dsimp only; omega)) | (with_reducible apply bw_behind; with_reducible assumption))))); rintro e wb ⟨rfl, hbb⟩; have hrb := below_reads hbb; have hhb := below_holds hbb; obtain ⟨mb, hsb⟩ := below_grew hbb) | (go_at_call 54; (first | ((with_reducible refine (Cc9.out _ ?_).mono ?_); (refine hT.behind ?_; repeat (first | with_reducible assumption | with_reducible exact Below.refl _ _ | with_reducible refine Below.drew ?_ | with_reducible refine below_drewN ?_ _ | with_reducible refine bw_alloc ?_ _ | (with_reducible refine bw_set ?_ ?_ _; focus (dsimp only; omega)) | (with_reducible apply bw_behind; with_reducible assumption))))); rintro e wz ⟨rfl, hbz⟩; have hrz := below_reads hbz; have hhz := below_holds hbz; obtain ⟨mz, hsz⟩ := below_grew hbz))
  refine bodyPost_ret (v := .agg #[.bool t, .int .u64 M2, .int .u64 A2]) (by simp (maxDischargeDepth := 4) [results, Tryd.results22, go_sem, *]) rfl ?_
  refine ⟨rfl, ?_⟩
  repeat (first | with_reducible assumption | with_reducible exact Below.refl _ _ | with_reducible refine Below.drew ?_ | with_reducible refine below_drewN ?_ _ | with_reducible refine bw_alloc ?_ _ | (with_reducible refine bw_set ?_ ?_ _; focus (dsimp only; omega)) | (with_reducible apply bw_behind; with_reducible assumption))

set_option maxHeartbeats 4000000 in
theorem enter_1 (q t : Bool) (M A M2 A2 : Int) (c1 : ∀ W, Tab W → Calls Tryd.prog 40 #[.agg #[.bool q, .int .u64 M, .int .u64 A]] W (Makes (.bool false) W)) (c9 : ∀ W, Tab W → Calls Tryd.prog 54 #[.agg #[.bool q, .int .u64 M, .int .u64 A], .bool false, .func (.func 55) #[] #[], .int .u64 1] W (Makes (.agg #[.bool t, .int .u64 M2, .int .u64 A2]) W)) (w : World) (hT : Tab w) :
    Calls Tryd.prog 24 #[.agg #[.bool q, .int .u64 M, .int .u64 A]] w (Makes (.agg #[.bool t, .int .u64 M2, .int .u64 A2]) w) := by
  have Cc1 := hide c1
  have Cc9 := hide c9
  clear c1 c9
  have SS := cell_same
  have LB' := ltB_add
  have LS := ltB_self
  have LA' := alloc_reads
  have LH := alloc_holds
  go_enter Tryd.func24, Tryd.ntmps24
  go_wp2_with (first | (go_at_call 40; (first | ((with_reducible refine (Cc1.out _ ?_).mono ?_); (refine hT.behind ?_; repeat (first | with_reducible assumption | with_reducible exact Below.refl _ _ | with_reducible refine Below.drew ?_ | with_reducible refine below_drewN ?_ _ | with_reducible refine bw_alloc ?_ _ | (with_reducible refine bw_set ?_ ?_ _; focus (dsimp only; omega)) | (with_reducible apply bw_behind; with_reducible assumption))))); rintro e wa ⟨rfl, hba⟩; have hra := below_reads hba; have hha := below_holds hba; obtain ⟨ma, hsa⟩ := below_grew hba) | (go_at_call 54; (first | ((with_reducible refine (Cc9.out _ ?_).mono ?_); (refine hT.behind ?_; repeat (first | with_reducible assumption | with_reducible exact Below.refl _ _ | with_reducible refine Below.drew ?_ | with_reducible refine below_drewN ?_ _ | with_reducible refine bw_alloc ?_ _ | (with_reducible refine bw_set ?_ ?_ _; focus (dsimp only; omega)) | (with_reducible apply bw_behind; with_reducible assumption))))); rintro e wz ⟨rfl, hbz⟩; have hrz := below_reads hbz; have hhz := below_holds hbz; obtain ⟨mz, hsz⟩ := below_grew hbz))
  refine bodyPost_ret (v := .agg #[.bool t, .int .u64 M2, .int .u64 A2]) (by simp (maxDischargeDepth := 4) [results, Tryd.results24, go_sem, *]) rfl ?_
  refine ⟨rfl, ?_⟩
  repeat (first | with_reducible assumption | with_reducible exact Below.refl _ _ | with_reducible refine Below.drew ?_ | with_reducible refine below_drewN ?_ _ | with_reducible refine bw_alloc ?_ _ | (with_reducible refine bw_set ?_ ?_ _; focus (dsimp only; omega)) | (with_reducible apply bw_behind; with_reducible assumption))

set_option maxHeartbeats 4000000 in
theorem enter_2 (q t S : Bool) (M A M2 A2 : Int) (c1 : ∀ W, Tab W → Calls Tryd.prog 40 #[.agg #[.bool q, .int .u64 M, .int .u64 A]] W (Makes (.bool true) W)) (c2 : ∀ W, Tab W → Calls Tryd.prog 63 #[.agg #[.bool q, .int .u64 M, .int .u64 A], .int .u64 4] W (Makes (.bool S) W)) (c9 : ∀ W, Tab W → Calls Tryd.prog 54 #[.agg #[.bool q, .int .u64 M, .int .u64 A], .bool S, .func (.func 55) #[] #[], .int .u64 1] W (Makes (.agg #[.bool t, .int .u64 M2, .int .u64 A2]) W)) (w : World) (hT : Tab w) :
    Calls Tryd.prog 24 #[.agg #[.bool q, .int .u64 M, .int .u64 A]] w (Makes (.agg #[.bool t, .int .u64 M2, .int .u64 A2]) w) := by
  have Cc1 := hide c1
  have Cc2 := hide c2
  have Cc9 := hide c9
  clear c1 c2 c9
  have SS := cell_same
  have LB' := ltB_add
  have LS := ltB_self
  have LA' := alloc_reads
  have LH := alloc_holds
  go_enter Tryd.func24, Tryd.ntmps24
  go_wp2_with (first | (go_at_call 40; (first | ((with_reducible refine (Cc1.out _ ?_).mono ?_); (refine hT.behind ?_; repeat (first | with_reducible assumption | with_reducible exact Below.refl _ _ | with_reducible refine Below.drew ?_ | with_reducible refine below_drewN ?_ _ | with_reducible refine bw_alloc ?_ _ | (with_reducible refine bw_set ?_ ?_ _; focus (dsimp only; omega)) | (with_reducible apply bw_behind; with_reducible assumption))))); rintro e wa ⟨rfl, hba⟩; have hra := below_reads hba; have hha := below_holds hba; obtain ⟨ma, hsa⟩ := below_grew hba) | (go_at_call 63; (first | ((with_reducible refine (Cc2.out _ ?_).mono ?_); (refine hT.behind ?_; repeat (first | with_reducible assumption | with_reducible exact Below.refl _ _ | with_reducible refine Below.drew ?_ | with_reducible refine below_drewN ?_ _ | with_reducible refine bw_alloc ?_ _ | (with_reducible refine bw_set ?_ ?_ _; focus (dsimp only; omega)) | (with_reducible apply bw_behind; with_reducible assumption))))); rintro e wb ⟨rfl, hbb⟩; have hrb := below_reads hbb; have hhb := below_holds hbb; obtain ⟨mb, hsb⟩ := below_grew hbb) | (go_at_call 54; (first | ((with_reducible refine (Cc9.out _ ?_).mono ?_); (refine hT.behind ?_; repeat (first | with_reducible assumption | with_reducible exact Below.refl _ _ | with_reducible refine Below.drew ?_ | with_reducible refine below_drewN ?_ _ | with_reducible refine bw_alloc ?_ _ | (with_reducible refine bw_set ?_ ?_ _; focus (dsimp only; omega)) | (with_reducible apply bw_behind; with_reducible assumption))))); rintro e wz ⟨rfl, hbz⟩; have hrz := below_reads hbz; have hhz := below_holds hbz; obtain ⟨mz, hsz⟩ := below_grew hbz))
  refine bodyPost_ret (v := .agg #[.bool t, .int .u64 M2, .int .u64 A2]) (by simp (maxDischargeDepth := 4) [results, Tryd.results24, go_sem, *]) rfl ?_
  refine ⟨rfl, ?_⟩
  repeat (first | with_reducible assumption | with_reducible exact Below.refl _ _ | with_reducible refine Below.drew ?_ | with_reducible refine below_drewN ?_ _ | with_reducible refine bw_alloc ?_ _ | (with_reducible refine bw_set ?_ ?_ _; focus (dsimp only; omega)) | (with_reducible apply bw_behind; with_reducible assumption))

set_option maxHeartbeats 4000000 in
theorem opened_1 (q : Bool) (M A : Int) (c1 : ∀ W, Tab W → Calls Tryd.prog 60 #[.agg #[.bool q, .int .u64 M, .int .u64 A]] W (Makes (.bool false) W)) (w : World) (hT : Tab w) :
    Calls Tryd.prog 26 #[.agg #[.bool q, .int .u64 M, .int .u64 A]] w (Makes (.agg #[.bool q, .int .u64 M, .int .u64 A]) w) := by
  have Cc1 := hide c1
  clear c1
  have SS := cell_same
  have LB' := ltB_add
  have LS := ltB_self
  have LA' := alloc_reads
  have LH := alloc_holds
  go_enter Tryd.func26, Tryd.ntmps26
  go_wp2_with (first | (go_at_call 60; (first | ((with_reducible refine (Cc1.out _ ?_).mono ?_); (refine hT.behind ?_; repeat (first | with_reducible assumption | with_reducible exact Below.refl _ _ | with_reducible refine Below.drew ?_ | with_reducible refine below_drewN ?_ _ | with_reducible refine bw_alloc ?_ _ | (with_reducible refine bw_set ?_ ?_ _; focus (dsimp only; omega)) | (with_reducible apply bw_behind; with_reducible assumption))))); rintro e wa ⟨rfl, hba⟩; have hra := below_reads hba; have hha := below_holds hba; obtain ⟨ma, hsa⟩ := below_grew hba))
  refine bodyPost_ret (v := .agg #[.bool q, .int .u64 M, .int .u64 A]) (by simp (maxDischargeDepth := 4) [results, Tryd.results26, go_sem, *]) rfl ?_
  refine ⟨rfl, ?_⟩
  repeat (first | with_reducible assumption | with_reducible exact Below.refl _ _ | with_reducible refine Below.drew ?_ | with_reducible refine below_drewN ?_ _ | with_reducible refine bw_alloc ?_ _ | (with_reducible refine bw_set ?_ ?_ _; focus (dsimp only; omega)) | (with_reducible apply bw_behind; with_reducible assumption))

set_option maxHeartbeats 4000000 in
theorem opened_2 (q : Bool) (M A K : Int) (c1 : ∀ W, Tab W → Calls Tryd.prog 60 #[.agg #[.bool q, .int .u64 M, .int .u64 A]] W (Makes (.bool true) W)) (c0 : ∀ W, Tab W → Calls Tryd.prog 58 #[.agg #[.bool q, .int .u64 M, .int .u64 A], .func (.func 59) #[] #[]] W (Makes (.int .u64 K) W)) (hK : (K == 1) = false) (w : World) (hT : Tab w) :
    Calls Tryd.prog 26 #[.agg #[.bool q, .int .u64 M, .int .u64 A]] w (Makes (.agg #[.bool q, .int .u64 M, .int .u64 A]) w) := by
  have Cc1 := hide c1
  have Cc0 := hide c0
  clear c1 c0
  have SS := cell_same
  have LB' := ltB_add
  have LS := ltB_self
  have LA' := alloc_reads
  have LH := alloc_holds
  go_enter Tryd.func26, Tryd.ntmps26
  go_wp2_with (first | (go_at_call 60; (first | ((with_reducible refine (Cc1.out _ ?_).mono ?_); (refine hT.behind ?_; repeat (first | with_reducible assumption | with_reducible exact Below.refl _ _ | with_reducible refine Below.drew ?_ | with_reducible refine below_drewN ?_ _ | with_reducible refine bw_alloc ?_ _ | (with_reducible refine bw_set ?_ ?_ _; focus (dsimp only; omega)) | (with_reducible apply bw_behind; with_reducible assumption))))); rintro e wa ⟨rfl, hba⟩; have hra := below_reads hba; have hha := below_holds hba; obtain ⟨ma, hsa⟩ := below_grew hba) | (go_at_call 58; (first | ((with_reducible refine (Cc0.out _ ?_).mono ?_); (refine hT.behind ?_; repeat (first | with_reducible assumption | with_reducible exact Below.refl _ _ | with_reducible refine Below.drew ?_ | with_reducible refine below_drewN ?_ _ | with_reducible refine bw_alloc ?_ _ | (with_reducible refine bw_set ?_ ?_ _; focus (dsimp only; omega)) | (with_reducible apply bw_behind; with_reducible assumption))))); rintro e wd ⟨rfl, hbd⟩; have hrd := below_reads hbd; have hhd := below_holds hbd; obtain ⟨md, hsd⟩ := below_grew hbd))
  refine bodyPost_ret (v := .agg #[.bool q, .int .u64 M, .int .u64 A]) (by simp (maxDischargeDepth := 4) [results, Tryd.results26, go_sem, *]) rfl ?_
  refine ⟨rfl, ?_⟩
  repeat (first | with_reducible assumption | with_reducible exact Below.refl _ _ | with_reducible refine Below.drew ?_ | with_reducible refine below_drewN ?_ _ | with_reducible refine bw_alloc ?_ _ | (with_reducible refine bw_set ?_ ?_ _; focus (dsimp only; omega)) | (with_reducible apply bw_behind; with_reducible assumption))

set_option maxHeartbeats 4000000 in
theorem opened_3 (q t : Bool) (M A M2 A2 K : Int) (c1 : ∀ W, Tab W → Calls Tryd.prog 60 #[.agg #[.bool q, .int .u64 M, .int .u64 A]] W (Makes (.bool true) W)) (c0 : ∀ W, Tab W → Calls Tryd.prog 58 #[.agg #[.bool q, .int .u64 M, .int .u64 A], .func (.func 59) #[] #[]] W (Makes (.int .u64 K) W)) (c3 : ∀ W, Tab W → Calls Tryd.prog 55 #[.agg #[.bool q, .int .u64 M, .int .u64 A], .int .u64 0] W (Makes (.agg #[.bool t, .int .u64 M2, .int .u64 A2]) W)) (hK : (K == 1) = true) (w : World) (hT : Tab w) :
    Calls Tryd.prog 26 #[.agg #[.bool q, .int .u64 M, .int .u64 A]] w (Makes (.agg #[.bool t, .int .u64 M2, .int .u64 A2]) w) := by
  have Cc1 := hide c1
  have Cc0 := hide c0
  have Cc3 := hide c3
  clear c1 c0 c3
  have SS := cell_same
  have LB' := ltB_add
  have LS := ltB_self
  have LA' := alloc_reads
  have LH := alloc_holds
  go_enter Tryd.func26, Tryd.ntmps26
  go_wp2_with (first | (go_at_call 60; (first | ((with_reducible refine (Cc1.out _ ?_).mono ?_); (refine hT.behind ?_; repeat (first | with_reducible assumption | with_reducible exact Below.refl _ _ | with_reducible refine Below.drew ?_ | with_reducible refine below_drewN ?_ _ | with_reducible refine bw_alloc ?_ _ | (with_reducible refine bw_set ?_ ?_ _; focus (dsimp only; omega)) | (with_reducible apply bw_behind; with_reducible assumption))))); rintro e wa ⟨rfl, hba⟩; have hra := below_reads hba; have hha := below_holds hba; obtain ⟨ma, hsa⟩ := below_grew hba) | (go_at_call 58; (first | ((with_reducible refine (Cc0.out _ ?_).mono ?_); (refine hT.behind ?_; repeat (first | with_reducible assumption | with_reducible exact Below.refl _ _ | with_reducible refine Below.drew ?_ | with_reducible refine below_drewN ?_ _ | with_reducible refine bw_alloc ?_ _ | (with_reducible refine bw_set ?_ ?_ _; focus (dsimp only; omega)) | (with_reducible apply bw_behind; with_reducible assumption))))); rintro e wd ⟨rfl, hbd⟩; have hrd := below_reads hbd; have hhd := below_holds hbd; obtain ⟨md, hsd⟩ := below_grew hbd) | (go_at_call 55; (first | ((with_reducible refine (Cc3.out _ ?_).mono ?_); (refine hT.behind ?_; repeat (first | with_reducible assumption | with_reducible exact Below.refl _ _ | with_reducible refine Below.drew ?_ | with_reducible refine below_drewN ?_ _ | with_reducible refine bw_alloc ?_ _ | (with_reducible refine bw_set ?_ ?_ _; focus (dsimp only; omega)) | (with_reducible apply bw_behind; with_reducible assumption))))); rintro e we ⟨rfl, hbe⟩; have hre := below_reads hbe; have hhe := below_holds hbe; obtain ⟨me, hse⟩ := below_grew hbe))
  refine bodyPost_ret (v := .agg #[.bool t, .int .u64 M2, .int .u64 A2]) (by simp (maxDischargeDepth := 4) [results, Tryd.results26, go_sem, *]) rfl ?_
  refine ⟨rfl, ?_⟩
  repeat (first | with_reducible assumption | with_reducible exact Below.refl _ _ | with_reducible refine Below.drew ?_ | with_reducible refine below_drewN ?_ _ | with_reducible refine bw_alloc ?_ _ | (with_reducible refine bw_set ?_ ?_ _; focus (dsimp only; omega)) | (with_reducible apply bw_behind; with_reducible assumption))

set_option maxHeartbeats 4000000 in
theorem build_1 (q r t : Bool) (M A N B M2 A2 K : Int) (c0 : ∀ W, Tab W → Calls Tryd.prog 58 #[.agg #[.bool q, .int .u64 M, .int .u64 A], .func (.func 59) #[] #[]] W (Makes (.int .u64 K) W)) (c1 : ∀ W, Tab W → Calls Tryd.prog 40 #[.agg #[.bool r, .int .u64 N, .int .u64 B]] W (Makes (.bool false) W)) (c9 : ∀ W, Tab W → Calls Tryd.prog 64 #[.agg #[.bool q, .int .u64 M, .int .u64 A], .bool false, .func (.func 39) #[] #[], .bool true] W (Makes (.agg #[.bool t, .int .u64 M2, .int .u64 A2]) W)) (w : World) (hT : Tab w) :
    Calls Tryd.prog 28 #[.agg #[.bool q, .int .u64 M, .int .u64 A], .agg #[.bool r, .int .u64 N, .int .u64 B]] w (Makes (.agg #[.bool t, .int .u64 M2, .int .u64 A2]) w) := by
  have Cc0 := hide c0
  have Cc1 := hide c1
  have Cc9 := hide c9
  clear c0 c1 c9
  have SS := cell_same
  have LB' := ltB_add
  have LS := ltB_self
  have LA' := alloc_reads
  have LH := alloc_holds
  go_enter Tryd.func28, Tryd.ntmps28
  go_wp2_with (first | (go_at_call 58; (first | ((with_reducible refine (Cc0.out _ ?_).mono ?_); (refine hT.behind ?_; repeat (first | with_reducible assumption | with_reducible exact Below.refl _ _ | with_reducible refine Below.drew ?_ | with_reducible refine below_drewN ?_ _ | with_reducible refine bw_alloc ?_ _ | (with_reducible refine bw_set ?_ ?_ _; focus (dsimp only; omega)) | (with_reducible apply bw_behind; with_reducible assumption))))); rintro e wd ⟨rfl, hbd⟩; have hrd := below_reads hbd; have hhd := below_holds hbd; obtain ⟨md, hsd⟩ := below_grew hbd) | (go_at_call 40; (first | ((with_reducible refine (Cc1.out _ ?_).mono ?_); (refine hT.behind ?_; repeat (first | with_reducible assumption | with_reducible exact Below.refl _ _ | with_reducible refine Below.drew ?_ | with_reducible refine below_drewN ?_ _ | with_reducible refine bw_alloc ?_ _ | (with_reducible refine bw_set ?_ ?_ _; focus (dsimp only; omega)) | (with_reducible apply bw_behind; with_reducible assumption))))); rintro e wa ⟨rfl, hba⟩; have hra := below_reads hba; have hha := below_holds hba; obtain ⟨ma, hsa⟩ := below_grew hba) | (go_at_call 64; (first | ((with_reducible refine (Cc9.out _ ?_).mono ?_); (refine hT.behind ?_; repeat (first | with_reducible assumption | with_reducible exact Below.refl _ _ | with_reducible refine Below.drew ?_ | with_reducible refine below_drewN ?_ _ | with_reducible refine bw_alloc ?_ _ | (with_reducible refine bw_set ?_ ?_ _; focus (dsimp only; omega)) | (with_reducible apply bw_behind; with_reducible assumption))))); rintro e wz ⟨rfl, hbz⟩; have hrz := below_reads hbz; have hhz := below_holds hbz; obtain ⟨mz, hsz⟩ := below_grew hbz))
  refine bodyPost_ret (v := .agg #[.bool t, .int .u64 M2, .int .u64 A2]) (by simp (maxDischargeDepth := 4) [results, Tryd.results28, go_sem, *]) rfl ?_
  refine ⟨rfl, ?_⟩
  repeat (first | with_reducible assumption | with_reducible exact Below.refl _ _ | with_reducible refine Below.drew ?_ | with_reducible refine below_drewN ?_ _ | with_reducible refine bw_alloc ?_ _ | (with_reducible refine bw_set ?_ ?_ _; focus (dsimp only; omega)) | (with_reducible apply bw_behind; with_reducible assumption))

set_option maxHeartbeats 4000000 in
theorem build_2 (q r t : Bool) (M A N B M2 A2 K : Int) (c0 : ∀ W, Tab W → Calls Tryd.prog 58 #[.agg #[.bool q, .int .u64 M, .int .u64 A], .func (.func 59) #[] #[]] W (Makes (.int .u64 K) W)) (c1 : ∀ W, Tab W → Calls Tryd.prog 40 #[.agg #[.bool r, .int .u64 N, .int .u64 B]] W (Makes (.bool true) W)) (c2 : ∀ W, Tab W → Calls Tryd.prog 31 #[.agg #[.bool q, .int .u64 M, .int .u64 A], .agg #[.bool r, .int .u64 N, .int .u64 B]] W (Makes (.bool false) W)) (c9 : ∀ W, Tab W → Calls Tryd.prog 64 #[.agg #[.bool q, .int .u64 M, .int .u64 A], .bool false, .func (.func 39) #[] #[], .bool true] W (Makes (.agg #[.bool t, .int .u64 M2, .int .u64 A2]) W)) (w : World) (hT : Tab w) :
    Calls Tryd.prog 28 #[.agg #[.bool q, .int .u64 M, .int .u64 A], .agg #[.bool r, .int .u64 N, .int .u64 B]] w (Makes (.agg #[.bool t, .int .u64 M2, .int .u64 A2]) w) := by
  have Cc0 := hide c0
  have Cc1 := hide c1
  have Cc2 := hide c2
  have Cc9 := hide c9
  clear c0 c1 c2 c9
  have SS := cell_same
  have LB' := ltB_add
  have LS := ltB_self
  have LA' := alloc_reads
  have LH := alloc_holds
  go_enter Tryd.func28, Tryd.ntmps28
  go_wp2_with (first | (go_at_call 58; (first | ((with_reducible refine (Cc0.out _ ?_).mono ?_); (refine hT.behind ?_; repeat (first | with_reducible assumption | with_reducible exact Below.refl _ _ | with_reducible refine Below.drew ?_ | with_reducible refine below_drewN ?_ _ | with_reducible refine bw_alloc ?_ _ | (with_reducible refine bw_set ?_ ?_ _; focus (dsimp only; omega)) | (with_reducible apply bw_behind; with_reducible assumption))))); rintro e wd ⟨rfl, hbd⟩; have hrd := below_reads hbd; have hhd := below_holds hbd; obtain ⟨md, hsd⟩ := below_grew hbd) | (go_at_call 40; (first | ((with_reducible refine (Cc1.out _ ?_).mono ?_); (refine hT.behind ?_; repeat (first | with_reducible assumption | with_reducible exact Below.refl _ _ | with_reducible refine Below.drew ?_ | with_reducible refine below_drewN ?_ _ | with_reducible refine bw_alloc ?_ _ | (with_reducible refine bw_set ?_ ?_ _; focus (dsimp only; omega)) | (with_reducible apply bw_behind; with_reducible assumption))))); rintro e wa ⟨rfl, hba⟩; have hra := below_reads hba; have hha := below_holds hba; obtain ⟨ma, hsa⟩ := below_grew hba) | (go_at_call 31; (first | ((with_reducible refine (Cc2.out _ ?_).mono ?_); (refine hT.behind ?_; repeat (first | with_reducible assumption | with_reducible exact Below.refl _ _ | with_reducible refine Below.drew ?_ | with_reducible refine below_drewN ?_ _ | with_reducible refine bw_alloc ?_ _ | (with_reducible refine bw_set ?_ ?_ _; focus (dsimp only; omega)) | (with_reducible apply bw_behind; with_reducible assumption))))); rintro e wb ⟨rfl, hbb⟩; have hrb := below_reads hbb; have hhb := below_holds hbb; obtain ⟨mb, hsb⟩ := below_grew hbb) | (go_at_call 64; (first | ((with_reducible refine (Cc9.out _ ?_).mono ?_); (refine hT.behind ?_; repeat (first | with_reducible assumption | with_reducible exact Below.refl _ _ | with_reducible refine Below.drew ?_ | with_reducible refine below_drewN ?_ _ | with_reducible refine bw_alloc ?_ _ | (with_reducible refine bw_set ?_ ?_ _; focus (dsimp only; omega)) | (with_reducible apply bw_behind; with_reducible assumption))))); rintro e wz ⟨rfl, hbz⟩; have hrz := below_reads hbz; have hhz := below_holds hbz; obtain ⟨mz, hsz⟩ := below_grew hbz))
  refine bodyPost_ret (v := .agg #[.bool t, .int .u64 M2, .int .u64 A2]) (by simp (maxDischargeDepth := 4) [results, Tryd.results28, go_sem, *]) rfl ?_
  refine ⟨rfl, ?_⟩
  repeat (first | with_reducible assumption | with_reducible exact Below.refl _ _ | with_reducible refine Below.drew ?_ | with_reducible refine below_drewN ?_ _ | with_reducible refine bw_alloc ?_ _ | (with_reducible refine bw_set ?_ ?_ _; focus (dsimp only; omega)) | (with_reducible apply bw_behind; with_reducible assumption))

set_option maxHeartbeats 4000000 in
theorem build_3 (q r t : Bool) (M A N B M2 A2 K : Int) (c0 : ∀ W, Tab W → Calls Tryd.prog 58 #[.agg #[.bool q, .int .u64 M, .int .u64 A], .func (.func 59) #[] #[]] W (Makes (.int .u64 K) W)) (c1 : ∀ W, Tab W → Calls Tryd.prog 40 #[.agg #[.bool r, .int .u64 N, .int .u64 B]] W (Makes (.bool true) W)) (c2 : ∀ W, Tab W → Calls Tryd.prog 31 #[.agg #[.bool q, .int .u64 M, .int .u64 A], .agg #[.bool r, .int .u64 N, .int .u64 B]] W (Makes (.bool true) W)) (c9 : ∀ W, Tab W → Calls Tryd.prog 64 #[.agg #[.bool q, .int .u64 M, .int .u64 A], .bool true, .func (.func 39) #[] #[], .bool true] W (Makes (.agg #[.bool t, .int .u64 M2, .int .u64 A2]) W)) (hK : (K == 0) = true) (w : World) (hT : Tab w) :
    Calls Tryd.prog 28 #[.agg #[.bool q, .int .u64 M, .int .u64 A], .agg #[.bool r, .int .u64 N, .int .u64 B]] w (Makes (.agg #[.bool t, .int .u64 M2, .int .u64 A2]) w) := by
  have Cc0 := hide c0
  have Cc1 := hide c1
  have Cc2 := hide c2
  have Cc9 := hide c9
  clear c0 c1 c2 c9
  have SS := cell_same
  have LB' := ltB_add
  have LS := ltB_self
  have LA' := alloc_reads
  have LH := alloc_holds
  go_enter Tryd.func28, Tryd.ntmps28
  go_wp2_with (first | (go_at_call 58; (first | ((with_reducible refine (Cc0.out _ ?_).mono ?_); (refine hT.behind ?_; repeat (first | with_reducible assumption | with_reducible exact Below.refl _ _ | with_reducible refine Below.drew ?_ | with_reducible refine below_drewN ?_ _ | with_reducible refine bw_alloc ?_ _ | (with_reducible refine bw_set ?_ ?_ _; focus (dsimp only; omega)) | (with_reducible apply bw_behind; with_reducible assumption))))); rintro e wd ⟨rfl, hbd⟩; have hrd := below_reads hbd; have hhd := below_holds hbd; obtain ⟨md, hsd⟩ := below_grew hbd) | (go_at_call 40; (first | ((with_reducible refine (Cc1.out _ ?_).mono ?_); (refine hT.behind ?_; repeat (first | with_reducible assumption | with_reducible exact Below.refl _ _ | with_reducible refine Below.drew ?_ | with_reducible refine below_drewN ?_ _ | with_reducible refine bw_alloc ?_ _ | (with_reducible refine bw_set ?_ ?_ _; focus (dsimp only; omega)) | (with_reducible apply bw_behind; with_reducible assumption))))); rintro e wa ⟨rfl, hba⟩; have hra := below_reads hba; have hha := below_holds hba; obtain ⟨ma, hsa⟩ := below_grew hba) | (go_at_call 31; (first | ((with_reducible refine (Cc2.out _ ?_).mono ?_); (refine hT.behind ?_; repeat (first | with_reducible assumption | with_reducible exact Below.refl _ _ | with_reducible refine Below.drew ?_ | with_reducible refine below_drewN ?_ _ | with_reducible refine bw_alloc ?_ _ | (with_reducible refine bw_set ?_ ?_ _; focus (dsimp only; omega)) | (with_reducible apply bw_behind; with_reducible assumption))))); rintro e wb ⟨rfl, hbb⟩; have hrb := below_reads hbb; have hhb := below_holds hbb; obtain ⟨mb, hsb⟩ := below_grew hbb) | (go_at_call 64; (first | ((with_reducible refine (Cc9.out _ ?_).mono ?_); (refine hT.behind ?_; repeat (first | with_reducible assumption | with_reducible exact Below.refl _ _ | with_reducible refine Below.drew ?_ | with_reducible refine below_drewN ?_ _ | with_reducible refine bw_alloc ?_ _ | (with_reducible refine bw_set ?_ ?_ _; focus (dsimp only; omega)) | (with_reducible apply bw_behind; with_reducible assumption))))); rintro e wz ⟨rfl, hbz⟩; have hrz := below_reads hbz; have hhz := below_holds hbz; obtain ⟨mz, hsz⟩ := below_grew hbz))
  refine bodyPost_ret (v := .agg #[.bool t, .int .u64 M2, .int .u64 A2]) (by simp (maxDischargeDepth := 4) [results, Tryd.results28, go_sem, *]) rfl ?_
  refine ⟨rfl, ?_⟩
  repeat (first | with_reducible assumption | with_reducible exact Below.refl _ _ | with_reducible refine Below.drew ?_ | with_reducible refine below_drewN ?_ _ | with_reducible refine bw_alloc ?_ _ | (with_reducible refine bw_set ?_ ?_ _; focus (dsimp only; omega)) | (with_reducible apply bw_behind; with_reducible assumption))

set_option maxHeartbeats 4000000 in
theorem build_4 (q r t Z : Bool) (M A N B M2 A2 K : Int) (c0 : ∀ W, Tab W → Calls Tryd.prog 58 #[.agg #[.bool q, .int .u64 M, .int .u64 A], .func (.func 59) #[] #[]] W (Makes (.int .u64 K) W)) (c1 : ∀ W, Tab W → Calls Tryd.prog 40 #[.agg #[.bool r, .int .u64 N, .int .u64 B]] W (Makes (.bool true) W)) (c2 : ∀ W, Tab W → Calls Tryd.prog 31 #[.agg #[.bool q, .int .u64 M, .int .u64 A], .agg #[.bool r, .int .u64 N, .int .u64 B]] W (Makes (.bool true) W)) (c9 : ∀ W, Tab W → Calls Tryd.prog 64 #[.agg #[.bool q, .int .u64 M, .int .u64 A], .bool Z, .func (.func 39) #[] #[], .bool true] W (Makes (.agg #[.bool t, .int .u64 M2, .int .u64 A2]) W)) (hK : (K == 0) = false) (hZ : (K == 1) = Z) (w : World) (hT : Tab w) :
    Calls Tryd.prog 28 #[.agg #[.bool q, .int .u64 M, .int .u64 A], .agg #[.bool r, .int .u64 N, .int .u64 B]] w (Makes (.agg #[.bool t, .int .u64 M2, .int .u64 A2]) w) := by
  have Cc0 := hide c0
  have Cc1 := hide c1
  have Cc2 := hide c2
  have Cc9 := hide c9
  clear c0 c1 c2 c9
  have SS := cell_same
  have LB' := ltB_add
  have LS := ltB_self
  have LA' := alloc_reads
  have LH := alloc_holds
  go_enter Tryd.func28, Tryd.ntmps28
  go_wp2_with (first | (go_at_call 58; (first | ((with_reducible refine (Cc0.out _ ?_).mono ?_); (refine hT.behind ?_; repeat (first | with_reducible assumption | with_reducible exact Below.refl _ _ | with_reducible refine Below.drew ?_ | with_reducible refine below_drewN ?_ _ | with_reducible refine bw_alloc ?_ _ | (with_reducible refine bw_set ?_ ?_ _; focus (dsimp only; omega)) | (with_reducible apply bw_behind; with_reducible assumption))))); rintro e wd ⟨rfl, hbd⟩; have hrd := below_reads hbd; have hhd := below_holds hbd; obtain ⟨md, hsd⟩ := below_grew hbd) | (go_at_call 40; (first | ((with_reducible refine (Cc1.out _ ?_).mono ?_); (refine hT.behind ?_; repeat (first | with_reducible assumption | with_reducible exact Below.refl _ _ | with_reducible refine Below.drew ?_ | with_reducible refine below_drewN ?_ _ | with_reducible refine bw_alloc ?_ _ | (with_reducible refine bw_set ?_ ?_ _; focus (dsimp only; omega)) | (with_reducible apply bw_behind; with_reducible assumption))))); rintro e wa ⟨rfl, hba⟩; have hra := below_reads hba; have hha := below_holds hba; obtain ⟨ma, hsa⟩ := below_grew hba) | (go_at_call 31; (first | ((with_reducible refine (Cc2.out _ ?_).mono ?_); (refine hT.behind ?_; repeat (first | with_reducible assumption | with_reducible exact Below.refl _ _ | with_reducible refine Below.drew ?_ | with_reducible refine below_drewN ?_ _ | with_reducible refine bw_alloc ?_ _ | (with_reducible refine bw_set ?_ ?_ _; focus (dsimp only; omega)) | (with_reducible apply bw_behind; with_reducible assumption))))); rintro e wb ⟨rfl, hbb⟩; have hrb := below_reads hbb; have hhb := below_holds hbb; obtain ⟨mb, hsb⟩ := below_grew hbb) | (go_at_call 64; (first | ((with_reducible refine (Cc9.out _ ?_).mono ?_); (refine hT.behind ?_; repeat (first | with_reducible assumption | with_reducible exact Below.refl _ _ | with_reducible refine Below.drew ?_ | with_reducible refine below_drewN ?_ _ | with_reducible refine bw_alloc ?_ _ | (with_reducible refine bw_set ?_ ?_ _; focus (dsimp only; omega)) | (with_reducible apply bw_behind; with_reducible assumption))))); rintro e wz ⟨rfl, hbz⟩; have hrz := below_reads hbz; have hhz := below_holds hbz; obtain ⟨mz, hsz⟩ := below_grew hbz))
  refine bodyPost_ret (v := .agg #[.bool t, .int .u64 M2, .int .u64 A2]) (by simp (maxDischargeDepth := 4) [results, Tryd.results28, go_sem, *]) rfl ?_
  refine ⟨rfl, ?_⟩
  repeat (first | with_reducible assumption | with_reducible exact Below.refl _ _ | with_reducible refine Below.drew ?_ | with_reducible refine below_drewN ?_ _ | with_reducible refine bw_alloc ?_ _ | (with_reducible refine bw_set ?_ ?_ _; focus (dsimp only; omega)) | (with_reducible apply bw_behind; with_reducible assumption))
end Go.Proofs.YtbncoiejbclpjaaDoor
