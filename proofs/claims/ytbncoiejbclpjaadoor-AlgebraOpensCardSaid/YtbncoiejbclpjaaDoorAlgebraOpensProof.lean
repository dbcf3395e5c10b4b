/-
  AlgebraOpens holds: for every c, with and n the law returns true and turns nothing that was there, where the tables of what each access needs and of the fields' places hold what the program's text lays.
-/
import Derived.Test.YtbncoiejbclpjaaDoorAlgLaid
import Derived.Test.YtbncoiejbclpjaaDoorAlgLaw
namespace Go.Proofs.YtbncoiejbclpjaaDoor.AlgebraOpens
open Go.RowKit Words FieldMath BoundsMath

theorem field_tag (q : Bool) (M A : Int) (W : World) : (Instr.field 24 (.agg #[.bool q, .int .u64 M, .int .u64 A]) 0).run Tryd.prog W = .ok (.bool q) W := by kernel_rfl

theorem ne_cap (q r : Bool) (M A N B : Int) : ∀ W, (binOp .neq 24 (.agg #[.bool q, .int .u64 M, .int .u64 A]) (.agg #[.bool r, .int .u64 N, .int .u64 B])).run Tryd.prog W = .ok (.bool (!decide (q = r ∧ M = N ∧ A = B))) W := by
  intro W
  by_cases h1 : q = r <;> by_cases h2 : M = N <;> by_cases h3 : A = B <;> simp [go_sem, h1, h2, h3]

set_option maxRecDepth 100000 in
set_option maxHeartbeats 4000000 in
theorem walk_1 (q r : Bool) (M A N B X M1 : Int) (c1 : ∀ W, Tabs W → Calls Tryd.prog 20 #[.agg #[.bool q, .int .u64 M, .int .u64 A], .agg #[.bool r, .int .u64 N, .int .u64 B]] W (Makes (.agg #[.bool false, .int .u64 M1, .int .u64 A]) W)) (cO : ∀ W, Tabs W → Calls Tryd.prog 19 #[] W (Makes (.bool true) W)) (w : World) (hT : Tabs w) :
    Calls Tryd.prog 6 #[.agg #[.bool q, .int .u64 M, .int .u64 A], .agg #[.bool r, .int .u64 N, .int .u64 B], .int .u64 X] w (Makes (.bool true) w) := by
  have Cc1 := hide c1
  have CcO := hide cO
  clear c1 cO
  have SS := cell_same
  have LB' := ltB_add
  have LS := ltB_self
  have LA' := alloc_reads
  have LH := alloc_holds
  go_enter Tryd.func6, Tryd.ntmps6
  go_wp2_with (first | (go_at_call 20; (first | ((with_reducible refine (Cc1.out _ ?_).mono ?_); (refine hT.behind ?_; repeat (first | with_reducible assumption | with_reducible exact Below.refl _ _ | with_reducible refine Below.drew ?_ | with_reducible refine below_drewN ?_ _ | with_reducible refine bw_alloc ?_ _ | (with_reducible refine bw_set ?_ ?_ _; focus (dsimp only; omega)) | (with_reducible apply bw_behind; with_reducible assumption))))); rintro e wa ⟨rfl, hba⟩; have hra := below_reads hba; have hha := below_holds hba; obtain ⟨ma, hsa⟩ := below_grew hba) | (go_at_call 19; (first | ((with_reducible refine (CcO.out _ ?_).mono ?_); (refine hT.behind ?_; repeat (first | with_reducible assumption | with_reducible exact Below.refl _ _ | with_reducible refine Below.drew ?_ | with_reducible refine below_drewN ?_ _ | with_reducible refine bw_alloc ?_ _ | (with_reducible refine bw_set ?_ ?_ _; focus (dsimp only; omega)) | (with_reducible apply bw_behind; with_reducible assumption))))); rintro e wz ⟨rfl, hbz⟩; have hrz := below_reads hbz; have hhz := below_holds hbz; obtain ⟨mz, hsz⟩ := below_grew hbz))
  refine bodyPost_ret (v := .bool true) (by simp (maxDischargeDepth := 4) [results, Tryd.results6, go_sem, *]) rfl ?_
  refine ⟨rfl, ?_⟩
  repeat (first | with_reducible assumption | with_reducible exact Below.refl _ _ | with_reducible refine Below.drew ?_ | with_reducible refine below_drewN ?_ _ | with_reducible refine bw_alloc ?_ _ | (with_reducible refine bw_set ?_ ?_ _; focus (dsimp only; omega)) | (with_reducible apply bw_behind; with_reducible assumption))

set_option maxRecDepth 100000 in
set_option maxHeartbeats 8000000 in
theorem walk_nn (q r LO O2 : Bool) (M A N B X M1 M3 M4 M5 M6 M11 D U P K M8 : Int) (c1 : ∀ W, Tabs W → Calls Tryd.prog 20 #[.agg #[.bool q, .int .u64 M, .int .u64 A], .agg #[.bool r, .int .u64 N, .int .u64 B]] W (Makes (.agg #[.bool true, .int .u64 M1, .int .u64 A]) W)) (cO : ∀ W, Tabs W → Calls Tryd.prog 19 #[] W (Makes (.bool true) W)) (c2 : ∀ W, Tabs W → Calls Tryd.prog 12 #[.agg #[.bool true, .int .u64 M1, .int .u64 A], .int .u64 X] W (Makes (.agg #[.bool false, .int .u64 M1, .int .u64 X]) W)) (c3 : ∀ W, Tabs W → Calls Tryd.prog 15 #[.agg #[.bool true, .int .u64 M1, .int .u64 A], .int .u64 X, .bool false] W (Makes (.agg #[.bool false, .int .u64 M3, .int .u64 A]) W)) (c4 : ∀ W, Tabs W → Calls Tryd.prog 17 #[.agg #[.bool true, .int .u64 M1, .int .u64 A], .int .u64 X] W (Makes (.agg #[.bool false, .int .u64 M4, .int .u64 A]) W)) (c5 : ∀ W, Tabs W → Calls Tryd.prog 24 #[.agg #[.bool true, .int .u64 M1, .int .u64 A]] W (Makes (.agg #[.bool false, .int .u64 M5, .int .u64 A]) W)) (c6 : ∀ W, Tabs W → Calls Tryd.prog 20 #[.agg #[.bool true, .int .u64 M1, .int .u64 A], .agg #[.bool r, .int .u64 N, .int .u64 B]] W (Makes (.agg #[.bool false, .int .u64 M6, .int .u64 A]) W)) (c7 : ∀ W, Tabs W → Calls Tryd.prog 32 #[.agg #[.bool true, .int .u64 M1, .int .u64 A], .int .i64 1, .int .u64 0] W (Makes (.int .i64 2) W)) (c8 : ∀ W, Tabs W → Calls Tryd.prog 22 #[.agg #[.bool true, .int .u64 M1, .int .u64 A], .agg #[.bool r, .int .u64 N, .int .u64 B]] W (Makes (.agg #[.bool false, .int .u64 M8, .int .u64 A]) W)) (c9 : ∀ W, Tabs W → Calls Tryd.prog 33 #[.agg #[.bool r, .int .u64 N, .int .u64 B]] W (Makes (.tuple #[.agg #[.int .u64 D, .int .u64 U, .int .u64 P, .int .u64 K], .bool LO]) W)) (c10 : ∀ W, Tabs W → Calls Tryd.prog 12 #[.agg #[.bool r, .int .u64 N, .int .u64 B], .int .u64 X] W (Makes (.agg #[.bool O2, .int .u64 N, .int .u64 X]) W)) (c11 : ∀ W, Tabs W → Calls Tryd.prog 22 #[.agg #[.bool true, .int .u64 M1, .int .u64 A], .agg #[.bool O2, .int .u64 N, .int .u64 X]] W (Makes (.agg #[.bool false, .int .u64 M11, .int .u64 A]) W)) (hX : bits .and .u64 P 64 = 0) (w : World) (hT : Tabs w) :
    Calls Tryd.prog 6 #[.agg #[.bool q, .int .u64 M, .int .u64 A], .agg #[.bool r, .int .u64 N, .int .u64 B], .int .u64 X] w (Makes (.bool true) w) := by
  have Cc1 := hide c1
  have CcO := hide cO
  have Cc2 := hide c2
  have Cc3 := hide c3
  have Cc4 := hide c4
  have Cc5 := hide c5
  have Cc6 := hide c6
  have Cc7 := hide c7
  have Cc8 := hide c8
  have Cc9 := hide c9
  have Cc10 := hide c10
  have Cc11 := hide c11
  clear c1 cO c2 c3 c4 c5 c6 c7 c8 c9 c10 c11
  have FT := field_tag
  have SS := cell_same
  have LB' := ltB_add
  have LS := ltB_self
  have LA' := alloc_reads
  have LH := alloc_holds
  go_enter Tryd.func6, Tryd.ntmps6
  go_wp2_with (first | (go_at_call 20; (first | ((with_reducible refine (Cc1.out _ ?_).mono ?_); (refine hT.behind ?_; repeat (first | with_reducible assumption | with_reducible exact Below.refl _ _ | with_reducible refine Below.drew ?_ | with_reducible refine below_drewN ?_ _ | with_reducible refine bw_alloc ?_ _ | (with_reducible refine bw_set ?_ ?_ _; focus (dsimp only; omega)) | (with_reducible apply bw_behind; with_reducible assumption)))) | ((with_reducible refine (Cc6.out _ ?_).mono ?_); (refine hT.behind ?_; repeat (first | with_reducible assumption | with_reducible exact Below.refl _ _ | with_reducible refine Below.drew ?_ | with_reducible refine below_drewN ?_ _ | with_reducible refine bw_alloc ?_ _ | (with_reducible refine bw_set ?_ ?_ _; focus (dsimp only; omega)) | (with_reducible apply bw_behind; with_reducible assumption))))); rintro e wa ⟨rfl, hba⟩; have hra := below_reads hba; have hha := below_holds hba; obtain ⟨ma, hsa⟩ := below_grew hba) | (go_at_call 12; (first | ((with_reducible refine (Cc2.out _ ?_).mono ?_); (refine hT.behind ?_; repeat (first | with_reducible assumption | with_reducible exact Below.refl _ _ | with_reducible refine Below.drew ?_ | with_reducible refine below_drewN ?_ _ | with_reducible refine bw_alloc ?_ _ | (with_reducible refine bw_set ?_ ?_ _; focus (dsimp only; omega)) | (with_reducible apply bw_behind; with_reducible assumption)))) | ((with_reducible refine (Cc10.out _ ?_).mono ?_); (refine hT.behind ?_; repeat (first | with_reducible assumption | with_reducible exact Below.refl _ _ | with_reducible refine Below.drew ?_ | with_reducible refine below_drewN ?_ _ | with_reducible refine bw_alloc ?_ _ | (with_reducible refine bw_set ?_ ?_ _; focus (dsimp only; omega)) | (with_reducible apply bw_behind; with_reducible assumption))))); rintro e wb ⟨rfl, hbb⟩; have hrb := below_reads hbb; have hhb := below_holds hbb; obtain ⟨mb, hsb⟩ := below_grew hbb) | (go_at_call 15; (first | ((with_reducible refine (Cc3.out _ ?_).mono ?_); (refine hT.behind ?_; repeat (first | with_reducible assumption | with_reducible exact Below.refl _ _ | with_reducible refine Below.drew ?_ | with_reducible refine below_drewN ?_ _ | with_reducible refine bw_alloc ?_ _ | (with_reducible refine bw_set ?_ ?_ _; focus (dsimp only; omega)) | (with_reducible apply bw_behind; with_reducible assumption))))); rintro e wd ⟨rfl, hbd⟩; have hrd := below_reads hbd; have hhd := below_holds hbd; obtain ⟨md, hsd⟩ := below_grew hbd) | (go_at_call 17; (first | ((with_reducible refine (Cc4.out _ ?_).mono ?_); (refine hT.behind ?_; repeat (first | with_reducible assumption | with_reducible exact Below.refl _ _ | with_reducible refine Below.drew ?_ | with_reducible refine below_drewN ?_ _ | with_reducible refine bw_alloc ?_ _ | (with_reducible refine bw_set ?_ ?_ _; focus (dsimp only; omega)) | (with_reducible apply bw_behind; with_reducible assumption))))); rintro e we ⟨rfl, hbe⟩; have hre := below_reads hbe; have hhe := below_holds hbe; obtain ⟨me, hse⟩ := below_grew hbe) | (go_at_call 24; (first | ((with_reducible refine (Cc5.out _ ?_).mono ?_); (refine hT.behind ?_; repeat (first | with_reducible assumption | with_reducible exact Below.refl _ _ | with_reducible refine Below.drew ?_ | with_reducible refine below_drewN ?_ _ | with_reducible refine bw_alloc ?_ _ | (with_reducible refine bw_set ?_ ?_ _; focus (dsimp only; omega)) | (with_reducible apply bw_behind; with_reducible assumption))))); rintro e wf ⟨rfl, hbf⟩; have hrf := below_reads hbf; have hhf := below_holds hbf; obtain ⟨mf, hsf⟩ := below_grew hbf) | (go_at_call 32; (first | ((with_reducible refine (Cc7.out _ ?_).mono ?_); (refine hT.behind ?_; repeat (first | with_reducible assumption | with_reducible exact Below.refl _ _ | with_reducible refine Below.drew ?_ | with_reducible refine below_drewN ?_ _ | with_reducible refine bw_alloc ?_ _ | (with_reducible refine bw_set ?_ ?_ _; focus (dsimp only; omega)) | (with_reducible apply bw_behind; with_reducible assumption))))); rintro e wg ⟨rfl, hbg⟩; have hrg := below_reads hbg; have hhg := below_holds hbg; obtain ⟨mg, hsg⟩ := below_grew hbg) | (go_at_call 22; (first | ((with_reducible refine (Cc8.out _ ?_).mono ?_); (refine hT.behind ?_; repeat (first | with_reducible assumption | with_reducible exact Below.refl _ _ | with_reducible refine Below.drew ?_ | with_reducible refine below_drewN ?_ _ | with_reducible refine bw_alloc ?_ _ | (with_reducible refine bw_set ?_ ?_ _; focus (dsimp only; omega)) | (with_reducible apply bw_behind; with_reducible assumption)))) | ((with_reducible refine (Cc11.out _ ?_).mono ?_); (refine hT.behind ?_; repeat (first | with_reducible assumption | with_reducible exact Below.refl _ _ | with_reducible refine Below.drew ?_ | with_reducible refine below_drewN ?_ _ | with_reducible refine bw_alloc ?_ _ | (with_reducible refine bw_set ?_ ?_ _; focus (dsimp only; omega)) | (with_reducible apply bw_behind; with_reducible assumption))))); rintro e wh ⟨rfl, hbh⟩; have hrh := below_reads hbh; have hhh := below_holds hbh; obtain ⟨mh, hsh⟩ := below_grew hbh) | (go_at_call 33; (first | ((with_reducible refine (Cc9.out _ ?_).mono ?_); (refine hT.behind ?_; repeat (first | with_reducible assumption | with_reducible exact Below.refl _ _ | with_reducible refine Below.drew ?_ | with_reducible refine below_drewN ?_ _ | with_reducible refine bw_alloc ?_ _ | (with_reducible refine bw_set ?_ ?_ _; focus (dsimp only; omega)) | (with_reducible apply bw_behind; with_reducible assumption))))); rintro e wk ⟨rfl, hbk⟩; have hrk := below_reads hbk; have hhk := below_holds hbk; obtain ⟨mk, hsk⟩ := below_grew hbk) | (go_at_call 19; (first | ((with_reducible refine (CcO.out _ ?_).mono ?_); (refine hT.behind ?_; repeat (first | with_reducible assumption | with_reducible exact Below.refl _ _ | with_reducible refine Below.drew ?_ | with_reducible refine below_drewN ?_ _ | with_reducible refine bw_alloc ?_ _ | (with_reducible refine bw_set ?_ ?_ _; focus (dsimp only; omega)) | (with_reducible apply bw_behind; with_reducible assumption))))); rintro e wz ⟨rfl, hbz⟩; have hrz := below_reads hbz; have hhz := below_holds hbz; obtain ⟨mz, hsz⟩ := below_grew hbz))
  refine bodyPost_ret (v := .bool true) (by simp (maxDischargeDepth := 4) [results, Tryd.results6, go_sem, *]) rfl ?_
  refine ⟨rfl, ?_⟩
  repeat (first | with_reducible assumption | with_reducible exact Below.refl _ _ | with_reducible refine Below.drew ?_ | with_reducible refine below_drewN ?_ _ | with_reducible refine bw_alloc ?_ _ | (with_reducible refine bw_set ?_ ?_ _; focus (dsimp only; omega)) | (with_reducible apply bw_behind; with_reducible assumption))

set_option maxRecDepth 100000 in
set_option maxHeartbeats 8000000 in
theorem walk_ny (q r LO : Bool) (M A N B M1 M3 M4 M5 M6 M11 D U P K M8 : Int) (c1 : ∀ W, Tabs W → Calls Tryd.prog 20 #[.agg #[.bool q, .int .u64 M, .int .u64 A], .agg #[.bool r, .int .u64 N, .int .u64 B]] W (Makes (.agg #[.bool true, .int .u64 M1, .int .u64 A]) W)) (cO : ∀ W, Tabs W → Calls Tryd.prog 19 #[] W (Makes (.bool true) W)) (c2 : ∀ W, Tabs W → Calls Tryd.prog 12 #[.agg #[.bool true, .int .u64 M1, .int .u64 A], .int .u64 B] W (Makes (.agg #[.bool false, .int .u64 M1, .int .u64 B]) W)) (c3 : ∀ W, Tabs W → Calls Tryd.prog 15 #[.agg #[.bool true, .int .u64 M1, .int .u64 A], .int .u64 B, .bool false] W (Makes (.agg #[.bool false, .int .u64 M3, .int .u64 A]) W)) (c4 : ∀ W, Tabs W → Calls Tryd.prog 17 #[.agg #[.bool true, .int .u64 M1, .int .u64 A], .int .u64 B] W (Makes (.agg #[.bool false, .int .u64 M4, .int .u64 A]) W)) (c5 : ∀ W, Tabs W → Calls Tryd.prog 24 #[.agg #[.bool true, .int .u64 M1, .int .u64 A]] W (Makes (.agg #[.bool false, .int .u64 M5, .int .u64 A]) W)) (c6 : ∀ W, Tabs W → Calls Tryd.prog 20 #[.agg #[.bool true, .int .u64 M1, .int .u64 A], .agg #[.bool r, .int .u64 N, .int .u64 B]] W (Makes (.agg #[.bool false, .int .u64 M6, .int .u64 A]) W)) (c7 : ∀ W, Tabs W → Calls Tryd.prog 32 #[.agg #[.bool true, .int .u64 M1, .int .u64 A], .int .i64 1, .int .u64 0] W (Makes (.int .i64 2) W)) (c8 : ∀ W, Tabs W → Calls Tryd.prog 22 #[.agg #[.bool true, .int .u64 M1, .int .u64 A], .agg #[.bool r, .int .u64 N, .int .u64 B]] W (Makes (.agg #[.bool false, .int .u64 M8, .int .u64 A]) W)) (c9 : ∀ W, Tabs W → Calls Tryd.prog 33 #[.agg #[.bool r, .int .u64 N, .int .u64 B]] W (Makes (.tuple #[.agg #[.int .u64 D, .int .u64 U, .int .u64 P, .int .u64 K], .bool LO]) W)) (c10 : ∀ W, Tabs W → Calls Tryd.prog 12 #[.agg #[.bool r, .int .u64 N, .int .u64 B], .int .u64 B] W (Makes (.agg #[.bool true, .int .u64 N, .int .u64 B]) W)) (c11 : ∀ W, Tabs W → Calls Tryd.prog 22 #[.agg #[.bool true, .int .u64 M1, .int .u64 A], .agg #[.bool true, .int .u64 N, .int .u64 B]] W (Makes (.agg #[.bool true, .int .u64 M11, .int .u64 A]) W)) (hX : bits .and .u64 P 64 = 0) (w : World) (hT : Tabs w) :
    Calls Tryd.prog 6 #[.agg #[.bool q, .int .u64 M, .int .u64 A], .agg #[.bool r, .int .u64 N, .int .u64 B], .int .u64 B] w (Makes (.bool true) w) := by
  have Cc1 := hide c1
  have CcO := hide cO
  have Cc2 := hide c2
  have Cc3 := hide c3
  have Cc4 := hide c4
  have Cc5 := hide c5
  have Cc6 := hide c6
  have Cc7 := hide c7
  have Cc8 := hide c8
  have Cc9 := hide c9
  have Cc10 := hide c10
  have Cc11 := hide c11
  clear c1 cO c2 c3 c4 c5 c6 c7 c8 c9 c10 c11
  have FT := field_tag
  have SS := cell_same
  have LB' := ltB_add
  have LS := ltB_self
  have LA' := alloc_reads
  have LH := alloc_holds
  go_enter Tryd.func6, Tryd.ntmps6
  go_wp2_with (first | (go_at_call 20; (first | ((with_reducible refine (Cc1.out _ ?_).mono ?_); (refine hT.behind ?_; repeat (first | with_reducible assumption | with_reducible exact Below.refl _ _ | with_reducible refine Below.drew ?_ | with_reducible refine below_drewN ?_ _ | with_reducible refine bw_alloc ?_ _ | (with_reducible refine bw_set ?_ ?_ _; focus (dsimp only; omega)) | (with_reducible apply bw_behind; with_reducible assumption)))) | ((with_reducible refine (Cc6.out _ ?_).mono ?_); (refine hT.behind ?_; repeat (first | with_reducible assumption | with_reducible exact Below.refl _ _ | with_reducible refine Below.drew ?_ | with_reducible refine below_drewN ?_ _ | with_reducible refine bw_alloc ?_ _ | (with_reducible refine bw_set ?_ ?_ _; focus (dsimp only; omega)) | (with_reducible apply bw_behind; with_reducible assumption))))); rintro e wa ⟨rfl, hba⟩; have hra := below_reads hba; have hha := below_holds hba; obtain ⟨ma, hsa⟩ := below_grew hba) | (go_at_call 12; (first | ((with_reducible refine (Cc2.out _ ?_).mono ?_); (refine hT.behind ?_; repeat (first | with_reducible assumption | with_reducible exact Below.refl _ _ | with_reducible refine Below.drew ?_ | with_reducible refine below_drewN ?_ _ | with_reducible refine bw_alloc ?_ _ | (with_reducible refine bw_set ?_ ?_ _; focus (dsimp only; omega)) | (with_reducible apply bw_behind; with_reducible assumption)))) | ((with_reducible refine (Cc10.out _ ?_).mono ?_); (refine hT.behind ?_; repeat (first | with_reducible assumption | with_reducible exact Below.refl _ _ | with_reducible refine Below.drew ?_ | with_reducible refine below_drewN ?_ _ | with_reducible refine bw_alloc ?_ _ | (with_reducible refine bw_set ?_ ?_ _; focus (dsimp only; omega)) | (with_reducible apply bw_behind; with_reducible assumption))))); rintro e wb ⟨rfl, hbb⟩; have hrb := below_reads hbb; have hhb := below_holds hbb; obtain ⟨mb, hsb⟩ := below_grew hbb) | (go_at_call 15; (first | ((with_reducible refine (Cc3.out _ ?_).mono ?_); (refine hT.behind ?_; repeat (first | with_reducible assumption | with_reducible exact Below.refl _ _ | with_reducible refine Below.drew ?_ | with_reducible refine below_drewN ?_ _ | with_reducible refine bw_alloc ?_ _ | (with_reducible refine bw_set ?_ ?_ _; focus (dsimp only; omega)) | (with_reducible apply bw_behind; with_reducible assumption))))); rintro e wd ⟨rfl, hbd⟩; have hrd := below_reads hbd; have hhd := below_holds hbd; obtain ⟨md, hsd⟩ := below_grew hbd) | (go_at_call 17; (first | ((with_reducible refine (Cc4.out _ ?_).mono ?_); (refine hT.behind ?_; repeat (first | with_reducible assumption | with_reducible exact Below.refl _ _ | with_reducible refine Below.drew ?_ | with_reducible refine below_drewN ?_ _ | with_reducible refine bw_alloc ?_ _ | (with_reducible refine bw_set ?_ ?_ _; focus (dsimp only; omega)) | (with_reducible apply bw_behind; with_reducible assumption))))); rintro e we ⟨rfl, hbe⟩; have hre := below_reads hbe; have hhe := below_holds hbe; obtain ⟨me, hse⟩ := below_grew hbe) | (go_at_call 24; (first | ((with_reducible refine (Cc5.out _ ?_).mono ?_); (refine hT.behind ?_; repeat (first | with_reducible assumption | with_reducible exact Below.refl _ _ | with_reducible refine Below.drew ?_ | with_reducible refine below_drewN ?_ _ | with_reducible refine bw_alloc ?_ _ | (with_reducible refine bw_set ?_ ?_ _; focus (dsimp only; omega)) | (with_reducible apply bw_behind; with_reducible assumption))))); rintro e wf ⟨rfl, hbf⟩; have hrf := below_reads hbf; have hhf := below_holds hbf; obtain ⟨mf, hsf⟩ := below_grew hbf) | (go_at_call 32; (first | ((with_reducible refine (Cc7.out _ ?_).mono ?_); (refine hT.behind ?_; repeat (first | with_reducible assumption | with_reducible exact Below.refl _ _ | with_reducible refine Below.drew ?_ | with_reducible refine below_drewN ?_ _ | with_reducible refine bw_alloc ?_ _ | (with_reducible refine bw_set ?_ ?_ _; focus (dsimp only; omega)) | (with_reducible apply bw_behind; with_reducible assumption))))); rintro e wg ⟨rfl, hbg⟩; have hrg := below_reads hbg; have hhg := below_holds hbg; obtain ⟨mg, hsg⟩ := below_grew hbg) | (go_at_call 22; (first | ((with_reducible refine (Cc8.out _ ?_).mono ?_); (refine hT.behind ?_; repeat (first | with_reducible assumption | with_reducible exact Below.refl _ _ | with_reducible refine Below.drew ?_ | with_reducible refine below_drewN ?_ _ | with_reducible refine bw_alloc ?_ _ | (with_reducible refine bw_set ?_ ?_ _; focus (dsimp only; omega)) | (with_reducible apply bw_behind; with_reducible assumption)))) | ((with_reducible refine (Cc11.out _ ?_).mono ?_); (refine hT.behind ?_; repeat (first | with_reducible assumption | with_reducible exact Below.refl _ _ | with_reducible refine Below.drew ?_ | with_reducible refine below_drewN ?_ _ | with_reducible refine bw_alloc ?_ _ | (with_reducible refine bw_set ?_ ?_ _; focus (dsimp only; omega)) | (with_reducible apply bw_behind; with_reducible assumption))))); rintro e wh ⟨rfl, hbh⟩; have hrh := below_reads hbh; have hhh := below_holds hbh; obtain ⟨mh, hsh⟩ := below_grew hbh) | (go_at_call 33; (first | ((with_reducible refine (Cc9.out _ ?_).mono ?_); (refine hT.behind ?_; repeat (first | with_reducible assumption | with_reducible exact Below.refl _ _ | with_reducible refine Below.drew ?_ | with_reducible refine below_drewN ?_ _ | with_reducible refine bw_alloc ?_ _ | (with_reducible refine bw_set ?_ ?_ _; focus (dsimp only; omega)) | (with_reducible apply bw_behind; with_reducible assumption))))); rintro e wk ⟨rfl, hbk⟩; have hrk := below_reads hbk; have hhk := below_holds hbk; obtain ⟨mk, hsk⟩ := below_grew hbk) | (go_at_call 19; (first | ((with_reducible refine (CcO.out _ ?_).mono ?_); (refine hT.behind ?_; repeat (first | with_reducible assumption | with_reducible exact Below.refl _ _ | with_reducible refine Below.drew ?_ | with_reducible refine below_drewN ?_ _ | with_reducible refine bw_alloc ?_ _ | (with_reducible refine bw_set ?_ ?_ _; focus (dsimp only; omega)) | (with_reducible apply bw_behind; with_reducible assumption))))); rintro e wz ⟨rfl, hbz⟩; have hrz := below_reads hbz; have hhz := below_holds hbz; obtain ⟨mz, hsz⟩ := below_grew hbz))
  refine bodyPost_ret (v := .bool true) (by simp (maxDischargeDepth := 4) [results, Tryd.results6, go_sem, *]) rfl ?_
  refine ⟨rfl, ?_⟩
  repeat (first | with_reducible assumption | with_reducible exact Below.refl _ _ | with_reducible refine Below.drew ?_ | with_reducible refine below_drewN ?_ _ | with_reducible refine bw_alloc ?_ _ | (with_reducible refine bw_set ?_ ?_ _; focus (dsimp only; omega)) | (with_reducible apply bw_behind; with_reducible assumption))

set_option maxRecDepth 100000 in
set_option maxHeartbeats 8000000 in
theorem walk_yn (r LO O2 : Bool) (M A N B X M1 M3 M4 M5 M6 M11 D U P K : Int) (c1 : ∀ W, Tabs W → Calls Tryd.prog 20 #[.agg #[.bool true, .int .u64 M, .int .u64 A], .agg #[.bool r, .int .u64 N, .int .u64 B]] W (Makes (.agg #[.bool true, .int .u64 M1, .int .u64 A]) W)) (cO : ∀ W, Tabs W → Calls Tryd.prog 19 #[] W (Makes (.bool true) W)) (c2 : ∀ W, Tabs W → Calls Tryd.prog 12 #[.agg #[.bool true, .int .u64 M1, .int .u64 A], .int .u64 X] W (Makes (.agg #[.bool false, .int .u64 M1, .int .u64 X]) W)) (c3 : ∀ W, Tabs W → Calls Tryd.prog 15 #[.agg #[.bool true, .int .u64 M1, .int .u64 A], .int .u64 X, .bool false] W (Makes (.agg #[.bool false, .int .u64 M3, .int .u64 A]) W)) (c4 : ∀ W, Tabs W → Calls Tryd.prog 17 #[.agg #[.bool true, .int .u64 M1, .int .u64 A], .int .u64 X] W (Makes (.agg #[.bool false, .int .u64 M4, .int .u64 A]) W)) (c5 : ∀ W, Tabs W → Calls Tryd.prog 24 #[.agg #[.bool true, .int .u64 M1, .int .u64 A]] W (Makes (.agg #[.bool false, .int .u64 M5, .int .u64 A]) W)) (c6 : ∀ W, Tabs W → Calls Tryd.prog 20 #[.agg #[.bool true, .int .u64 M1, .int .u64 A], .agg #[.bool r, .int .u64 N, .int .u64 B]] W (Makes (.agg #[.bool false, .int .u64 M6, .int .u64 A]) W)) (c7 : ∀ W, Tabs W → Calls Tryd.prog 32 #[.agg #[.bool true, .int .u64 M1, .int .u64 A], .int .i64 1, .int .u64 0] W (Makes (.int .i64 2) W)) (c8 : ∀ W, Tabs W → Calls Tryd.prog 22 #[.agg #[.bool true, .int .u64 M1, .int .u64 A], .agg #[.bool r, .int .u64 N, .int .u64 B]] W (Makes (.agg #[.bool true, .int .u64 M, .int .u64 A]) W)) (c9 : ∀ W, Tabs W → Calls Tryd.prog 33 #[.agg #[.bool r, .int .u64 N, .int .u64 B]] W (Makes (.tuple #[.agg #[.int .u64 D, .int .u64 U, .int .u64 P, .int .u64 K], .bool LO]) W)) (c10 : ∀ W, Tabs W → Calls Tryd.prog 12 #[.agg #[.bool r, .int .u64 N, .int .u64 B], .int .u64 X] W (Makes (.agg #[.bool O2, .int .u64 N, .int .u64 X]) W)) (c11 : ∀ W, Tabs W → Calls Tryd.prog 22 #[.agg #[.bool true, .int .u64 M1, .int .u64 A], .agg #[.bool O2, .int .u64 N, .int .u64 X]] W (Makes (.agg #[.bool false, .int .u64 M11, .int .u64 A]) W)) (hX : bits .and .u64 P 64 = 64) (w : World) (hT : Tabs w) :
    Calls Tryd.prog 6 #[.agg #[.bool true, .int .u64 M, .int .u64 A], .agg #[.bool r, .int .u64 N, .int .u64 B], .int .u64 X] w (Makes (.bool true) w) := by
  have Cc1 := hide c1
  have CcO := hide cO
  have Cc2 := hide c2
  have Cc3 := hide c3
  have Cc4 := hide c4
  have Cc5 := hide c5
  have Cc6 := hide c6
  have Cc7 := hide c7
  have Cc8 := hide c8
  have Cc9 := hide c9
  have Cc10 := hide c10
  have Cc11 := hide c11
  clear c1 cO c2 c3 c4 c5 c6 c7 c8 c9 c10 c11
  have NE := ne_cap true true M A M A
  rw [decide_eq_true ⟨rfl, rfl, rfl⟩] at NE
  have FT := field_tag
  have SS := cell_same
  have LB' := ltB_add
  have LS := ltB_self
  have LA' := alloc_reads
  have LH := alloc_holds
  go_enter Tryd.func6, Tryd.ntmps6
  go_wp2_with (first | (go_at_call 20; (first | ((with_reducible refine (Cc1.out _ ?_).mono ?_); (refine hT.behind ?_; repeat (first | with_reducible assumption | with_reducible exact Below.refl _ _ | with_reducible refine Below.drew ?_ | with_reducible refine below_drewN ?_ _ | with_reducible refine bw_alloc ?_ _ | (with_reducible refine bw_set ?_ ?_ _; focus (dsimp only; omega)) | (with_reducible apply bw_behind; with_reducible assumption)))) | ((with_reducible refine (Cc6.out _ ?_).mono ?_); (refine hT.behind ?_; repeat (first | with_reducible assumption | with_reducible exact Below.refl _ _ | with_reducible refine Below.drew ?_ | with_reducible refine below_drewN ?_ _ | with_reducible refine bw_alloc ?_ _ | (with_reducible refine bw_set ?_ ?_ _; focus (dsimp only; omega)) | (with_reducible apply bw_behind; with_reducible assumption))))); rintro e wa ⟨rfl, hba⟩; have hra := below_reads hba; have hha := below_holds hba; obtain ⟨ma, hsa⟩ := below_grew hba) | (go_at_call 12; (first | ((with_reducible refine (Cc2.out _ ?_).mono ?_); (refine hT.behind ?_; repeat (first | with_reducible assumption | with_reducible exact Below.refl _ _ | with_reducible refine Below.drew ?_ | with_reducible refine below_drewN ?_ _ | with_reducible refine bw_alloc ?_ _ | (with_reducible refine bw_set ?_ ?_ _; focus (dsimp only; omega)) | (with_reducible apply bw_behind; with_reducible assumption)))) | ((with_reducible refine (Cc10.out _ ?_).mono ?_); (refine hT.behind ?_; repeat (first | with_reducible assumption | with_reducible exact Below.refl _ _ | with_reducible refine Below.drew ?_ | with_reducible refine below_drewN ?_ _ | with_reducible refine bw_alloc ?_ _ | (with_reducible refine bw_set ?_ ?_ _; focus (dsimp only; omega)) | (with_reducible apply bw_behind; with_reducible assumption))))); rintro e wb ⟨rfl, hbb⟩; have hrb := below_reads hbb; have hhb := below_holds hbb; obtain ⟨mb, hsb⟩ := below_grew hbb) | (go_at_call 15; (first | ((with_reducible refine (Cc3.out _ ?_).mono ?_); (refine hT.behind ?_; repeat (first | with_reducible assumption | with_reducible exact Below.refl _ _ | with_reducible refine Below.drew ?_ | with_reducible refine below_drewN ?_ _ | with_reducible refine bw_alloc ?_ _ | (with_reducible refine bw_set ?_ ?_ _; focus (dsimp only; omega)) | (with_reducible apply bw_behind; with_reducible assumption))))); rintro e wd ⟨rfl, hbd⟩; have hrd := below_reads hbd; have hhd := below_holds hbd; obtain ⟨md, hsd⟩ := below_grew hbd) | (go_at_call 17; (first | ((with_reducible refine (Cc4.out _ ?_).mono ?_); (refine hT.behind ?_; repeat (first | with_reducible assumption | with_reducible exact Below.refl _ _ | with_reducible refine Below.drew ?_ | with_reducible refine below_drewN ?_ _ | with_reducible refine bw_alloc ?_ _ | (with_reducible refine bw_set ?_ ?_ _; focus (dsimp only; omega)) | (with_reducible apply bw_behind; with_reducible assumption))))); rintro e we ⟨rfl, hbe⟩; have hre := below_reads hbe; have hhe := below_holds hbe; obtain ⟨me, hse⟩ := below_grew hbe) | (go_at_call 24; (first | ((with_reducible refine (Cc5.out _ ?_).mono ?_); (refine hT.behind ?_; repeat (first | with_reducible assumption | with_reducible exact Below.refl _ _ | with_reducible refine Below.drew ?_ | with_reducible refine below_drewN ?_ _ | with_reducible refine bw_alloc ?_ _ | (with_reducible refine bw_set ?_ ?_ _; focus (dsimp only; omega)) | (with_reducible apply bw_behind; with_reducible assumption))))); rintro e wf ⟨rfl, hbf⟩; have hrf := below_reads hbf; have hhf := below_holds hbf; obtain ⟨mf, hsf⟩ := below_grew hbf) | (go_at_call 32; (first | ((with_reducible refine (Cc7.out _ ?_).mono ?_); (refine hT.behind ?_; repeat (first | with_reducible assumption | with_reducible exact Below.refl _ _ | with_reducible refine Below.drew ?_ | with_reducible refine below_drewN ?_ _ | with_reducible refine bw_alloc ?_ _ | (with_reducible refine bw_set ?_ ?_ _; focus (dsimp only; omega)) | (with_reducible apply bw_behind; with_reducible assumption))))); rintro e wg ⟨rfl, hbg⟩; have hrg := below_reads hbg; have hhg := below_holds hbg; obtain ⟨mg, hsg⟩ := below_grew hbg) | (go_at_call 22; (first | ((with_reducible refine (Cc8.out _ ?_).mono ?_); (refine hT.behind ?_; repeat (first | with_reducible assumption | with_reducible exact Below.refl _ _ | with_reducible refine Below.drew ?_ | with_reducible refine below_drewN ?_ _ | with_reducible refine bw_alloc ?_ _ | (with_reducible refine bw_set ?_ ?_ _; focus (dsimp only; omega)) | (with_reducible apply bw_behind; with_reducible assumption)))) | ((with_reducible refine (Cc11.out _ ?_).mono ?_); (refine hT.behind ?_; repeat (first | with_reducible assumption | with_reducible exact Below.refl _ _ | with_reducible refine Below.drew ?_ | with_reducible refine below_drewN ?_ _ | with_reducible refine bw_alloc ?_ _ | (with_reducible refine bw_set ?_ ?_ _; focus (dsimp only; omega)) | (with_reducible apply bw_behind; with_reducible assumption))))); rintro e wh ⟨rfl, hbh⟩; have hrh := below_reads hbh; have hhh := below_holds hbh; obtain ⟨mh, hsh⟩ := below_grew hbh) | (go_at_call 33; (first | ((with_reducible refine (Cc9.out _ ?_).mono ?_); (refine hT.behind ?_; repeat (first | with_reducible assumption | with_reducible exact Below.refl _ _ | with_reducible refine Below.drew ?_ | with_reducible refine below_drewN ?_ _ | with_reducible refine bw_alloc ?_ _ | (with_reducible refine bw_set ?_ ?_ _; focus (dsimp only; omega)) | (with_reducible apply bw_behind; with_reducible assumption))))); rintro e wk ⟨rfl, hbk⟩; have hrk := below_reads hbk; have hhk := below_holds hbk; obtain ⟨mk, hsk⟩ := below_grew hbk) | (go_at_call 19; (first | ((with_reducible refine (CcO.out _ ?_).mono ?_); (refine hT.behind ?_; repeat (first | with_reducible assumption | with_reducible exact Below.refl _ _ | with_reducible refine Below.drew ?_ | with_reducible refine below_drewN ?_ _ | with_reducible refine bw_alloc ?_ _ | (with_reducible refine bw_set ?_ ?_ _; focus (dsimp only; omega)) | (with_reducible apply bw_behind; with_reducible assumption))))); rintro e wz ⟨rfl, hbz⟩; have hrz := below_reads hbz; have hhz := below_holds hbz; obtain ⟨mz, hsz⟩ := below_grew hbz))
  refine bodyPost_ret (v := .bool true) (by simp (maxDischargeDepth := 4) [results, Tryd.results6, go_sem, *]) rfl ?_
  refine ⟨rfl, ?_⟩
  repeat (first | with_reducible assumption | with_reducible exact Below.refl _ _ | with_reducible refine Below.drew ?_ | with_reducible refine below_drewN ?_ _ | with_reducible refine bw_alloc ?_ _ | (with_reducible refine bw_set ?_ ?_ _; focus (dsimp only; omega)) | (with_reducible apply bw_behind; with_reducible assumption))

set_option maxRecDepth 100000 in
set_option maxHeartbeats 8000000 in
theorem walk_yy (r LO : Bool) (M A N B M1 M3 M4 M5 M6 M11 D U P K : Int) (c1 : ∀ W, Tabs W → Calls Tryd.prog 20 #[.agg #[.bool true, .int .u64 M, .int .u64 A], .agg #[.bool r, .int .u64 N, .int .u64 B]] W (Makes (.agg #[.bool true, .int .u64 M1, .int .u64 A]) W)) (cO : ∀ W, Tabs W → Calls Tryd.prog 19 #[] W (Makes (.bool true) W)) (c2 : ∀ W, Tabs W → Calls Tryd.prog 12 #[.agg #[.bool true, .int .u64 M1, .int .u64 A], .int .u64 B] W (Makes (.agg #[.bool false, .int .u64 M1, .int .u64 B]) W)) (c3 : ∀ W, Tabs W → Calls Tryd.prog 15 #[.agg #[.bool true, .int .u64 M1, .int .u64 A], .int .u64 B, .bool false] W (Makes (.agg #[.bool false, .int .u64 M3, .int .u64 A]) W)) (c4 : ∀ W, Tabs W → Calls Tryd.prog 17 #[.agg #[.bool true, .int .u64 M1, .int .u64 A], .int .u64 B] W (Makes (.agg #[.bool false, .int .u64 M4, .int .u64 A]) W)) (c5 : ∀ W, Tabs W → Calls Tryd.prog 24 #[.agg #[.bool true, .int .u64 M1, .int .u64 A]] W (Makes (.agg #[.bool false, .int .u64 M5, .int .u64 A]) W)) (c6 : ∀ W, Tabs W → Calls Tryd.prog 20 #[.agg #[.bool true, .int .u64 M1, .int .u64 A], .agg #[.bool r, .int .u64 N, .int .u64 B]] W (Makes (.agg #[.bool false, .int .u64 M6, .int .u64 A]) W)) (c7 : ∀ W, Tabs W → Calls Tryd.prog 32 #[.agg #[.bool true, .int .u64 M1, .int .u64 A], .int .i64 1, .int .u64 0] W (Makes (.int .i64 2) W)) (c8 : ∀ W, Tabs W → Calls Tryd.prog 22 #[.agg #[.bool true, .int .u64 M1, .int .u64 A], .agg #[.bool r, .int .u64 N, .int .u64 B]] W (Makes (.agg #[.bool true, .int .u64 M, .int .u64 A]) W)) (c9 : ∀ W, Tabs W → Calls Tryd.prog 33 #[.agg #[.bool r, .int .u64 N, .int .u64 B]] W (Makes (.tuple #[.agg #[.int .u64 D, .int .u64 U, .int .u64 P, .int .u64 K], .bool LO]) W)) (c10 : ∀ W, Tabs W → Calls Tryd.prog 12 #[.agg #[.bool r, .int .u64 N, .int .u64 B], .int .u64 B] W (Makes (.agg #[.bool true, .int .u64 N, .int .u64 B]) W)) (c11 : ∀ W, Tabs W → Calls Tryd.prog 22 #[.agg #[.bool true, .int .u64 M1, .int .u64 A], .agg #[.bool true, .int .u64 N, .int .u64 B]] W (Makes (.agg #[.bool true, .int .u64 M11, .int .u64 A]) W)) (hX : bits .and .u64 P 64 = 64) (w : World) (hT : Tabs w) :
    Calls Tryd.prog 6 #[.agg #[.bool true, .int .u64 M, .int .u64 A], .agg #[.bool r, .int .u64 N, .int .u64 B], .int .u64 B] w (Makes (.bool true) w) := by
  have Cc1 := hide c1
  have CcO := hide cO
  have Cc2 := hide c2
  have Cc3 := hide c3
  have Cc4 := hide c4
  have Cc5 := hide c5
  have Cc6 := hide c6
  have Cc7 := hide c7
  have Cc8 := hide c8
  have Cc9 := hide c9
  have Cc10 := hide c10
  have Cc11 := hide c11
  clear c1 cO c2 c3 c4 c5 c6 c7 c8 c9 c10 c11
  have NE := ne_cap true true M A M A
  rw [decide_eq_true ⟨rfl, rfl, rfl⟩] at NE
  have FT := field_tag
  have SS := cell_same
  have LB' := ltB_add
  have LS := ltB_self
  have LA' := alloc_reads
  have LH := alloc_holds
  go_enter Tryd.func6, Tryd.ntmps6
  go_wp2_with (first | (go_at_call 20; (first | ((with_reducible refine (Cc1.out _ ?_).mono ?_); (refine hT.behind ?_; repeat (first | with_reducible assumption | with_reducible exact Below.refl _ _ | with_reducible refine Below.drew ?_ | with_reducible refine below_drewN ?_ _ | with_reducible refine bw_alloc ?_ _ | (with_reducible refine bw_set ?_ ?_ _; focus (dsimp only; omega)) | (with_reducible apply bw_behind; with_reducible assumption)))) | ((with_reducible refine (Cc6.out _ ?_).mono ?_); (refine hT.behind ?_; repeat (first | with_reducible assumption | with_reducible exact Below.refl _ _ | with_reducible refine Below.drew ?_ | with_reducible refine below_drewN ?_ _ | with_reducible refine bw_alloc ?_ _ | (with_reducible refine bw_set ?_ ?_ _; focus (dsimp only; omega)) | (with_reducible apply bw_behind; with_reducible assumption))))); rintro e wa ⟨rfl, hba⟩; have hra := below_reads hba; have hha := below_holds hba; obtain ⟨ma, hsa⟩ := below_grew hba) | (go_at_call 12; (first | ((with_reducible refine (Cc2.out _ ?_).mono ?_); (refine hT.behind ?_; repeat (first | with_reducible assumption | with_reducible exact Below.refl _ _ | with_reducible refine Below.drew ?_ | with_reducible refine below_drewN ?_ _ | with_reducible refine bw_alloc ?_ _ | (with_reducible refine bw_set ?_ ?_ _; focus (dsimp only; omega)) | (with_reducible apply bw_behind; with_reducible assumption)))) | ((with_reducible refine (Cc10.out _ ?_).mono ?_); (refine hT.behind ?_; repeat (first | with_reducible assumption | with_reducible exact Below.refl _ _ | with_reducible refine Below.drew ?_ | with_reducible refine below_drewN ?_ _ | with_reducible refine bw_alloc ?_ _ | (with_reducible refine bw_set ?_ ?_ _; focus (dsimp only; omega)) | (with_reducible apply bw_behind; with_reducible assumption))))); rintro e wb ⟨rfl, hbb⟩; have hrb := below_reads hbb; have hhb := below_holds hbb; obtain ⟨mb, hsb⟩ := below_grew hbb) | (go_at_call 15; (first | ((with_reducible refine (Cc3.out _ ?_).mono ?_); (refine hT.behind ?_; repeat (first | with_reducible assumption | with_reducible exact Below.refl _ _ | with_reducible refine Below.drew ?_ | with_reducible refine below_drewN ?_ _ | with_reducible refine bw_alloc ?_ _ | (with_reducible refine bw_set ?_ ?_ _; focus (dsimp only; omega)) | (with_reducible apply bw_behind; with_reducible assumption))))); rintro e wd ⟨rfl, hbd⟩; have hrd := below_reads hbd; have hhd := below_holds hbd; obtain ⟨md, hsd⟩ := below_grew hbd) | (go_at_call 17; (first | ((with_reducible refine (Cc4.out _ ?_).mono ?_); (refine hT.behind ?_; repeat (first | with_reducible assumption | with_reducible exact Below.refl _ _ | with_reducible refine Below.drew ?_ | with_reducible refine below_drewN ?_ _ | with_reducible refine bw_alloc ?_ _ | (with_reducible refine bw_set ?_ ?_ _; focus (dsimp only; omega)) | (with_reducible apply bw_behind; with_reducible assumption))))); rintro e we ⟨rfl, hbe⟩; have hre := below_reads hbe; have hhe := below_holds hbe; obtain ⟨me, hse⟩ := below_grew hbe) | (go_at_call 24; (first | ((with_reducible refine (Cc5.out _ ?_).mono ?_); (refine hT.behind ?_; repeat (first | with_reducible assumption | with_reducible exact Below.refl _ _ | with_reducible refine Below.drew ?_ | with_reducible refine below_drewN ?_ _ | with_reducible refine bw_alloc ?_ _ | (with_reducible refine bw_set ?_ ?_ _; focus (dsimp only; omega)) | (with_reducible apply bw_behind; with_reducible assumption))))); rintro e wf ⟨rfl, hbf⟩; have hrf := below_reads hbf; have hhf := below_holds hbf; obtain ⟨mf, hsf⟩ := below_grew hbf) | (go_at_call 32; (first | ((with_reducible refine (Cc7.out _ ?_).mono ?_); (refine hT.behind ?_; repeat (first | with_reducible assumption | with_reducible exact Below.refl _ _ | with_reducible refine Below.drew ?_ | with_reducible refine below_drewN ?_ _ | with_reducible refine bw_alloc ?_ _ | (with_reducible refine bw_set ?_ ?_ _; focus (dsimp only; omega)) | (with_reducible apply bw_behind; with_reducible assumption))))); rintro e wg ⟨rfl, hbg⟩; have hrg := below_reads hbg; have hhg := below_holds hbg; obtain ⟨mg, hsg⟩ := below_grew hbg) | (go_at_call 22; (first | ((with_reducible refine (Cc8.out _ ?_).mono ?_); (refine hT.behind ?_; repeat (first | with_reducible assumption | with_reducible exact Below.refl _ _ | with_reducible refine Below.drew ?_ | with_reducible refine below_drewN ?_ _ | with_reducible refine bw_alloc ?_ _ | (with_reducible refine bw_set ?_ ?_ _; focus (dsimp only; omega)) | (with_reducible apply bw_behind; with_reducible assumption)))) | ((with_reducible refine (Cc11.out _ ?_).mono ?_); (refine hT.behind ?_; repeat (first | with_reducible assumption | with_reducible exact Below.refl _ _ | with_reducible refine Below.drew ?_ | with_reducible refine below_drewN ?_ _ | with_reducible refine bw_alloc ?_ _ | (with_reducible refine bw_set ?_ ?_ _; focus (dsimp only; omega)) | (with_reducible apply bw_behind; with_reducible assumption))))); rintro e wh ⟨rfl, hbh⟩; have hrh := below_reads hbh; have hhh := below_holds hbh; obtain ⟨mh, hsh⟩ := below_grew hbh) | (go_at_call 33; (first | ((with_reducible refine (Cc9.out _ ?_).mono ?_); (refine hT.behind ?_; repeat (first | with_reducible assumption | with_reducible exact Below.refl _ _ | with_reducible refine Below.drew ?_ | with_reducible refine below_drewN ?_ _ | with_reducible refine bw_alloc ?_ _ | (with_reducible refine bw_set ?_ ?_ _; focus (dsimp only; omega)) | (with_reducible apply bw_behind; with_reducible assumption))))); rintro e wk ⟨rfl, hbk⟩; have hrk := below_reads hbk; have hhk := below_holds hbk; obtain ⟨mk, hsk⟩ := below_grew hbk) | (go_at_call 19; (first | ((with_reducible refine (CcO.out _ ?_).mono ?_); (refine hT.behind ?_; repeat (first | with_reducible assumption | with_reducible exact Below.refl _ _ | with_reducible refine Below.drew ?_ | with_reducible refine below_drewN ?_ _ | with_reducible refine bw_alloc ?_ _ | (with_reducible refine bw_set ?_ ?_ _; focus (dsimp only; omega)) | (with_reducible apply bw_behind; with_reducible assumption))))); rintro e wz ⟨rfl, hbz⟩; have hrz := below_reads hbz; have hhz := below_holds hbz; obtain ⟨mz, hsz⟩ := below_grew hbz))
  refine bodyPost_ret (v := .bool true) (by simp (maxDischargeDepth := 4) [results, Tryd.results6, go_sem, *]) rfl ?_
  refine ⟨rfl, ?_⟩
  repeat (first | with_reducible assumption | with_reducible exact Below.refl _ _ | with_reducible refine Below.drew ?_ | with_reducible refine below_drewN ?_ _ | with_reducible refine bw_alloc ?_ _ | (with_reducible refine bw_set ?_ ?_ _; focus (dsimp only; omega)) | (with_reducible apply bw_behind; with_reducible assumption))

theorem walk (q : Bool) (m a : BitVec 64) (r : Bool) (n b x : BitVec 64) (w : World) (hT : Tabs w) : Calls Tryd.prog 6 #[.agg #[.bool q, .int .u64 (m.toNat : Int), .int .u64 (a.toNat : Int)], .agg #[.bool r, .int .u64 (n.toNat : Int), .int .u64 (b.toNat : Int)], .int .u64 (x.toNat : Int)] w fun e w' => e = .returned (.bool true) ∧ Below w.heap.size w w' := by
  have hm := toNat_lt m
  have hn := toNat_lt n
  have ha := toNat_lt a
  have hb := toNat_lt b
  have hx := toNat_lt x
  generalize m.toNat = m at *
  generalize a.toNat = a at *
  generalize n.toNat = n at *
  generalize b.toNat = b at *
  generalize x.toNat = x at *
  have c1 := fun W (hW : Tabs W) => seal_any q r m a n b hm hn hb W hW.t
  have cO := fun W (hW : Tabs W) => one_any W hW.t
  cases hs : sealQ q m a r n b with
  | false =>
    rw [hs] at c1
    exact walk_1 _ _ _ _ _ _ _ _ c1 cO w hT
  | true =>
    rw [hs, typed_yes] at c1
    obtain ⟨⟨hq, hr⟩, hk, hb1, hb2, hal⟩ := sealQ_tag hs
    obtain ⟨_, r2, _⟩ := right_lt hr
    obtain ⟨_, _, _, p4, p5, _, _, p8⟩ := setK_parts r2 hb2
    have hrs := setK_right hr hb2
    have hback : setK (setK m b) 0 = m := by rw [setK_twice r2 hb2, ← hk]; exact setK_same m
    generalize hS : setK m b = s at *
    have hso : openB true s a = false := open_typed p5 (by omega)
    have c2 := fun W (hW : Tabs W) => address_any true s a x p8 W hW.t
    rw [addr_shut hso] at c2
    obtain ⟨M3, c3'⟩ := bound_shut true false s a x p8 ha hx hso
    have c3 := fun W (hW : Tabs W) => c3' W hW.t
    have c4 := fun W (hW : Tabs W) => and_any true s a x p8 hx W hW.t
    rw [hso] at c4
    have c5 := fun W (hW : Tabs W) => enter_any true s a p8 W hW.t
    rw [enter_shut hso] at c5
    have c6 := fun W (hW : Tabs W) => seal_any true r s a n b p8 hn hb W hW.t
    rw [seal_shut hso] at c6
    have c7 := fun W (hW : Tabs W) => check_any true s a 1 0 p8 ha (by omega) W hW
    rw [check_typed hrs p5 (by omega)] at c7
    have c8 := fun W (hW : Tabs W) => unseal_any true r s a n b p8 hn hb W hW.t
    have c9 := fun W (hW : Tabs W) => look_any r n b hn W hW.t
    have c10 := fun W (hW : Tabs W) => address_any r n b x hn W hW.t
    have c11 := fun W (hW : Tabs W) => unseal_any true (addrQ r n b x) s a n x p8 hn hx W hW.t
    have hP := bits_and (a := mP n) (b := 64) (by have := mP_lt n; omega) (by omega)
    have hU : unsealQ true s a r n b = subN 64 (mP n) := by
      unfold allowsB at hal
      rw [Bool.and_eq_true, Bool.and_eq_true] at hal
      unfold unsealQ allowsB liveB
      rw [hal.1, hal.2.2, hrs, p5, decide_eq_true hb1, decide_eq_true rfl]
      simp
    rw [hU] at c8
    have hV : unsealQ true s a (addrQ r n b x) n x = true → x = b ∧ addrQ r n b x = true := fun h => by
      obtain ⟨_, _, k1, k2⟩ := unsealQ_tag h
      unfold allowsB at k1
      rw [Bool.and_eq_true] at k1
      exact ⟨by omega, (open_tag k1.1).1⟩
    rcases bit_six (mP_lt n) with ⟨e1, e2⟩ | ⟨e1, e2⟩
    · rw [e1] at hP
      rw [e2, typed_yes, hback] at c8
      subst hq
      cases hv : unsealQ true s a (addrQ r n b x) n x with
      | false =>
        rw [hv] at c11
        exact walk_yn _ _ _ _ _ _ _ _ _ _ _ _ _ _ _ _ _ _ c1 cO c2 c3 c4 c5 c6 c7 c8 c9 c10 c11 hP w hT
      | true =>
        obtain ⟨v1, v2⟩ := hV hv
        rw [hv, v2] at c11
        rw [v2] at c10
        subst v1
        exact walk_yy _ _ _ _ _ _ _ _ _ _ _ _ _ _ _ _ c1 cO c2 c3 c4 c5 c6 c7 c8 c9 c10 c11 hP w hT
    · rw [e1] at hP
      rw [e2, typed_no] at c8
      cases hv : unsealQ true s a (addrQ r n b x) n x with
      | false =>
        rw [hv] at c11
        exact walk_nn _ _ _ _ _ _ _ _ _ _ _ _ _ _ _ _ _ _ _ _ c1 cO c2 c3 c4 c5 c6 c7 c8 c9 c10 c11 hP w hT
      | true =>
        obtain ⟨v1, v2⟩ := hV hv
        rw [hv, v2] at c11
        rw [v2] at c10
        subst v1
        exact walk_ny _ _ _ _ _ _ _ _ _ _ _ _ _ _ _ _ _ _ c1 cO c2 c3 c4 c5 c6 c7 c8 c9 c10 c11 hP w hT
open Go.ChangeShapes Go.WideShapes Go.ChangeAt
set_option maxRecDepth 100000 in
theorem walks : Frame.WalksLaid [("mintmark/perm.accesses", Rows.laid_mintmark_perm_accesses), ("mintmark/bounds.places", Rows.laid_mintmark_bounds_places)] 6 Tryd.f6 := by
  intro H enc W base args ds ps hL hval hA
  rw [Tryd.params6] at hA hval
  obtain ⟨v0, v1, v2, d0, d1, d2, p0, p1, p2, hargs, rfl, rfl, h0, h1, h2⟩ := trodAll_three hA
  obtain rfl : args = #[v0, v1, v2] := by cases args; simp_all
  obtain ⟨cs0, rfl, hf0⟩ := Frame.open_struct (F := 4) (ks := [.inr false, .inl .u64, .inl .u64]) Tryd.underlying24 (by kernel_rfl) (hval 0 24 v0 rfl rfl) h0
  match cs0, hf0 with
  | [_, _, _], ⟨⟨z0_0, rfl⟩, ⟨z0_1, rfl, wz0_1⟩, ⟨z0_2, rfl, wz0_2⟩, _⟩ =>
  obtain ⟨Z0_1, rfl⟩ := Frame.wf_u64 wz0_1
  obtain ⟨Z0_2, rfl⟩ := Frame.wf_u64 wz0_2
  obtain ⟨cs1, rfl, hf1⟩ := Frame.open_struct (F := 4) (ks := [.inr false, .inl .u64, .inl .u64]) Tryd.underlying24 (by kernel_rfl) (hval 1 24 v1 rfl rfl) h1
  match cs1, hf1 with
  | [_, _, _], ⟨⟨z1_0, rfl⟩, ⟨z1_1, rfl, wz1_1⟩, ⟨z1_2, rfl, wz1_2⟩, _⟩ =>
  obtain ⟨Z1_1, rfl⟩ := Frame.wf_u64 wz1_1
  obtain ⟨Z1_2, rfl⟩ := Frame.wf_u64 wz1_2
  obtain ⟨x2, rfl, rfl, rfl, w2⟩ := open_int Tryd.underlying22 (hval 2 22 v2 rfl rfl) h2
  obtain ⟨X2, rfl⟩ := Frame.wf_u64 w2
  exact walk z0_0 Z0_1 Z0_2 z1_0 Z1_1 Z1_2 X2 W (both_of_laid hL)
set_option maxRecDepth 100000 in
theorem said : Rows.AlgebraOpensSaid :=
  OpenClaim.holds_of_wide 6 Tryd.f6 rfl rfl rfl rfl rfl rfl rfl ⟨rfl, rfl, rfl, rfl, rfl⟩ rfl rfl rfl rfl rfl (by kernel_rfl) Tryd.func6 (by kernel_rfl)
    (of_decide_eq_true (by kernel_rfl)) (by unfold Func.isWrapper; first | (rw [if_pos (by decide +kernel)]; kernel_rfl) | (rw [if_neg (by decide +kernel)]; exact ⟨rfl, rfl⟩))
    (fun os started H enc _ => Frame.liftLaid [("mintmark/perm.accesses", Rows.laid_mintmark_perm_accesses), ("mintmark/bounds.places", Rows.laid_mintmark_bounds_places)] os started H enc _ _ Rows.algebraOpensSpec 4 (by kernel_rfl) Tryd.func6 Tryd.underlying4 (by kernel_rfl) rfl (by kernel_rfl)
      (fun ds h => by match ds, h with | [_, _, _], _ => exact ⟨rfl, rfl, rfl⟩)
      (ChangeSpec.witness_shaped (enc := enc) (C := Tryd.checked) (os := os) (X := fun w _ => laidMetH Tryd.prog [("mintmark/perm.accesses", Rows.laid_mintmark_perm_accesses), ("mintmark/bounds.places", Rows.laid_mintmark_bounds_places)] w) false (World.doorLaid Tryd.prog 400 os) #[.agg #[.bool false, .int .u64 0, .int .u64 0], .agg #[.bool false, .int .u64 0, .int .u64 0], .int .u64 0] 8 rfl (World.shaped_of_RefB (by kernel_rfl) (by kernel_rfl)) (by kernel_rfl) (by kernel_rfl) (by kernel_rfl) (both_met os _)) walks)
set_option maxRecDepth 100000 in
theorem proved : Rows.AlgebraOpensCardSaid :=
  Claim7.holds_tied_plain_at .later [] [.data, .data] true _ false said (fun _ h => by cases h) (by kernel_rfl) (fun _ h => by cases h) algebraOpens_row_tie rfl ⟨rfl, rfl⟩ (by kernel_rfl) rfl
    (fun f fn hf hfn => by
      obtain rfl : f = 6 := Option.some.inj ((show Tryd.prog.funcNamed "mintmark/mintmarklaw06.AlgebraOpens" = some 6 by kernel_rfl).symm.trans hf) |>.symm
      obtain rfl : fn = Tryd.f6 := (Option.some.inj (Tryd.func6.symm.trans hfn)).symm
      exact ⟨by kernel_rfl, fun j t ht => by
        rw [Tryd.params6] at ht
        have hm : t ∈ [24, 22] := by have := Array.mem_of_getElem? ht; simp at this; simp; first | omega | grind
        have hall : ([24, 22].all fun u => !Tryd.prog.wantsStandIn u) = true := by kernel_rfl
        exact (show Tryd.prog.wantsStandIn t = false by simpa using List.all_eq_true.1 hall t hm)⟩)
    (by kernel_rfl)
end Go.Proofs.YtbncoiejbclpjaaDoor.AlgebraOpens
