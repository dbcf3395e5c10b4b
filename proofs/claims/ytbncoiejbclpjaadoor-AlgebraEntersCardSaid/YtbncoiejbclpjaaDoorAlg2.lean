/-
  What package algebra's functions answer, over letters: with another type, an address, what it tells.
-/
import Derived.Test.YtbncoiejbclpjaaDoorAlg1
import Derived.Test.YtbncoiejbclpjaaDoorMore
import Derived.Test.YtbncoiejbclpjaaDoorScaleWalks
namespace Go.Proofs.YtbncoiejbclpjaaDoor
open Go.RowKit Words FieldMath BoundsMath

set_option maxHeartbeats 4000000 in
theorem permBits_let (P M2 A2 : Int) (O : Bool) (c1 : ∀ W, Tab W → Calls Tryd.prog 46 #[.agg #[.int .u64 0, .int .u64 0, .int .u64 P, .int .u64 0], .int .u64 0] W (Makes (.tuple #[.agg #[.bool false, .int .u64 M2, .int .u64 A2], .bool O]) W)) (w : World) (hT : Tab w) :
    Calls Tryd.prog 49 #[.int .u64 P] w (Makes (.int .u64 M2) w) := by
  have Cc1 := hide c1
  clear c1
  have SS := cell_same
  have LB' := ltB_add
  have LS := ltB_self
  have LA' := alloc_reads
  have LH := alloc_holds
  go_enter Tryd.func49, Tryd.ntmps49
  go_wp2_with (first | (go_at_call 46; (first | ((with_reducible refine (Cc1.out _ ?_).mono ?_); (refine hT.behind ?_; repeat (first | with_reducible assumption | with_reducible exact Below.refl _ _ | with_reducible refine Below.drew ?_ | with_reducible refine below_drewN ?_ _ | with_reducible refine bw_alloc ?_ _ | (with_reducible refine bw_set ?_ ?_ _; focus (dsimp only; omega)) | (with_reducible apply bw_behind; with_reducible assumption))))); rintro e wa ⟨rfl, hba⟩; have hra := below_reads hba; have hha := below_holds hba; obtain ⟨ma, hsa⟩ := below_grew hba))
  refine bodyPost_ret (v := .int .u64 M2) (by simp (maxDischargeDepth := 4) [results, Tryd.results49, go_sem, *]) rfl ?_
  refine ⟨rfl, ?_⟩
  repeat (first | with_reducible assumption | with_reducible exact Below.refl _ _ | with_reducible refine Below.drew ?_ | with_reducible refine below_drewN ?_ _ | with_reducible refine bw_alloc ?_ _ | (with_reducible refine bw_set ?_ ?_ _; focus (dsimp only; omega)) | (with_reducible apply bw_behind; with_reducible assumption))

set_option maxHeartbeats 4000000 in
theorem wtype_let (q O O2 : Bool) (M A B T P K L M2 A2 : Int) (c1 : ∀ W, Tab W → Calls Tryd.prog 33 #[.agg #[.bool q, .int .u64 M, .int .u64 A]] W (Makes (.tuple #[.agg #[.int .u64 B, .int .u64 T, .int .u64 P, .int .u64 K], .bool O]) W)) (c2 : ∀ W, Tab W → Calls Tryd.prog 46 #[.agg #[.int .u64 B, .int .u64 T, .int .u64 P, .int .u64 L], .int .u64 A] W (Makes (.tuple #[.agg #[.bool false, .int .u64 M2, .int .u64 A2], .bool O2]) W)) (c3 : ∀ W, Tab W → Calls Tryd.prog 39 #[.agg #[.bool false, .int .u64 M2, .int .u64 A2], .bool q] W (Makes (.agg #[.bool q, .int .u64 M2, .int .u64 A2]) W)) (w : World) (hT : Tab w) :
    Calls Tryd.prog 55 #[.agg #[.bool q, .int .u64 M, .int .u64 A], .int .u64 L] w (Makes (.agg #[.bool q, .int .u64 M2, .int .u64 A2]) w) := by
  have Cc1 := hide c1
  have Cc2 := hide c2
  have Cc3 := hide c3
  clear c1 c2 c3
  have SS := cell_same
  have LB' := ltB_add
  have LS := ltB_self
  have LA' := alloc_reads
  have LH := alloc_holds
  go_enter Tryd.func55, Tryd.ntmps55
  go_wp2_with (first | (go_at_call 33; (first | ((with_reducible refine (Cc1.out _ ?_).mono ?_); (refine hT.behind ?_; repeat (first | with_reducible assumption | with_reducible exact Below.refl _ _ | with_reducible refine Below.drew ?_ | with_reducible refine below_drewN ?_ _ | with_reducible refine bw_alloc ?_ _ | (with_reducible refine bw_set ?_ ?_ _; focus (dsimp only; omega)) | (with_reducible apply bw_behind; with_reducible assumption))))); rintro e wa ⟨rfl, hba⟩; have hra := below_reads hba; have hha := below_holds hba; obtain ⟨ma, hsa⟩ := below_grew hba) | (go_at_call 46; (first | ((with_reducible refine (Cc2.out _ ?_).mono ?_); (refine hT.behind ?_; repeat (first | with_reducible assumption | with_reducible exact Below.refl _ _ | with_reducible refine Below.drew ?_ | with_reducible refine below_drewN ?_ _ | with_reducible refine bw_alloc ?_ _ | (with_reducible refine bw_set ?_ ?_ _; focus (dsimp only; omega)) | (with_reducible apply bw_behind; with_reducible assumption))))); rintro e wb ⟨rfl, hbb⟩; have hrb := below_reads hbb; have hhb := below_holds hbb; obtain ⟨mb, hsb⟩ := below_grew hbb) | (go_at_call 39; (first | ((with_reducible refine (Cc3.out _ ?_).mono ?_); (refine hT.behind ?_; repeat (first | with_reducible assumption | with_reducible exact Below.refl _ _ | with_reducible refine Below.drew ?_ | with_reducible refine below_drewN ?_ _ | with_reducible refine bw_alloc ?_ _ | (with_reducible refine bw_set ?_ ?_ _; focus (dsimp only; omega)) | (with_reducible apply bw_behind; with_reducible assumption))))); rintro e wd ⟨rfl, hbd⟩; have hrd := below_reads hbd; have hhd := below_holds hbd; obtain ⟨md, hsd⟩ := below_grew hbd))
  refine bodyPost_ret (v := .agg #[.bool q, .int .u64 M2, .int .u64 A2]) (by simp (maxDischargeDepth := 4) [results, Tryd.results55, go_sem, *]) rfl ?_
  refine ⟨rfl, ?_⟩
  repeat (first | with_reducible assumption | with_reducible exact Below.refl _ _ | with_reducible refine Below.drew ?_ | with_reducible refine below_drewN ?_ _ | with_reducible refine bw_alloc ?_ _ | (with_reducible refine bw_set ?_ ?_ _; focus (dsimp only; omega)) | (with_reducible apply bw_behind; with_reducible assumption))

set_option maxHeartbeats 4000000 in
theorem chg_u_no (q : Bool) (M A L : Int) (c1 : ∀ W, Tab W → Calls Tryd.prog 10 #[.agg #[.bool q, .int .u64 M, .int .u64 A]] W (Makes (.agg #[.bool false, .int .u64 M, .int .u64 A]) W)) (w : World) (hT : Tab w) :
    Calls Tryd.prog 54 #[.agg #[.bool q, .int .u64 M, .int .u64 A], .bool false, .func (.func 55) #[] #[], .int .u64 L] w (Makes (.agg #[.bool false, .int .u64 M, .int .u64 A]) w) := by
  have Cc1 := hide c1
  clear c1
  have SS := cell_same
  have LB' := ltB_add
  have LS := ltB_self
  have LA' := alloc_reads
  have LH := alloc_holds
  go_enter Tryd.func54, Tryd.ntmps54
  go_wp2_with (first | (go_at_call 10; (first | ((with_reducible refine (Cc1.out _ ?_).mono ?_); (refine hT.behind ?_; repeat (first | with_reducible assumption | with_reducible exact Below.refl _ _ | with_reducible refine Below.drew ?_ | with_reducible refine below_drewN ?_ _ | with_reducible refine bw_alloc ?_ _ | (with_reducible refine bw_set ?_ ?_ _; focus (dsimp only; omega)) | (with_reducible apply bw_behind; with_reducible assumption))))); rintro e wa ⟨rfl, hba⟩; have hra := below_reads hba; have hha := below_holds hba; obtain ⟨ma, hsa⟩ := below_grew hba))
  refine bodyPost_ret (v := .agg #[.bool false, .int .u64 M, .int .u64 A]) (by simp (maxDischargeDepth := 4) [results, Tryd.results54, go_sem, *]) rfl ?_
  refine ⟨rfl, ?_⟩
  repeat (first | with_reducible assumption | with_reducible exact Below.refl _ _ | with_reducible refine Below.drew ?_ | with_reducible refine below_drewN ?_ _ | with_reducible refine bw_alloc ?_ _ | (with_reducible refine bw_set ?_ ?_ _; focus (dsimp only; omega)) | (with_reducible apply bw_behind; with_reducible assumption))

set_option maxHeartbeats 4000000 in
theorem chg_u_yes (q r : Bool) (M A L M2 A2 : Int) (c1 : ∀ W, Tab W → Calls Tryd.prog 55 #[.agg #[.bool q, .int .u64 M, .int .u64 A], .int .u64 L] W (Makes (.agg #[.bool r, .int .u64 M2, .int .u64 A2]) W)) (w : World) (hT : Tab w) :
    Calls Tryd.prog 54 #[.agg #[.bool q, .int .u64 M, .int .u64 A], .bool true, .func (.func 55) #[] #[], .int .u64 L] w (Makes (.agg #[.bool r, .int .u64 M2, .int .u64 A2]) w) := by
  have Cc1 := hide c1
  clear c1
  have SS := cell_same
  have LB' := ltB_add
  have LS := ltB_self
  have LA' := alloc_reads
  have LH := alloc_holds
  go_enter Tryd.func54, Tryd.ntmps54
  go_wp2_with (first | (go_at_call 55; (first | ((with_reducible refine (Cc1.out _ ?_).mono ?_); (refine hT.behind ?_; repeat (first | with_reducible assumption | with_reducible exact Below.refl _ _ | with_reducible refine Below.drew ?_ | with_reducible refine below_drewN ?_ _ | with_reducible refine bw_alloc ?_ _ | (with_reducible refine bw_set ?_ ?_ _; focus (dsimp only; omega)) | (with_reducible apply bw_behind; with_reducible assumption))))); rintro e wa ⟨rfl, hba⟩; have hra := below_reads hba; have hha := below_holds hba; obtain ⟨ma, hsa⟩ := below_grew hba))
  refine bodyPost_ret (v := .agg #[.bool r, .int .u64 M2, .int .u64 A2]) (by simp (maxDischargeDepth := 4) [results, Tryd.results54, go_sem, *]) rfl ?_
  refine ⟨rfl, ?_⟩
  repeat (first | with_reducible assumption | with_reducible exact Below.refl _ _ | with_reducible refine Below.drew ?_ | with_reducible refine below_drewN ?_ _ | with_reducible refine bw_alloc ?_ _ | (with_reducible refine bw_set ?_ ?_ _; focus (dsimp only; omega)) | (with_reducible apply bw_behind; with_reducible assumption))

set_option maxHeartbeats 4000000 in
theorem chg_b_no (q t : Bool) (M A : Int) (c1 : ∀ W, Tab W → Calls Tryd.prog 10 #[.agg #[.bool q, .int .u64 M, .int .u64 A]] W (Makes (.agg #[.bool false, .int .u64 M, .int .u64 A]) W)) (w : World) (hT : Tab w) :
    Calls Tryd.prog 64 #[.agg #[.bool q, .int .u64 M, .int .u64 A], .bool false, .func (.func 39) #[] #[], .bool t] w (Makes (.agg #[.bool false, .int .u64 M, .int .u64 A]) w) := by
  have Cc1 := hide c1
  clear c1
  have SS := cell_same
  have LB' := ltB_add
  have LS := ltB_self
  have LA' := alloc_reads
  have LH := alloc_holds
  go_enter Tryd.func64, Tryd.ntmps64
  go_wp2_with (first | (go_at_call 10; (first | ((with_reducible refine (Cc1.out _ ?_).mono ?_); (refine hT.behind ?_; repeat (first | with_reducible assumption | with_reducible exact Below.refl _ _ | with_reducible refine Below.drew ?_ | with_reducible refine below_drewN ?_ _ | with_reducible refine bw_alloc ?_ _ | (with_reducible refine bw_set ?_ ?_ _; focus (dsimp only; omega)) | (with_reducible apply bw_behind; with_reducible assumption))))); rintro e wa ⟨rfl, hba⟩; have hra := below_reads hba; have hha := below_holds hba; obtain ⟨ma, hsa⟩ := below_grew hba))
  refine bodyPost_ret (v := .agg #[.bool false, .int .u64 M, .int .u64 A]) (by simp (maxDischargeDepth := 4) [results, Tryd.results64, go_sem, *]) rfl ?_
  refine ⟨rfl, ?_⟩
  repeat (first | with_reducible assumption | with_reducible exact Below.refl _ _ | with_reducible refine Below.drew ?_ | with_reducible refine below_drewN ?_ _ | with_reducible refine bw_alloc ?_ _ | (with_reducible refine bw_set ?_ ?_ _; focus (dsimp only; omega)) | (with_reducible apply bw_behind; with_reducible assumption))

set_option maxHeartbeats 4000000 in
theorem chg_b_yes (q t r : Bool) (M A M2 A2 : Int) (c1 : ∀ W, Tab W → Calls Tryd.prog 39 #[.agg #[.bool q, .int .u64 M, .int .u64 A], .bool t] W (Makes (.agg #[.bool r, .int .u64 M2, .int .u64 A2]) W)) (w : World) (hT : Tab w) :
    Calls Tryd.prog 64 #[.agg #[.bool q, .int .u64 M, .int .u64 A], .bool true, .func (.func 39) #[] #[], .bool t] w (Makes (.agg #[.bool r, .int .u64 M2, .int .u64 A2]) w) := by
  have Cc1 := hide c1
  clear c1
  have SS := cell_same
  have LB' := ltB_add
  have LS := ltB_self
  have LA' := alloc_reads
  have LH := alloc_holds
  go_enter Tryd.func64, Tryd.ntmps64
  go_wp2_with (first | (go_at_call 39; (first | ((with_reducible refine (Cc1.out _ ?_).mono ?_); (refine hT.behind ?_; repeat (first | with_reducible assumption | with_reducible exact Below.refl _ _ | with_reducible refine Below.drew ?_ | with_reducible refine below_drewN ?_ _ | with_reducible refine bw_alloc ?_ _ | (with_reducible refine bw_set ?_ ?_ _; focus (dsimp only; omega)) | (with_reducible apply bw_behind; with_reducible assumption))))); rintro e wa ⟨rfl, hba⟩; have hra := below_reads hba; have hha := below_holds hba; obtain ⟨ma, hsa⟩ := below_grew hba))
  refine bodyPost_ret (v := .agg #[.bool r, .int .u64 M2, .int .u64 A2]) (by simp (maxDischargeDepth := 4) [results, Tryd.results64, go_sem, *]) rfl ?_
  refine ⟨rfl, ?_⟩
  repeat (first | with_reducible assumption | with_reducible exact Below.refl _ _ | with_reducible refine Below.drew ?_ | with_reducible refine below_drewN ?_ _ | with_reducible refine bw_alloc ?_ _ | (with_reducible refine bw_set ?_ ?_ _; focus (dsimp only; omega)) | (with_reducible apply bw_behind; with_reducible assumption))

set_option maxHeartbeats 4000000 in
theorem addr_no (q : Bool) (M A N : Int) (c1 : ∀ W, Tab W → Calls Tryd.prog 40 #[.agg #[.bool q, .int .u64 M, .int .u64 A]] W (Makes (.bool false) W)) (w : World) (hT : Tab w) :
    Calls Tryd.prog 12 #[.agg #[.bool q, .int .u64 M, .int .u64 A], .int .u64 N] w (Makes (.agg #[.bool false, .int .u64 M, .int .u64 N]) w) := by
  have Cc1 := hide c1
  clear c1
  have SS := cell_same
  have LB' := ltB_add
  have LS := ltB_self
  have LA' := alloc_reads
  have LH := alloc_holds
  go_enter Tryd.func12, Tryd.ntmps12
  go_wp2_with (first | (go_at_call 40; (first | ((with_reducible refine (Cc1.out _ ?_).mono ?_); (refine hT.behind ?_; repeat (first | with_reducible assumption | with_reducible exact Below.refl _ _ | with_reducible refine Below.drew ?_ | with_reducible refine below_drewN ?_ _ | with_reducible refine bw_alloc ?_ _ | (with_reducible refine bw_set ?_ ?_ _; focus (dsimp only; omega)) | (with_reducible apply bw_behind; with_reducible assumption))))); rintro e wa ⟨rfl, hba⟩; have hra := below_reads hba; have hha := below_holds hba; obtain ⟨ma, hsa⟩ := below_grew hba))
  refine bodyPost_ret (v := .agg #[.bool false, .int .u64 M, .int .u64 N]) (by simp (maxDischargeDepth := 4) [results, Tryd.results12, go_sem, *]) rfl ?_
  refine ⟨rfl, ?_⟩
  repeat (first | with_reducible assumption | with_reducible exact Below.refl _ _ | with_reducible refine Below.drew ?_ | with_reducible refine below_drewN ?_ _ | with_reducible refine bw_alloc ?_ _ | (with_reducible refine bw_set ?_ ?_ _; focus (dsimp only; omega)) | (with_reducible apply bw_behind; with_reducible assumption))

set_option maxHeartbeats 4000000 in
theorem addr_yes (q S : Bool) (M A N : Int) (c1 : ∀ W, Tab W → Calls Tryd.prog 40 #[.agg #[.bool q, .int .u64 M, .int .u64 A]] W (Makes (.bool true) W)) (c2 : ∀ W, Tab W → Calls Tryd.prog 41 #[.agg #[.bool q, .int .u64 M, .int .u64 A], .agg #[.bool false, .int .u64 M, .int .u64 N]] W (Makes (.bool S) W)) (w : World) (hT : Tab w) :
    Calls Tryd.prog 12 #[.agg #[.bool q, .int .u64 M, .int .u64 A], .int .u64 N] w (Makes (.agg #[.bool S, .int .u64 M, .int .u64 N]) w) := by
  have Cc1 := hide c1
  have Cc2 := hide c2
  clear c1 c2
  have SS := cell_same
  have LB' := ltB_add
  have LS := ltB_self
  have LA' := alloc_reads
  have LH := alloc_holds
  go_enter Tryd.func12, Tryd.ntmps12
  go_wp2_with (first | (go_at_call 40; (first | ((with_reducible refine (Cc1.out _ ?_).mono ?_); (refine hT.behind ?_; repeat (first | with_reducible assumption | with_reducible exact Below.refl _ _ | with_reducible refine Below.drew ?_ | with_reducible refine below_drewN ?_ _ | with_reducible refine bw_alloc ?_ _ | (with_reducible refine bw_set ?_ ?_ _; focus (dsimp only; omega)) | (with_reducible apply bw_behind; with_reducible assumption))))); rintro e wa ⟨rfl, hba⟩; have hra := below_reads hba; have hha := below_holds hba; obtain ⟨ma, hsa⟩ := below_grew hba) | (go_at_call 41; (first | ((with_reducible refine (Cc2.out _ ?_).mono ?_); (refine hT.behind ?_; repeat (first | with_reducible assumption | with_reducible exact Below.refl _ _ | with_reducible refine Below.drew ?_ | with_reducible refine below_drewN ?_ _ | with_reducible refine bw_alloc ?_ _ | (with_reducible refine bw_set ?_ ?_ _; focus (dsimp only; omega)) | (with_reducible apply bw_behind; with_reducible assumption))))); rintro e wb ⟨rfl, hbb⟩; have hrb := below_reads hbb; have hhb := below_holds hbb; obtain ⟨mb, hsb⟩ := below_grew hbb))
  refine bodyPost_ret (v := .agg #[.bool S, .int .u64 M, .int .u64 N]) (by simp (maxDischargeDepth := 4) [results, Tryd.results12, go_sem, *]) rfl ?_
  refine ⟨rfl, ?_⟩
  repeat (first | with_reducible assumption | with_reducible exact Below.refl _ _ | with_reducible refine Below.drew ?_ | with_reducible refine below_drewN ?_ _ | with_reducible refine bw_alloc ?_ _ | (with_reducible refine bw_set ?_ ?_ _; focus (dsimp only; omega)) | (with_reducible apply bw_behind; with_reducible assumption))

set_option maxHeartbeats 4000000 in
theorem move_let (q r : Bool) (M A D X M2 A2 : Int) (c1 : ∀ W, Tab W → Calls Tryd.prog 12 #[.agg #[.bool q, .int .u64 M, .int .u64 A], .int .u64 X] W (Makes (.agg #[.bool r, .int .u64 M2, .int .u64 A2]) W)) (hX : IntKind.u64.wrap (A + D) = X) (w : World) (hT : Tab w) :
    Calls Tryd.prog 14 #[.agg #[.bool q, .int .u64 M, .int .u64 A], .int .u64 D] w (Makes (.agg #[.bool r, .int .u64 M2, .int .u64 A2]) w) := by
  have Cc1 := hide c1
  clear c1
  have SS := cell_same
  have LB' := ltB_add
  have LS := ltB_self
  have LA' := alloc_reads
  have LH := alloc_holds
  go_enter Tryd.func14, Tryd.ntmps14
  go_wp2_with (first | (go_at_call 12; (first | ((with_reducible refine (Cc1.out _ ?_).mono ?_); (refine hT.behind ?_; repeat (first | with_reducible assumption | with_reducible exact Below.refl _ _ | with_reducible refine Below.drew ?_ | with_reducible refine below_drewN ?_ _ | with_reducible refine bw_alloc ?_ _ | (with_reducible refine bw_set ?_ ?_ _; focus (dsimp only; omega)) | (with_reducible apply bw_behind; with_reducible assumption))))); rintro e wa ⟨rfl, hba⟩; have hra := below_reads hba; have hha := below_holds hba; obtain ⟨ma, hsa⟩ := below_grew hba))
  refine bodyPost_ret (v := .agg #[.bool r, .int .u64 M2, .int .u64 A2]) (by simp (maxDischargeDepth := 4) [results, Tryd.results14, go_sem, *]) rfl ?_
  refine ⟨rfl, ?_⟩
  repeat (first | with_reducible assumption | with_reducible exact Below.refl _ _ | with_reducible refine Below.drew ?_ | with_reducible refine below_drewN ?_ _ | with_reducible refine bw_alloc ?_ _ | (with_reducible refine bw_set ?_ ?_ _; focus (dsimp only; omega)) | (with_reducible apply bw_behind; with_reducible assumption))

set_option maxHeartbeats 4000000 in
theorem tbase_let (q : Bool) (M A X : Int) (c1 : ∀ W, Tab W → Calls Tryd.prog 58 #[.agg #[.bool q, .int .u64 M, .int .u64 A], .func (.func 75) #[] #[]] W (Makes (.int .u64 X) W)) (w : World) (hT : Tab w) :
    Calls Tryd.prog 36 #[.agg #[.bool q, .int .u64 M, .int .u64 A]] w (Makes (.int .u64 X) w) := by
  have Cc1 := hide c1
  clear c1
  have SS := cell_same
  have LB' := ltB_add
  have LS := ltB_self
  have LA' := alloc_reads
  have LH := alloc_holds
  go_enter Tryd.func36, Tryd.ntmps36
  go_wp2_with (first | (go_at_call 58; (first | ((with_reducible refine (Cc1.out _ ?_).mono ?_); (refine hT.behind ?_; repeat (first | with_reducible assumption | with_reducible exact Below.refl _ _ | with_reducible refine Below.drew ?_ | with_reducible refine below_drewN ?_ _ | with_reducible refine bw_alloc ?_ _ | (with_reducible refine bw_set ?_ ?_ _; focus (dsimp only; omega)) | (with_reducible apply bw_behind; with_reducible assumption))))); rintro e wa ⟨rfl, hba⟩; have hra := below_reads hba; have hha := below_holds hba; obtain ⟨ma, hsa⟩ := below_grew hba))
  refine bodyPost_ret (v := .int .u64 X) (by simp (maxDischargeDepth := 4) [results, Tryd.results36, go_sem, *]) rfl ?_
  refine ⟨rfl, ?_⟩
  repeat (first | with_reducible assumption | with_reducible exact Below.refl _ _ | with_reducible refine Below.drew ?_ | with_reducible refine below_drewN ?_ _ | with_reducible refine bw_alloc ?_ _ | (with_reducible refine bw_set ?_ ?_ _; focus (dsimp only; omega)) | (with_reducible apply bw_behind; with_reducible assumption))

set_option maxHeartbeats 4000000 in
theorem ttop_let (q : Bool) (M A X : Int) (c1 : ∀ W, Tab W → Calls Tryd.prog 58 #[.agg #[.bool q, .int .u64 M, .int .u64 A], .func (.func 84) #[] #[]] W (Makes (.int .u64 X) W)) (w : World) (hT : Tab w) :
    Calls Tryd.prog 52 #[.agg #[.bool q, .int .u64 M, .int .u64 A]] w (Makes (.int .u64 X) w) := by
  have Cc1 := hide c1
  clear c1
  have SS := cell_same
  have LB' := ltB_add
  have LS := ltB_self
  have LA' := alloc_reads
  have LH := alloc_holds
  go_enter Tryd.func52, Tryd.ntmps52
  go_wp2_with (first | (go_at_call 58; (first | ((with_reducible refine (Cc1.out _ ?_).mono ?_); (refine hT.behind ?_; repeat (first | with_reducible assumption | with_reducible exact Below.refl _ _ | with_reducible refine Below.drew ?_ | with_reducible refine below_drewN ?_ _ | with_reducible refine bw_alloc ?_ _ | (with_reducible refine bw_set ?_ ?_ _; focus (dsimp only; omega)) | (with_reducible apply bw_behind; with_reducible assumption))))); rintro e wa ⟨rfl, hba⟩; have hra := below_reads hba; have hha := below_holds hba; obtain ⟨ma, hsa⟩ := below_grew hba))
  refine bodyPost_ret (v := .int .u64 X) (by simp (maxDischargeDepth := 4) [results, Tryd.results52, go_sem, *]) rfl ?_
  refine ⟨rfl, ?_⟩
  repeat (first | with_reducible assumption | with_reducible exact Below.refl _ _ | with_reducible refine Below.drew ?_ | with_reducible refine below_drewN ?_ _ | with_reducible refine bw_alloc ?_ _ | (with_reducible refine bw_set ?_ ?_ _; focus (dsimp only; omega)) | (with_reducible apply bw_behind; with_reducible assumption))

set_option maxHeartbeats 4000000 in
theorem tlength_let (q : Bool) (M A X : Int) (c1 : ∀ W, Tab W → Calls Tryd.prog 58 #[.agg #[.bool q, .int .u64 M, .int .u64 A], .func (.func 74) #[] #[]] W (Makes (.int .u64 X) W)) (w : World) (hT : Tab w) :
    Calls Tryd.prog 35 #[.agg #[.bool q, .int .u64 M, .int .u64 A]] w (Makes (.int .u64 X) w) := by
  have Cc1 := hide c1
  clear c1
  have SS := cell_same
  have LB' := ltB_add
  have LS := ltB_self
  have LA' := alloc_reads
  have LH := alloc_holds
  go_enter Tryd.func35, Tryd.ntmps35
  go_wp2_with (first | (go_at_call 58; (first | ((with_reducible refine (Cc1.out _ ?_).mono ?_); (refine hT.behind ?_; repeat (first | with_reducible assumption | with_reducible exact Below.refl _ _ | with_reducible refine Below.drew ?_ | with_reducible refine below_drewN ?_ _ | with_reducible refine bw_alloc ?_ _ | (with_reducible refine bw_set ?_ ?_ _; focus (dsimp only; omega)) | (with_reducible apply bw_behind; with_reducible assumption))))); rintro e wa ⟨rfl, hba⟩; have hra := below_reads hba; have hha := below_holds hba; obtain ⟨ma, hsa⟩ := below_grew hba))
  refine bodyPost_ret (v := .int .u64 X) (by simp (maxDischargeDepth := 4) [results, Tryd.results35, go_sem, *]) rfl ?_
  refine ⟨rfl, ?_⟩
  repeat (first | with_reducible assumption | with_reducible exact Below.refl _ _ | with_reducible refine Below.drew ?_ | with_reducible refine below_drewN ?_ _ | with_reducible refine bw_alloc ?_ _ | (with_reducible refine bw_set ?_ ?_ _; focus (dsimp only; omega)) | (with_reducible apply bw_behind; with_reducible assumption))

set_option maxHeartbeats 4000000 in
theorem offset_let (q : Bool) (M A X Y : Int) (c1 : ∀ W, Tab W → Calls Tryd.prog 36 #[.agg #[.bool q, .int .u64 M, .int .u64 A]] W (Makes (.int .u64 X) W)) (hY : IntKind.u64.wrap (A - X) = Y) (w : World) (hT : Tab w) :
    Calls Tryd.prog 37 #[.agg #[.bool q, .int .u64 M, .int .u64 A]] w (Makes (.int .u64 Y) w) := by
  have Cc1 := hide c1
  clear c1
  have SS := cell_same
  have LB' := ltB_add
  have LS := ltB_self
  have LA' := alloc_reads
  have LH := alloc_holds
  go_enter Tryd.func37, Tryd.ntmps37
  go_upto_region 1 with fail
  refine wp_abs (fun W => Tab W ∧ Below w.heap.size w W ∧ W.cell? ⟨w.heap.size, 0, none⟩ = some (.bool q) ∧ W.cell? ⟨w.heap.size, 1, none⟩ = some (.int .u64 M) ∧ W.cell? ⟨w.heap.size, 2, none⟩ = some (.int .u64 A)) ?_ ?_
  · refine ⟨?_, ?_, ?_, ?_, ?_⟩
    all_goals (first | with_reducible assumption | ((repeat (first | with_reducible assumption | with_reducible refine c_dr _ ?_ | with_reducible refine c_d1 ?_ | with_reducible refine c_al _ ?_ | (with_reducible refine c_set ?_ ?_; focus (dsimp only; omega)) | (with_reducible apply c_be; with_reducible assumption))); done) | ((repeat (first | with_reducible assumption | with_reducible refine o_dr _ ?_ | with_reducible refine o_d1 ?_ | with_reducible refine o_set ?_ | (with_reducible refine o_new ?_ ?_; (focus (simp)); (focus (simp))) | with_reducible refine o_al _ ?_ | (with_reducible apply o_be; with_reducible assumption))); done) | ((repeat (first | with_reducible assumption | with_reducible exact Below.refl _ _ | with_reducible refine Below.drew ?_ | with_reducible refine below_drewN ?_ _ | with_reducible refine bw_alloc ?_ _ | (with_reducible refine bw_set ?_ ?_ _; focus (dsimp only; omega)) | (with_reducible apply bw_behind; with_reducible assumption))); done) | (refine hT.behind ?_; (repeat (first | with_reducible assumption | with_reducible exact Below.refl _ _ | with_reducible refine Below.drew ?_ | with_reducible refine below_drewN ?_ _ | with_reducible refine bw_alloc ?_ _ | (with_reducible refine bw_set ?_ ?_ _; focus (dsimp only; omega)) | (with_reducible apply bw_behind; with_reducible assumption))); done) | (simp [go_sem, *]; omega) | (simp (maxDischargeDepth := 4) [go_sem, *]; done))
  rintro w0 ⟨hT0, hB0, c0, c1, c2⟩
  have y0 := behind_cell0 c0
  have y1 := behind_cell0 c1
  have y2 := behind_cell0 c2
  have hsome := Behind.any w0
  clear c0 c1 c2
  refine wp_region_behind w0 (by kernel_rfl) (by kernel_rfl) (Below.refl _ _) ?_
  repeat (go_big_quiet_step (first | (go_at_call 36; with_reducible first | exact behind_call Cc1.out hT0 _)))
  refine wpQuiet_nil ?_
  rintro _ ⟨y, rfl⟩
  have hTy := hT0.behind y.below
  have hBy := bw_behind y.below hB0
  have x0 := y0 y
  have x1 := y1 y
  have x2 := y2 y
  clear hsome y0 y1 y2
  obtain ⟨w1, hw1⟩ : ∃ W, W = y.world := ⟨_, rfl⟩
  rw [← hw1] at hTy hBy x0 x1 x2 ⊢
  clear hw1 y hT0 hB0
  go_wp2
  refine bodyPost_ret (v := .int .u64 Y) (by simp (maxDischargeDepth := 4) [results, Tryd.results37, go_sem, *]) rfl ?_
  refine ⟨rfl, ?_⟩
  repeat (first | with_reducible assumption | with_reducible exact Below.refl _ _ | with_reducible refine Below.drew ?_ | with_reducible refine below_drewN ?_ _ | with_reducible refine bw_alloc ?_ _ | (with_reducible refine bw_set ?_ ?_ _; focus (dsimp only; omega)) | (with_reducible apply bw_behind; with_reducible assumption))

set_option maxHeartbeats 4000000 in
theorem under_no (q r : Bool) (M A N X : Int) (hq : decide (q = r) = false) (w : World) (_hT : Tab w) :
    Calls Tryd.prog 38 #[.agg #[.bool q, .int .u64 M, .int .u64 A], .agg #[.bool r, .int .u64 N, .int .u64 X]] w (Makes (.bool false) w) := by
  have hq2 : (q == r) = false := by revert hq; cases q <;> cases r <;> simp
  have SS := cell_same
  have LB' := ltB_add
  have LS := ltB_self
  have LA' := alloc_reads
  have LH := alloc_holds
  go_enter Tryd.func38, Tryd.ntmps38
  go_wp2_with fail
  refine bodyPost_ret (v := .bool false) (by simp (maxDischargeDepth := 4) [results, Tryd.results38, go_sem, *]) rfl ?_
  refine ⟨rfl, ?_⟩
  repeat (first | with_reducible assumption | with_reducible exact Below.refl _ _ | with_reducible refine Below.drew ?_ | with_reducible refine below_drewN ?_ _ | with_reducible refine bw_alloc ?_ _ | (with_reducible refine bw_set ?_ ?_ _; focus (dsimp only; omega)) | (with_reducible apply bw_behind; with_reducible assumption))

set_option maxHeartbeats 4000000 in
theorem under_yes (q Z : Bool) (M A N X : Int) (c1 : ∀ W, Tab W → Calls Tryd.prog 31 #[.agg #[.bool q, .int .u64 M, .int .u64 A], .agg #[.bool q, .int .u64 N, .int .u64 X]] W (Makes (.bool Z) W)) (w : World) (hT : Tab w) :
    Calls Tryd.prog 38 #[.agg #[.bool q, .int .u64 M, .int .u64 A], .agg #[.bool q, .int .u64 N, .int .u64 X]] w (Makes (.bool Z) w) := by
  have Cc1 := hide c1
  clear c1
  have SS := cell_same
  have LB' := ltB_add
  have LS := ltB_self
  have LA' := alloc_reads
  have LH := alloc_holds
  go_enter Tryd.func38, Tryd.ntmps38
  go_wp2_with (first | (go_at_call 31; (first | ((with_reducible refine (Cc1.out _ ?_).mono ?_); (refine hT.behind ?_; repeat (first | with_reducible assumption | with_reducible exact Below.refl _ _ | with_reducible refine Below.drew ?_ | with_reducible refine below_drewN ?_ _ | with_reducible refine bw_alloc ?_ _ | (with_reducible refine bw_set ?_ ?_ _; focus (dsimp only; omega)) | (with_reducible apply bw_behind; with_reducible assumption))))); rintro e wa ⟨rfl, hba⟩; have hra := below_reads hba; have hha := below_holds hba; obtain ⟨ma, hsa⟩ := below_grew hba))
  refine bodyPost_ret (v := .bool Z) (by simp (maxDischargeDepth := 4) [results, Tryd.results38, go_sem, *]) rfl ?_
  refine ⟨rfl, ?_⟩
  repeat (first | with_reducible assumption | with_reducible exact Below.refl _ _ | with_reducible refine Below.drew ?_ | with_reducible refine below_drewN ?_ _ | with_reducible refine bw_alloc ?_ _ | (with_reducible refine bw_set ?_ ?_ _; focus (dsimp only; omega)) | (with_reducible apply bw_behind; with_reducible assumption))

set_option maxHeartbeats 4000000 in
theorem fault_1 (q : Bool) (M A N X : Int) (c1 : ∀ W, Tab W → Calls Tryd.prog 60 #[.agg #[.bool q, .int .u64 M, .int .u64 A]] W (Makes (.bool false) W)) (w : World) (hT : Tab w) :
    Calls Tryd.prog 69 #[.agg #[.bool q, .int .u64 M, .int .u64 A], .int .u64 N, .int .u64 X] w (Makes (.int .i64 1) w) := by
  have Cc1 := hide c1
  clear c1
  have SS := cell_same
  have LB' := ltB_add
  have LS := ltB_self
  have LA' := alloc_reads
  have LH := alloc_holds
  go_enter Tryd.func69, Tryd.ntmps69
  go_wp2_with (first | (go_at_call 60; (first | ((with_reducible refine (Cc1.out _ ?_).mono ?_); (refine hT.behind ?_; repeat (first | with_reducible assumption | with_reducible exact Below.refl _ _ | with_reducible refine Below.drew ?_ | with_reducible refine below_drewN ?_ _ | with_reducible refine bw_alloc ?_ _ | (with_reducible refine bw_set ?_ ?_ _; focus (dsimp only; omega)) | (with_reducible apply bw_behind; with_reducible assumption))))); rintro e wa ⟨rfl, hba⟩; have hra := below_reads hba; have hha := below_holds hba; obtain ⟨ma, hsa⟩ := below_grew hba))
  refine bodyPost_ret (v := .int .i64 1) (by simp (maxDischargeDepth := 4) [results, Tryd.results69, go_sem, *]) rfl ?_
  refine ⟨rfl, ?_⟩
  repeat (first | with_reducible assumption | with_reducible exact Below.refl _ _ | with_reducible refine Below.drew ?_ | with_reducible refine below_drewN ?_ _ | with_reducible refine bw_alloc ?_ _ | (with_reducible refine bw_set ?_ ?_ _; focus (dsimp only; omega)) | (with_reducible apply bw_behind; with_reducible assumption))

set_option maxHeartbeats 4000000 in
theorem fault_2 (q : Bool) (M A N X K : Int) (c1 : ∀ W, Tab W → Calls Tryd.prog 60 #[.agg #[.bool q, .int .u64 M, .int .u64 A]] W (Makes (.bool true) W)) (c2 : ∀ W, Tab W → Calls Tryd.prog 58 #[.agg #[.bool q, .int .u64 M, .int .u64 A], .func (.func 59) #[] #[]] W (Makes (.int .u64 K) W)) (hK : (K == 0) = false) (w : World) (hT : Tab w) :
    Calls Tryd.prog 69 #[.agg #[.bool q, .int .u64 M, .int .u64 A], .int .u64 N, .int .u64 X] w (Makes (.int .i64 2) w) := by
  have Cc1 := hide c1
  have Cc2 := hide c2
  clear c1 c2
  have SS := cell_same
  have LB' := ltB_add
  have LS := ltB_self
  have LA' := alloc_reads
  have LH := alloc_holds
  go_enter Tryd.func69, Tryd.ntmps69
  go_wp2_with (first | (go_at_call 60; (first | ((with_reducible refine (Cc1.out _ ?_).mono ?_); (refine hT.behind ?_; repeat (first | with_reducible assumption | with_reducible exact Below.refl _ _ | with_reducible refine Below.drew ?_ | with_reducible refine below_drewN ?_ _ | with_reducible refine bw_alloc ?_ _ | (with_reducible refine bw_set ?_ ?_ _; focus (dsimp only; omega)) | (with_reducible apply bw_behind; with_reducible assumption))))); rintro e wa ⟨rfl, hba⟩; have hra := below_reads hba; have hha := below_holds hba; obtain ⟨ma, hsa⟩ := below_grew hba) | (go_at_call 58; (first | ((with_reducible refine (Cc2.out _ ?_).mono ?_); (refine hT.behind ?_; repeat (first | with_reducible assumption | with_reducible exact Below.refl _ _ | with_reducible refine Below.drew ?_ | with_reducible refine below_drewN ?_ _ | with_reducible refine bw_alloc ?_ _ | (with_reducible refine bw_set ?_ ?_ _; focus (dsimp only; omega)) | (with_reducible apply bw_behind; with_reducible assumption))))); rintro e wb ⟨rfl, hbb⟩; have hrb := below_reads hbb; have hhb := below_holds hbb; obtain ⟨mb, hsb⟩ := below_grew hbb))
  refine bodyPost_ret (v := .int .i64 2) (by simp (maxDischargeDepth := 4) [results, Tryd.results69, go_sem, *]) rfl ?_
  refine ⟨rfl, ?_⟩
  repeat (first | with_reducible assumption | with_reducible exact Below.refl _ _ | with_reducible refine Below.drew ?_ | with_reducible refine below_drewN ?_ _ | with_reducible refine bw_alloc ?_ _ | (with_reducible refine bw_set ?_ ?_ _; focus (dsimp only; omega)) | (with_reducible apply bw_behind; with_reducible assumption))

set_option maxHeartbeats 4000000 in
theorem fault_3 (q : Bool) (M A N X : Int) (c1 : ∀ W, Tab W → Calls Tryd.prog 60 #[.agg #[.bool q, .int .u64 M, .int .u64 A]] W (Makes (.bool true) W)) (c2 : ∀ W, Tab W → Calls Tryd.prog 58 #[.agg #[.bool q, .int .u64 M, .int .u64 A], .func (.func 59) #[] #[]] W (Makes (.int .u64 0) W)) (c3 : ∀ W, Tab W → Calls Tryd.prog 63 #[.agg #[.bool q, .int .u64 M, .int .u64 A], .int .u64 N] W (Makes (.bool false) W)) (w : World) (hT : Tab w) :
    Calls Tryd.prog 69 #[.agg #[.bool q, .int .u64 M, .int .u64 A], .int .u64 N, .int .u64 X] w (Makes (.int .i64 3) w) := by
  have Cc1 := hide c1
  have Cc2 := hide c2
  have Cc3 := hide c3
  clear c1 c2 c3
  have SS := cell_same
  have LB' := ltB_add
  have LS := ltB_self
  have LA' := alloc_reads
  have LH := alloc_holds
  go_enter Tryd.func69, Tryd.ntmps69
  go_wp2_with (first | (go_at_call 60; (first | ((with_reducible refine (Cc1.out _ ?_).mono ?_); (refine hT.behind ?_; repeat (first | with_reducible assumption | with_reducible exact Below.refl _ _ | with_reducible refine Below.drew ?_ | with_reducible refine below_drewN ?_ _ | with_reducible refine bw_alloc ?_ _ | (with_reducible refine bw_set ?_ ?_ _; focus (dsimp only; omega)) | (with_reducible apply bw_behind; with_reducible assumption))))); rintro e wa ⟨rfl, hba⟩; have hra := below_reads hba; have hha := below_holds hba; obtain ⟨ma, hsa⟩ := below_grew hba) | (go_at_call 58; (first | ((with_reducible refine (Cc2.out _ ?_).mono ?_); (refine hT.behind ?_; repeat (first | with_reducible assumption | with_reducible exact Below.refl _ _ | with_reducible refine Below.drew ?_ | with_reducible refine below_drewN ?_ _ | with_reducible refine bw_alloc ?_ _ | (with_reducible refine bw_set ?_ ?_ _; focus (dsimp only; omega)) | (with_reducible apply bw_behind; with_reducible assumption))))); rintro e wb ⟨rfl, hbb⟩; have hrb := below_reads hbb; have hhb := below_holds hbb; obtain ⟨mb, hsb⟩ := below_grew hbb) | (go_at_call 63; (first | ((with_reducible refine (Cc3.out _ ?_).mono ?_); (refine hT.behind ?_; repeat (first | with_reducible assumption | with_reducible exact Below.refl _ _ | with_reducible refine Below.drew ?_ | with_reducible refine below_drewN ?_ _ | with_reducible refine bw_alloc ?_ _ | (with_reducible refine bw_set ?_ ?_ _; focus (dsimp only; omega)) | (with_reducible apply bw_behind; with_reducible assumption))))); rintro e wd ⟨rfl, hbd⟩; have hrd := below_reads hbd; have hhd := below_holds hbd; obtain ⟨md, hsd⟩ := below_grew hbd))
  refine bodyPost_ret (v := .int .i64 3) (by simp (maxDischargeDepth := 4) [results, Tryd.results69, go_sem, *]) rfl ?_
  refine ⟨rfl, ?_⟩
  repeat (first | with_reducible assumption | with_reducible exact Below.refl _ _ | with_reducible refine Below.drew ?_ | with_reducible refine below_drewN ?_ _ | with_reducible refine bw_alloc ?_ _ | (with_reducible refine bw_set ?_ ?_ _; focus (dsimp only; omega)) | (with_reducible apply bw_behind; with_reducible assumption))

set_option maxHeartbeats 4000000 in
theorem fault_4 (q : Bool) (M A N X D U : Int) (c1 : ∀ W, Tab W → Calls Tryd.prog 60 #[.agg #[.bool q, .int .u64 M, .int .u64 A]] W (Makes (.bool true) W)) (c2 : ∀ W, Tab W → Calls Tryd.prog 58 #[.agg #[.bool q, .int .u64 M, .int .u64 A], .func (.func 59) #[] #[]] W (Makes (.int .u64 0) W)) (c3 : ∀ W, Tab W → Calls Tryd.prog 63 #[.agg #[.bool q, .int .u64 M, .int .u64 A], .int .u64 N] W (Makes (.bool true) W)) (c4 : ∀ W, Tab W → Calls Tryd.prog 36 #[.agg #[.bool q, .int .u64 M, .int .u64 A]] W (Makes (.int .u64 D) W)) (c5 : ∀ W, Tab W → Calls Tryd.prog 52 #[.agg #[.bool q, .int .u64 M, .int .u64 A]] W (Makes (.int .u64 U) W)) (c6 : ∀ W, Tab W → Calls Tryd.prog 89 #[.int .u64 A, .int .u64 X, .int .u64 D, .int .u64 U] W (Makes (.bool false) W)) (w : World) (hT : Tab w) :
    Calls Tryd.prog 69 #[.agg #[.bool q, .int .u64 M, .int .u64 A], .int .u64 N, .int .u64 X] w (Makes (.int .i64 4) w) := by
  have Cc1 := hide c1
  have Cc2 := hide c2
  have Cc3 := hide c3
  have Cc4 := hide c4
  have Cc5 := hide c5
  have Cc6 := hide c6
  clear c1 c2 c3 c4 c5 c6
  have SS := cell_same
  have LB' := ltB_add
  have LS := ltB_self
  have LA' := alloc_reads
  have LH := alloc_holds
  go_enter Tryd.func69, Tryd.ntmps69
  go_upto_region 7 with (first | (go_at_call 60; (first | ((with_reducible refine (Cc1.out _ ?_).mono ?_); (refine hT.behind ?_; repeat (first | with_reducible assumption | with_reducible exact Below.refl _ _ | with_reducible refine Below.drew ?_ | with_reducible refine below_drewN ?_ _ | with_reducible refine bw_alloc ?_ _ | (with_reducible refine bw_set ?_ ?_ _; focus (dsimp only; omega)) | (with_reducible apply bw_behind; with_reducible assumption))))); rintro e wa ⟨rfl, hba⟩; have hra := below_reads hba; have hha := below_holds hba; obtain ⟨ma, hsa⟩ := below_grew hba) | (go_at_call 58; (first | ((with_reducible refine (Cc2.out _ ?_).mono ?_); (refine hT.behind ?_; repeat (first | with_reducible assumption | with_reducible exact Below.refl _ _ | with_reducible refine Below.drew ?_ | with_reducible refine below_drewN ?_ _ | with_reducible refine bw_alloc ?_ _ | (with_reducible refine bw_set ?_ ?_ _; focus (dsimp only; omega)) | (with_reducible apply bw_behind; with_reducible assumption))))); rintro e wb ⟨rfl, hbb⟩; have hrb := below_reads hbb; have hhb := below_holds hbb; obtain ⟨mb, hsb⟩ := below_grew hbb) | (go_at_call 63; (first | ((with_reducible refine (Cc3.out _ ?_).mono ?_); (refine hT.behind ?_; repeat (first | with_reducible assumption | with_reducible exact Below.refl _ _ | with_reducible refine Below.drew ?_ | with_reducible refine below_drewN ?_ _ | with_reducible refine bw_alloc ?_ _ | (with_reducible refine bw_set ?_ ?_ _; focus (dsimp only; omega)) | (with_reducible apply bw_behind; with_reducible assumption))))); rintro e wd ⟨rfl, hbd⟩; have hrd := below_reads hbd; have hhd := below_holds hbd; obtain ⟨md, hsd⟩ := below_grew hbd))

  refine wp_abs (fun W => Tab W ∧ Below w.heap.size w W ∧ W.cell? ⟨w.heap.size, 0, none⟩ = some (.bool q) ∧ W.cell? ⟨w.heap.size, 1, none⟩ = some (.int .u64 M) ∧ W.cell? ⟨w.heap.size, 2, none⟩ = some (.int .u64 A)) ?_ ?_
  · refine ⟨?_, ?_, ?_, ?_, ?_⟩
    all_goals (first | with_reducible assumption | ((repeat (first | with_reducible assumption | with_reducible refine c_dr _ ?_ | with_reducible refine c_d1 ?_ | with_reducible refine c_al _ ?_ | (with_reducible refine c_set ?_ ?_; focus (dsimp only; omega)) | (with_reducible apply c_be; with_reducible assumption))); done) | ((repeat (first | with_reducible assumption | with_reducible refine o_dr _ ?_ | with_reducible refine o_d1 ?_ | with_reducible refine o_set ?_ | (with_reducible refine o_new ?_ ?_; (focus (simp)); (focus (simp))) | with_reducible refine o_al _ ?_ | (with_reducible apply o_be; with_reducible assumption))); done) | ((repeat (first | with_reducible assumption | with_reducible exact Below.refl _ _ | with_reducible refine Below.drew ?_ | with_reducible refine below_drewN ?_ _ | with_reducible refine bw_alloc ?_ _ | (with_reducible refine bw_set ?_ ?_ _; focus (dsimp only; omega)) | (with_reducible apply bw_behind; with_reducible assumption))); done) | (refine hT.behind ?_; (repeat (first | with_reducible assumption | with_reducible exact Below.refl _ _ | with_reducible refine Below.drew ?_ | with_reducible refine below_drewN ?_ _ | with_reducible refine bw_alloc ?_ _ | (with_reducible refine bw_set ?_ ?_ _; focus (dsimp only; omega)) | (with_reducible apply bw_behind; with_reducible assumption))); done) | (simp [go_sem, *]; omega) | (simp (maxDischargeDepth := 4) [go_sem, *]; done))
  rintro w0 ⟨hT0, hB0, c0, c1, c2⟩
  have y0 := behind_cell0 c0
  have y1 := behind_cell0 c1
  have y2 := behind_cell0 c2
  have hsome := Behind.any w0
  clear c0 c1 c2
  refine wp_region_behind w0 (by kernel_rfl) (by kernel_rfl) (Below.refl _ _) ?_
  repeat (go_big_quiet_step (first | (go_at_call 36; with_reducible first | exact behind_call Cc4.out hT0 _) | (go_at_call 52; with_reducible first | exact behind_call Cc5.out hT0 _) | (go_at_call 89; with_reducible first | exact behind_call Cc6.out hT0 _)))
  refine wpQuiet_nil ?_
  rintro _ ⟨y, rfl⟩
  have hTy := hT0.behind y.below
  have hBy := bw_behind y.below hB0
  have x0 := y0 y
  have x1 := y1 y
  have x2 := y2 y
  clear hsome y0 y1 y2
  obtain ⟨w1, hw1⟩ : ∃ W, W = y.world := ⟨_, rfl⟩
  rw [← hw1] at hTy hBy x0 x1 x2 ⊢
  clear hw1 y hT0 hB0
  go_wp2
  refine bodyPost_ret (v := .int .i64 4) (by simp (maxDischargeDepth := 4) [results, Tryd.results69, go_sem, *]) rfl ?_
  refine ⟨rfl, ?_⟩
  repeat (first | with_reducible assumption | with_reducible exact Below.refl _ _ | with_reducible refine Below.drew ?_ | with_reducible refine below_drewN ?_ _ | with_reducible refine bw_alloc ?_ _ | (with_reducible refine bw_set ?_ ?_ _; focus (dsimp only; omega)) | (with_reducible apply bw_behind; with_reducible assumption))

set_option maxHeartbeats 4000000 in
theorem fault_0 (q : Bool) (M A N X D U : Int) (c1 : ∀ W, Tab W → Calls Tryd.prog 60 #[.agg #[.bool q, .int .u64 M, .int .u64 A]] W (Makes (.bool true) W)) (c2 : ∀ W, Tab W → Calls Tryd.prog 58 #[.agg #[.bool q, .int .u64 M, .int .u64 A], .func (.func 59) #[] #[]] W (Makes (.int .u64 0) W)) (c3 : ∀ W, Tab W → Calls Tryd.prog 63 #[.agg #[.bool q, .int .u64 M, .int .u64 A], .int .u64 N] W (Makes (.bool true) W)) (c4 : ∀ W, Tab W → Calls Tryd.prog 36 #[.agg #[.bool q, .int .u64 M, .int .u64 A]] W (Makes (.int .u64 D) W)) (c5 : ∀ W, Tab W → Calls Tryd.prog 52 #[.agg #[.bool q, .int .u64 M, .int .u64 A]] W (Makes (.int .u64 U) W)) (c6 : ∀ W, Tab W → Calls Tryd.prog 89 #[.int .u64 A, .int .u64 X, .int .u64 D, .int .u64 U] W (Makes (.bool true) W)) (w : World) (hT : Tab w) :
    Calls Tryd.prog 69 #[.agg #[.bool q, .int .u64 M, .int .u64 A], .int .u64 N, .int .u64 X] w (Makes (.int .i64 0) w) := by
  have Cc1 := hide c1
  have Cc2 := hide c2
  have Cc3 := hide c3
  have Cc4 := hide c4
  have Cc5 := hide c5
  have Cc6 := hide c6
  clear c1 c2 c3 c4 c5 c6
  have SS := cell_same
  have LB' := ltB_add
  have LS := ltB_self
  have LA' := alloc_reads
  have LH := alloc_holds
  go_enter Tryd.func69, Tryd.ntmps69
  go_upto_region 7 with (first | (go_at_call 60; (first | ((with_reducible refine (Cc1.out _ ?_).mono ?_); (refine hT.behind ?_; repeat (first | with_reducible assumption | with_reducible exact Below.refl _ _ | with_reducible refine Below.drew ?_ | with_reducible refine below_drewN ?_ _ | with_reducible refine bw_alloc ?_ _ | (with_reducible refine bw_set ?_ ?_ _; focus (dsimp only; omega)) | (with_reducible apply bw_behind; with_reducible assumption))))); rintro e wa ⟨rfl, hba⟩; have hra := below_reads hba; have hha := below_holds hba; obtain ⟨ma, hsa⟩ := below_grew hba) | (go_at_call 58; (first | ((with_reducible refine (Cc2.out _ ?_).mono ?_); (refine hT.behind ?_; repeat (first | with_reducible assumption | with_reducible exact Below.refl _ _ | with_reducible refine Below.drew ?_ | with_reducible refine below_drewN ?_ _ | with_reducible refine bw_alloc ?_ _ | (with_reducible refine bw_set ?_ ?_ _; focus (dsimp only; omega)) | (with_reducible apply bw_behind; with_reducible assumption))))); rintro e wb ⟨rfl, hbb⟩; have hrb := below_reads hbb; have hhb := below_holds hbb; obtain ⟨mb, hsb⟩ := below_grew hbb) | (go_at_call 63; (first | ((with_reducible refine (Cc3.out _ ?_).mono ?_); (refine hT.behind ?_; repeat (first | with_reducible assumption | with_reducible exact Below.refl _ _ | with_reducible refine Below.drew ?_ | with_reducible refine below_drewN ?_ _ | with_reducible refine bw_alloc ?_ _ | (with_reducible refine bw_set ?_ ?_ _; focus (dsimp only; omega)) | (with_reducible apply bw_behind; with_reducible assumption))))); rintro e wd ⟨rfl, hbd⟩; have hrd := below_reads hbd; have hhd := below_holds hbd; obtain ⟨md, hsd⟩ := below_grew hbd))

  refine wp_abs (fun W => Tab W ∧ Below w.heap.size w W ∧ W.cell? ⟨w.heap.size, 0, none⟩ = some (.bool q) ∧ W.cell? ⟨w.heap.size, 1, none⟩ = some (.int .u64 M) ∧ W.cell? ⟨w.heap.size, 2, none⟩ = some (.int .u64 A)) ?_ ?_
  · refine ⟨?_, ?_, ?_, ?_, ?_⟩
    all_goals (first | with_reducible assumption | ((repeat (first | with_reducible assumption | with_reducible refine c_dr _ ?_ | with_reducible refine c_d1 ?_ | with_reducible refine c_al _ ?_ | (with_reducible refine c_set ?_ ?_; focus (dsimp only; omega)) | (with_reducible apply c_be; with_reducible assumption))); done) | ((repeat (first | with_reducible assumption | with_reducible refine o_dr _ ?_ | with_reducible refine o_d1 ?_ | with_reducible refine o_set ?_ | (with_reducible refine o_new ?_ ?_; (focus (simp)); (focus (simp))) | with_reducible refine o_al _ ?_ | (with_reducible apply o_be; with_reducible assumption))); done) | ((repeat (first | with_reducible assumption | with_reducible exact Below.refl _ _ | with_reducible refine Below.drew ?_ | with_reducible refine below_drewN ?_ _ | with_reducible refine bw_alloc ?_ _ | (with_reducible refine bw_set ?_ ?_ _; focus (dsimp only; omega)) | (with_reducible apply bw_behind; with_reducible assumption))); done) | (refine hT.behind ?_; (repeat (first | with_reducible assumption | with_reducible exact Below.refl _ _ | with_reducible refine Below.drew ?_ | with_reducible refine below_drewN ?_ _ | with_reducible refine bw_alloc ?_ _ | (with_reducible refine bw_set ?_ ?_ _; focus (dsimp only; omega)) | (with_reducible apply bw_behind; with_reducible assumption))); done) | (simp [go_sem, *]; omega) | (simp (maxDischargeDepth := 4) [go_sem, *]; done))
  rintro w0 ⟨hT0, hB0, c0, c1, c2⟩
  have y0 := behind_cell0 c0
  have y1 := behind_cell0 c1
  have y2 := behind_cell0 c2
  have hsome := Behind.any w0
  clear c0 c1 c2
  refine wp_region_behind w0 (by kernel_rfl) (by kernel_rfl) (Below.refl _ _) ?_
  repeat (go_big_quiet_step (first | (go_at_call 36; with_reducible first | exact behind_call Cc4.out hT0 _) | (go_at_call 52; with_reducible first | exact behind_call Cc5.out hT0 _) | (go_at_call 89; with_reducible first | exact behind_call Cc6.out hT0 _)))
  refine wpQuiet_nil ?_
  rintro _ ⟨y, rfl⟩
  have hTy := hT0.behind y.below
  have hBy := bw_behind y.below hB0
  have x0 := y0 y
  have x1 := y1 y
  have x2 := y2 y
  clear hsome y0 y1 y2
  obtain ⟨w1, hw1⟩ : ∃ W, W = y.world := ⟨_, rfl⟩
  rw [← hw1] at hTy hBy x0 x1 x2 ⊢
  clear hw1 y hT0 hB0
  go_wp2
  refine bodyPost_ret (v := .int .i64 0) (by simp (maxDischargeDepth := 4) [results, Tryd.results69, go_sem, *]) rfl ?_
  refine ⟨rfl, ?_⟩
  repeat (first | with_reducible assumption | with_reducible exact Below.refl _ _ | with_reducible refine Below.drew ?_ | with_reducible refine below_drewN ?_ _ | with_reducible refine bw_alloc ?_ _ | (with_reducible refine bw_set ?_ ?_ _; focus (dsimp only; omega)) | (with_reducible apply bw_behind; with_reducible assumption))

set_option maxHeartbeats 4000000 in
theorem allows_let (q S : Bool) (M A N X : Int) (c1 : ∀ W, Tab W → Calls Tryd.prog 69 #[.agg #[.bool q, .int .u64 M, .int .u64 A], .int .u64 N, .int .u64 1] W (Makes (.int .i64 X) W)) (hS : (X == 0) = S) (w : World) (hT : Tab w) :
    Calls Tryd.prog 53 #[.agg #[.bool q, .int .u64 M, .int .u64 A], .int .u64 N] w (Makes (.bool S) w) := by
  have Cc1 := hide c1
  clear c1
  have SS := cell_same
  have LB' := ltB_add
  have LS := ltB_self
  have LA' := alloc_reads
  have LH := alloc_holds
  go_enter Tryd.func53, Tryd.ntmps53
  go_wp2_with (first | (go_at_call 69; (first | ((with_reducible refine (Cc1.out _ ?_).mono ?_); (refine hT.behind ?_; repeat (first | with_reducible assumption | with_reducible exact Below.refl _ _ | with_reducible refine Below.drew ?_ | with_reducible refine below_drewN ?_ _ | with_reducible refine bw_alloc ?_ _ | (with_reducible refine bw_set ?_ ?_ _; focus (dsimp only; omega)) | (with_reducible apply bw_behind; with_reducible assumption))))); rintro e wa ⟨rfl, hba⟩; have hra := below_reads hba; have hha := below_holds hba; obtain ⟨ma, hsa⟩ := below_grew hba))
  refine bodyPost_ret (v := .bool S) (by simp (maxDischargeDepth := 4) [results, Tryd.results53, go_sem, *]) rfl ?_
  refine ⟨rfl, ?_⟩
  repeat (first | with_reducible assumption | with_reducible exact Below.refl _ _ | with_reducible refine Below.drew ?_ | with_reducible refine below_drewN ?_ _ | with_reducible refine bw_alloc ?_ _ | (with_reducible refine bw_set ?_ ?_ _; focus (dsimp only; omega)) | (with_reducible apply bw_behind; with_reducible assumption))
end Go.Proofs.YtbncoiejbclpjaaDoor
