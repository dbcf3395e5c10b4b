/-
  What algebra's Base and Clear, capab's Null, and the document's span of a capability answer.
-/
import Derived.Test.YtnbfjaocakghkaaDoorCapLook
import Derived.Test.YtnbfjaocakghkaaDoorCapRef
import Derived.Test.YtnbfjaocakghkaaDoorMore
import Derived.Test.YtnbfjaocakghkaaDoorRegMath
namespace Go.Proofs.YtnbfjaocakghkaaDoor
open Go.RowKit Words FieldMath BoundsMath

set_option maxHeartbeats 4000000 in
theorem wtag_let (q t : Bool) (M A : Int) (w : World) (_hT : Tab w) :
    Calls Tryd.prog 33 #[.agg #[.bool q, .int .u64 M, .int .u64 A], .bool t] w (Makes (.agg #[.bool t, .int .u64 M, .int .u64 A]) w) := by
  have SS := cell_same
  have LB' := ltB_add
  have LS := ltB_self
  have LA' := alloc_reads
  have LH := alloc_holds
  go_enter Tryd.func33, Tryd.ntmps33
  go_wp2_with fail
  refine bodyPost_ret (v := .agg #[.bool t, .int .u64 M, .int .u64 A]) (by simp (maxDischargeDepth := 4) [results, Tryd.results33, go_sem, *]) rfl ?_
  refine ⟨rfl, ?_⟩
  repeat (first | with_reducible assumption | with_reducible exact Below.refl _ _ | with_reducible refine Below.drew ?_ | with_reducible refine below_drewN ?_ _ | with_reducible refine bw_alloc ?_ _ | (with_reducible refine bw_set ?_ ?_ _; focus (dsimp only; omega)) | (with_reducible apply bw_behind; with_reducible assumption))

set_option maxHeartbeats 4000000 in
theorem clear_let (q : Bool) (M A : Int) (c1 : ∀ W, Tab W → Calls Tryd.prog 33 #[.agg #[.bool q, .int .u64 M, .int .u64 A], .bool false] W (Makes (.agg #[.bool false, .int .u64 M, .int .u64 A]) W)) (w : World) (hT : Tab w) :
    Calls Tryd.prog 22 #[.agg #[.bool q, .int .u64 M, .int .u64 A]] w (Makes (.agg #[.bool false, .int .u64 M, .int .u64 A]) w) := by
  have Cc1 := hide c1
  clear c1
  have SS := cell_same
  have LB' := ltB_add
  have LS := ltB_self
  have LA' := alloc_reads
  have LH := alloc_holds
  go_enter Tryd.func22, Tryd.ntmps22
  go_wp2_with (first | (go_at_call 33; (first | ((with_reducible refine (Cc1.out _ ?_).mono ?_); (refine hT.behind ?_; repeat (first | with_reducible assumption | with_reducible exact Below.refl _ _ | with_reducible refine Below.drew ?_ | with_reducible refine below_drewN ?_ _ | with_reducible refine bw_alloc ?_ _ | (with_reducible refine bw_set ?_ ?_ _; focus (dsimp only; omega)) | (with_reducible apply bw_behind; with_reducible assumption))))); rintro e wa ⟨rfl, hba⟩; have hra := below_reads hba; have hha := below_holds hba; obtain ⟨ma, hsa⟩ := below_grew hba))
  refine bodyPost_ret (v := .agg #[.bool false, .int .u64 M, .int .u64 A]) (by simp (maxDischargeDepth := 4) [results, Tryd.results22, go_sem, *]) rfl ?_
  refine ⟨rfl, ?_⟩
  repeat (first | with_reducible assumption | with_reducible exact Below.refl _ _ | with_reducible refine Below.drew ?_ | with_reducible refine below_drewN ?_ _ | with_reducible refine bw_alloc ?_ _ | (with_reducible refine bw_set ?_ ?_ _; focus (dsimp only; omega)) | (with_reducible apply bw_behind; with_reducible assumption))

set_option maxHeartbeats 4000000 in
theorem vbase_let (B T P K : Int) (w : World) (_hT : Tab w) :
    Calls Tryd.prog 36 #[.agg #[.int .u64 B, .int .u64 T, .int .u64 P, .int .u64 K]] w (Makes (.int .u64 B) w) := by
  have SS := cell_same
  have LB' := ltB_add
  have LS := ltB_self
  have LA' := alloc_reads
  have LH := alloc_holds
  go_enter Tryd.func36, Tryd.ntmps36
  go_wp2_with fail
  refine bodyPost_ret (v := .int .u64 B) (by simp (maxDischargeDepth := 4) [results, Tryd.results36, go_sem, *]) rfl ?_
  refine ⟨rfl, ?_⟩
  repeat (first | with_reducible assumption | with_reducible exact Below.refl _ _ | with_reducible refine Below.drew ?_ | with_reducible refine below_drewN ?_ _ | with_reducible refine bw_alloc ?_ _ | (with_reducible refine bw_set ?_ ?_ _; focus (dsimp only; omega)) | (with_reducible apply bw_behind; with_reducible assumption))

set_option maxHeartbeats 4000000 in
theorem of_base (q O : Bool) (M A B T P K : Int) (c1 : ∀ W, Tab W → Calls Tryd.prog 38 #[.agg #[.bool q, .int .u64 M, .int .u64 A]] W (Makes (.tuple #[.agg #[.int .u64 B, .int .u64 T, .int .u64 P, .int .u64 K], .bool O]) W)) (c2 : ∀ W, Tab W → Calls Tryd.prog 36 #[.agg #[.int .u64 B, .int .u64 T, .int .u64 P, .int .u64 K]] W (Makes (.int .u64 B) W)) (w : World) (hT : Tab w) :
    Calls Tryd.prog 35 #[.agg #[.bool q, .int .u64 M, .int .u64 A], .func (.func 36) #[] #[]] w (Makes (.int .u64 B) w) := by
  have Cc1 := hide c1
  have Cc2 := hide c2
  clear c1 c2
  have SS := cell_same
  have LB' := ltB_add
  have LS := ltB_self
  have LA' := alloc_reads
  have LH := alloc_holds
  go_enter Tryd.func35, Tryd.ntmps35
  go_wp2_with (first | (go_at_call 38; (first | ((with_reducible refine (Cc1.out _ ?_).mono ?_); (refine hT.behind ?_; repeat (first | with_reducible assumption | with_reducible exact Below.refl _ _ | with_reducible refine Below.drew ?_ | with_reducible refine below_drewN ?_ _ | with_reducible refine bw_alloc ?_ _ | (with_reducible refine bw_set ?_ ?_ _; focus (dsimp only; omega)) | (with_reducible apply bw_behind; with_reducible assumption))))); rintro e wa ⟨rfl, hba⟩; have hra := below_reads hba; have hha := below_holds hba; obtain ⟨ma, hsa⟩ := below_grew hba) | (go_at_call 36; (first | ((with_reducible refine (Cc2.out _ ?_).mono ?_); (refine hT.behind ?_; repeat (first | with_reducible assumption | with_reducible exact Below.refl _ _ | with_reducible refine Below.drew ?_ | with_reducible refine below_drewN ?_ _ | with_reducible refine bw_alloc ?_ _ | (with_reducible refine bw_set ?_ ?_ _; focus (dsimp only; omega)) | (with_reducible apply bw_behind; with_reducible assumption))))); rintro e wb ⟨rfl, hbb⟩; have hrb := below_reads hbb; have hhb := below_holds hbb; obtain ⟨mb, hsb⟩ := below_grew hbb))
  refine bodyPost_ret (v := .int .u64 B) (by simp (maxDischargeDepth := 4) [results, Tryd.results35, go_sem, *]) rfl ?_
  refine ⟨rfl, ?_⟩
  repeat (first | with_reducible assumption | with_reducible exact Below.refl _ _ | with_reducible refine Below.drew ?_ | with_reducible refine below_drewN ?_ _ | with_reducible refine bw_alloc ?_ _ | (with_reducible refine bw_set ?_ ?_ _; focus (dsimp only; omega)) | (with_reducible apply bw_behind; with_reducible assumption))

set_option maxHeartbeats 4000000 in
theorem tbase_let (q : Bool) (M A X : Int) (c1 : ∀ W, Tab W → Calls Tryd.prog 35 #[.agg #[.bool q, .int .u64 M, .int .u64 A], .func (.func 36) #[] #[]] W (Makes (.int .u64 X) W)) (w : World) (hT : Tab w) :
    Calls Tryd.prog 27 #[.agg #[.bool q, .int .u64 M, .int .u64 A]] w (Makes (.int .u64 X) w) := by
  have Cc1 := hide c1
  clear c1
  have SS := cell_same
  have LB' := ltB_add
  have LS := ltB_self
  have LA' := alloc_reads
  have LH := alloc_holds
  go_enter Tryd.func27, Tryd.ntmps27
  go_wp2_with (first | (go_at_call 35; (first | ((with_reducible refine (Cc1.out _ ?_).mono ?_); (refine hT.behind ?_; repeat (first | with_reducible assumption | with_reducible exact Below.refl _ _ | with_reducible refine Below.drew ?_ | with_reducible refine below_drewN ?_ _ | with_reducible refine bw_alloc ?_ _ | (with_reducible refine bw_set ?_ ?_ _; focus (dsimp only; omega)) | (with_reducible apply bw_behind; with_reducible assumption))))); rintro e wa ⟨rfl, hba⟩; have hra := below_reads hba; have hha := below_holds hba; obtain ⟨ma, hsa⟩ := below_grew hba))
  refine bodyPost_ret (v := .int .u64 X) (by simp (maxDischargeDepth := 4) [results, Tryd.results27, go_sem, *]) rfl ?_
  refine ⟨rfl, ?_⟩
  repeat (first | with_reducible assumption | with_reducible exact Below.refl _ _ | with_reducible refine Below.drew ?_ | with_reducible refine below_drewN ?_ _ | with_reducible refine bw_alloc ?_ _ | (with_reducible refine bw_set ?_ ?_ _; focus (dsimp only; omega)) | (with_reducible apply bw_behind; with_reducible assumption))

set_option maxHeartbeats 400000 in
theorem null_any (N : Int) (w : World) : Calls Tryd.prog 31 #[.int .u64 N] w (Makes (.agg #[.bool false, .int .u64 0, .int .u64 N]) w) := by
  go_enter Tryd.func31, Tryd.ntmps31
  go_wp2
  refine bodyPost_ret (v := .agg #[.bool false, .int .u64 0, .int .u64 N]) (by simp (maxDischargeDepth := 4) [results, Tryd.results31, go_sem, *]) rfl ?_
  refine ⟨rfl, ?_⟩
  repeat (first | with_reducible assumption | with_reducible exact Below.refl _ _ | with_reducible refine Below.drew ?_ | with_reducible refine below_drewN ?_ _ | with_reducible refine bw_alloc ?_ _ | (with_reducible refine bw_set ?_ ?_ _; focus (dsimp only; omega)) | (with_reducible apply bw_behind; with_reducible assumption))

theorem null_all (N : Nat) (w : World) : Calls Tryd.prog 31 #[.int .u64 (N : Int)] w (Makes (capV (false, 0, N)) w) := null_any (N : Int) w

theorem clear_all (c : C3) (w : World) (hT : Tab w) : Calls Tryd.prog 22 #[capV c] w (Makes (capV (false, c.2.1, c.2.2)) w) :=
  clear_let _ _ _ (fun W hW => wtag_let _ _ _ _ W hW) w hT

/-- The base of a capability's span. -/
def basN (c : C3) : Nat := lB c.2.1 c.2.2
theorem base_all (c : C3) (hc : Wf3 c) (w : World) (hT : Tab w) : Calls Tryd.prog 27 #[capV c] w (Makes (.int .u64 ((basN c : Nat) : Int)) w) :=
  tbase_let _ _ _ _ (fun W hW => of_base _ _ _ _ _ _ _ _ (fun W hW => look_any c.1 c.2.1 c.2.2 hc.1 W hW) (fun W hW => vbase_let _ _ _ _ W hW) W hW) w hT

set_option maxHeartbeats 4000000 in
theorem rspan_let (q O : Bool) (M A D U P K : Int) (c1 : ∀ W, Calls Tryd.prog 37 #[.agg #[.bool q, .int .u64 M, .int .u64 A]] W (Makes (.tuple #[.agg #[.int .u64 D, .int .u64 U, .int .u64 P, .int .u64 K], .bool O]) W)) (w : World) :
    Calls Tryd.prog 29 #[.agg #[.bool q, .int .u64 M, .int .u64 A]] w (Makes (.agg #[.int .u64 D, .int .u64 U]) w) := by
  have SS := cell_same
  have LB' := ltB_add
  have LS := ltB_self
  have LA' := alloc_reads
  have LH := alloc_holds
  have C1 := hide c1
  clear c1
  go_enter Tryd.func29, Tryd.ntmps29
  go_wp2_with (first | (go_at_call 37; (with_reducible refine (C1.out _).mono ?_); rintro e w1 ⟨rfl, hb1⟩; have hr1 := below_reads hb1; have hh1 := below_holds hb1; obtain ⟨m1, hs1⟩ := below_grew hb1))
  refine bodyPost_ret (v := .agg #[.int .u64 D, .int .u64 U]) (by simp (maxDischargeDepth := 4) [results, Tryd.results29, go_sem, *]) rfl ?_
  refine ⟨rfl, ?_⟩
  repeat (first | with_reducible assumption | with_reducible exact Below.refl _ _ | with_reducible refine Below.drew ?_ | with_reducible refine below_drewN ?_ _ | with_reducible refine bw_alloc ?_ _ | (with_reducible refine bw_set ?_ ?_ _; focus (dsimp only; omega)) | (with_reducible apply bw_behind; with_reducible assumption))

theorem rspan_all (c : C3) (w : World) : Calls Tryd.prog 29 #[capV c] w (Makes (.agg #[.int .u64 ((basN c : Nat) : Int), .int .u64 ((lT c.2.1 c.2.2 : Nat) : Int)]) w) :=
  rspan_let _ _ _ _ _ _ _ _ (fun W => rlook_any c.1 c.2.1 c.2.2 W) w

theorem basN_lt (c : C3) : basN c ≤ 281474976710656 := Nat.le_trans (dB_le ..) (dT_le ..)

end Go.Proofs.YtnbfjaocakghkaaDoor
