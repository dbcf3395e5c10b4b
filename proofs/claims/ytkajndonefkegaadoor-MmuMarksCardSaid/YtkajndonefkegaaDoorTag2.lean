/-
  What Get and With answer, and the document's.
-/
import Derived.Test.YtkajndonefkegaaDoorGTag
namespace Go.Proofs.YtkajndonefkegaaDoor
open Go.RowKit Words

set_option maxHeartbeats 4000000 in
theorem with_0_true (A B C D i Y X : Int) (c1 : ∀ W, Calls Tryd.prog 88 #[.int .i64 i] W (Quiet (.bool true) W)) (c2 : ∀ W, Calls Tryd.prog 89 #[.int .i64 i] W (Quiet (.int .u64 Y) W)) (_h0 : 0 ≤ i) (_h1 : i < 256) (_hq : i.tdiv 64 = 0) (_hqd : i / 64 = 0) (_hX : bits .or .u64 A Y = X) (w : World) :
    Calls Tryd.prog 86 #[.agg #[.int .u64 A, .int .u64 B, .int .u64 C, .int .u64 D], .int .i64 i, .bool true] w (Makes (.agg #[.int .u64 X, .int .u64 B, .int .u64 C, .int .u64 D]) w) := by
  have Cc1 := hide c1
  have Cc2 := hide c2
  clear c1 c2
  have SS := cell_same
  have LB' := ltB_add
  have LS := ltB_self
  have LA' := alloc_reads
  have LH := alloc_holds
  go_enter Tryd.func86, Tryd.ntmps86
  go_upto_region 4 with (first | (go_at_call 88; (with_reducible first | refine (Cc1.out _).mono ?_); rintro e w' ⟨rfl, n1, rfl⟩))
  go_region_with (first | (go_at_call 89; (with_reducible first | refine (Cc2.out _).mono ?_); rintro e w' ⟨rfl, n1, rfl⟩))
  all_goals
    go_wp2_with fail
    refine bodyPost_ret (v := .agg #[.int .u64 X, .int .u64 B, .int .u64 C, .int .u64 D]) (by simp (maxDischargeDepth := 4) [results, Tryd.results86, go_sem, *]) rfl ?_
    refine ⟨rfl, ?_⟩
    repeat (first | with_reducible assumption | with_reducible exact Below.refl _ _ | with_reducible refine Below.drew ?_ | with_reducible refine below_drewN ?_ _ | with_reducible refine bw_alloc ?_ _ | (with_reducible refine bw_set ?_ ?_ _; focus (dsimp only; omega)) | (with_reducible apply bw_behind; with_reducible assumption))

set_option maxHeartbeats 4000000 in
theorem with_0_false (A B C D i Y X : Int) (c1 : ∀ W, Calls Tryd.prog 88 #[.int .i64 i] W (Quiet (.bool true) W)) (c2 : ∀ W, Calls Tryd.prog 89 #[.int .i64 i] W (Quiet (.int .u64 Y) W)) (_h0 : 0 ≤ i) (_h1 : i < 256) (_hq : i.tdiv 64 = 0) (_hqd : i / 64 = 0) (_hX : bits .andNot .u64 A Y = X) (w : World) :
    Calls Tryd.prog 86 #[.agg #[.int .u64 A, .int .u64 B, .int .u64 C, .int .u64 D], .int .i64 i, .bool false] w (Makes (.agg #[.int .u64 X, .int .u64 B, .int .u64 C, .int .u64 D]) w) := by
  have Cc1 := hide c1
  have Cc2 := hide c2
  clear c1 c2
  have SS := cell_same
  have LB' := ltB_add
  have LS := ltB_self
  have LA' := alloc_reads
  have LH := alloc_holds
  go_enter Tryd.func86, Tryd.ntmps86
  go_upto_region 1 with (first | (go_at_call 88; (with_reducible first | refine (Cc1.out _).mono ?_); rintro e w' ⟨rfl, n1, rfl⟩))
  go_region_with (first | (go_at_call 89; (with_reducible first | refine (Cc2.out _).mono ?_); rintro e w' ⟨rfl, n1, rfl⟩))
  all_goals
    go_wp2_with fail
    refine bodyPost_ret (v := .agg #[.int .u64 X, .int .u64 B, .int .u64 C, .int .u64 D]) (by simp (maxDischargeDepth := 4) [results, Tryd.results86, go_sem, *]) rfl ?_
    refine ⟨rfl, ?_⟩
    repeat (first | with_reducible assumption | with_reducible exact Below.refl _ _ | with_reducible refine Below.drew ?_ | with_reducible refine below_drewN ?_ _ | with_reducible refine bw_alloc ?_ _ | (with_reducible refine bw_set ?_ ?_ _; focus (dsimp only; omega)) | (with_reducible apply bw_behind; with_reducible assumption))

set_option maxHeartbeats 4000000 in
theorem with_1_true (A B C D i Y X : Int) (c1 : ∀ W, Calls Tryd.prog 88 #[.int .i64 i] W (Quiet (.bool true) W)) (c2 : ∀ W, Calls Tryd.prog 89 #[.int .i64 i] W (Quiet (.int .u64 Y) W)) (_h0 : 0 ≤ i) (_h1 : i < 256) (_hq : i.tdiv 64 = 1) (_hqd : i / 64 = 1) (_hX : bits .or .u64 B Y = X) (w : World) :
    Calls Tryd.prog 86 #[.agg #[.int .u64 A, .int .u64 B, .int .u64 C, .int .u64 D], .int .i64 i, .bool true] w (Makes (.agg #[.int .u64 A, .int .u64 X, .int .u64 C, .int .u64 D]) w) := by
  have Cc1 := hide c1
  have Cc2 := hide c2
  clear c1 c2
  have SS := cell_same
  have LB' := ltB_add
  have LS := ltB_self
  have LA' := alloc_reads
  have LH := alloc_holds
  go_enter Tryd.func86, Tryd.ntmps86
  go_upto_region 4 with (first | (go_at_call 88; (with_reducible first | refine (Cc1.out _).mono ?_); rintro e w' ⟨rfl, n1, rfl⟩))
  go_region_with (first | (go_at_call 89; (with_reducible first | refine (Cc2.out _).mono ?_); rintro e w' ⟨rfl, n1, rfl⟩))
  all_goals
    go_wp2_with fail
    refine bodyPost_ret (v := .agg #[.int .u64 A, .int .u64 X, .int .u64 C, .int .u64 D]) (by simp (maxDischargeDepth := 4) [results, Tryd.results86, go_sem, *]) rfl ?_
    refine ⟨rfl, ?_⟩
    repeat (first | with_reducible assumption | with_reducible exact Below.refl _ _ | with_reducible refine Below.drew ?_ | with_reducible refine below_drewN ?_ _ | with_reducible refine bw_alloc ?_ _ | (with_reducible refine bw_set ?_ ?_ _; focus (dsimp only; omega)) | (with_reducible apply bw_behind; with_reducible assumption))

set_option maxHeartbeats 4000000 in
theorem with_1_false (A B C D i Y X : Int) (c1 : ∀ W, Calls Tryd.prog 88 #[.int .i64 i] W (Quiet (.bool true) W)) (c2 : ∀ W, Calls Tryd.prog 89 #[.int .i64 i] W (Quiet (.int .u64 Y) W)) (_h0 : 0 ≤ i) (_h1 : i < 256) (_hq : i.tdiv 64 = 1) (_hqd : i / 64 = 1) (_hX : bits .andNot .u64 B Y = X) (w : World) :
    Calls Tryd.prog 86 #[.agg #[.int .u64 A, .int .u64 B, .int .u64 C, .int .u64 D], .int .i64 i, .bool false] w (Makes (.agg #[.int .u64 A, .int .u64 X, .int .u64 C, .int .u64 D]) w) := by
  have Cc1 := hide c1
  have Cc2 := hide c2
  clear c1 c2
  have SS := cell_same
  have LB' := ltB_add
  have LS := ltB_self
  have LA' := alloc_reads
  have LH := alloc_holds
  go_enter Tryd.func86, Tryd.ntmps86
  go_upto_region 1 with (first | (go_at_call 88; (with_reducible first | refine (Cc1.out _).mono ?_); rintro e w' ⟨rfl, n1, rfl⟩))
  go_region_with (first | (go_at_call 89; (with_reducible first | refine (Cc2.out _).mono ?_); rintro e w' ⟨rfl, n1, rfl⟩))
  all_goals
    go_wp2_with fail
    refine bodyPost_ret (v := .agg #[.int .u64 A, .int .u64 X, .int .u64 C, .int .u64 D]) (by simp (maxDischargeDepth := 4) [results, Tryd.results86, go_sem, *]) rfl ?_
    refine ⟨rfl, ?_⟩
    repeat (first | with_reducible assumption | with_reducible exact Below.refl _ _ | with_reducible refine Below.drew ?_ | with_reducible refine below_drewN ?_ _ | with_reducible refine bw_alloc ?_ _ | (with_reducible refine bw_set ?_ ?_ _; focus (dsimp only; omega)) | (with_reducible apply bw_behind; with_reducible assumption))

set_option maxHeartbeats 4000000 in
theorem with_2_true (A B C D i Y X : Int) (c1 : ∀ W, Calls Tryd.prog 88 #[.int .i64 i] W (Quiet (.bool true) W)) (c2 : ∀ W, Calls Tryd.prog 89 #[.int .i64 i] W (Quiet (.int .u64 Y) W)) (_h0 : 0 ≤ i) (_h1 : i < 256) (_hq : i.tdiv 64 = 2) (_hqd : i / 64 = 2) (_hX : bits .or .u64 C Y = X) (w : World) :
    Calls Tryd.prog 86 #[.agg #[.int .u64 A, .int .u64 B, .int .u64 C, .int .u64 D], .int .i64 i, .bool true] w (Makes (.agg #[.int .u64 A, .int .u64 B, .int .u64 X, .int .u64 D]) w) := by
  have Cc1 := hide c1
  have Cc2 := hide c2
  clear c1 c2
  have SS := cell_same
  have LB' := ltB_add
  have LS := ltB_self
  have LA' := alloc_reads
  have LH := alloc_holds
  go_enter Tryd.func86, Tryd.ntmps86
  go_upto_region 4 with (first | (go_at_call 88; (with_reducible first | refine (Cc1.out _).mono ?_); rintro e w' ⟨rfl, n1, rfl⟩))
  go_region_with (first | (go_at_call 89; (with_reducible first | refine (Cc2.out _).mono ?_); rintro e w' ⟨rfl, n1, rfl⟩))
  all_goals
    go_wp2_with fail
    refine bodyPost_ret (v := .agg #[.int .u64 A, .int .u64 B, .int .u64 X, .int .u64 D]) (by simp (maxDischargeDepth := 4) [results, Tryd.results86, go_sem, *]) rfl ?_
    refine ⟨rfl, ?_⟩
    repeat (first | with_reducible assumption | with_reducible exact Below.refl _ _ | with_reducible refine Below.drew ?_ | with_reducible refine below_drewN ?_ _ | with_reducible refine bw_alloc ?_ _ | (with_reducible refine bw_set ?_ ?_ _; focus (dsimp only; omega)) | (with_reducible apply bw_behind; with_reducible assumption))

set_option maxHeartbeats 4000000 in
theorem with_2_false (A B C D i Y X : Int) (c1 : ∀ W, Calls Tryd.prog 88 #[.int .i64 i] W (Quiet (.bool true) W)) (c2 : ∀ W, Calls Tryd.prog 89 #[.int .i64 i] W (Quiet (.int .u64 Y) W)) (_h0 : 0 ≤ i) (_h1 : i < 256) (_hq : i.tdiv 64 = 2) (_hqd : i / 64 = 2) (_hX : bits .andNot .u64 C Y = X) (w : World) :
    Calls Tryd.prog 86 #[.agg #[.int .u64 A, .int .u64 B, .int .u64 C, .int .u64 D], .int .i64 i, .bool false] w (Makes (.agg #[.int .u64 A, .int .u64 B, .int .u64 X, .int .u64 D]) w) := by
  have Cc1 := hide c1
  have Cc2 := hide c2
  clear c1 c2
  have SS := cell_same
  have LB' := ltB_add
  have LS := ltB_self
  have LA' := alloc_reads
  have LH := alloc_holds
  go_enter Tryd.func86, Tryd.ntmps86
  go_upto_region 1 with (first | (go_at_call 88; (with_reducible first | refine (Cc1.out _).mono ?_); rintro e w' ⟨rfl, n1, rfl⟩))
  go_region_with (first | (go_at_call 89; (with_reducible first | refine (Cc2.out _).mono ?_); rintro e w' ⟨rfl, n1, rfl⟩))
  all_goals
    go_wp2_with fail
    refine bodyPost_ret (v := .agg #[.int .u64 A, .int .u64 B, .int .u64 X, .int .u64 D]) (by simp (maxDischargeDepth := 4) [results, Tryd.results86, go_sem, *]) rfl ?_
    refine ⟨rfl, ?_⟩
    repeat (first | with_reducible assumption | with_reducible exact Below.refl _ _ | with_reducible refine Below.drew ?_ | with_reducible refine below_drewN ?_ _ | with_reducible refine bw_alloc ?_ _ | (with_reducible refine bw_set ?_ ?_ _; focus (dsimp only; omega)) | (with_reducible apply bw_behind; with_reducible assumption))

set_option maxHeartbeats 4000000 in
theorem with_3_true (A B C D i Y X : Int) (c1 : ∀ W, Calls Tryd.prog 88 #[.int .i64 i] W (Quiet (.bool true) W)) (c2 : ∀ W, Calls Tryd.prog 89 #[.int .i64 i] W (Quiet (.int .u64 Y) W)) (_h0 : 0 ≤ i) (_h1 : i < 256) (_hq : i.tdiv 64 = 3) (_hqd : i / 64 = 3) (_hX : bits .or .u64 D Y = X) (w : World) :
    Calls Tryd.prog 86 #[.agg #[.int .u64 A, .int .u64 B, .int .u64 C, .int .u64 D], .int .i64 i, .bool true] w (Makes (.agg #[.int .u64 A, .int .u64 B, .int .u64 C, .int .u64 X]) w) := by
  have Cc1 := hide c1
  have Cc2 := hide c2
  clear c1 c2
  have SS := cell_same
  have LB' := ltB_add
  have LS := ltB_self
  have LA' := alloc_reads
  have LH := alloc_holds
  go_enter Tryd.func86, Tryd.ntmps86
  go_upto_region 4 with (first | (go_at_call 88; (with_reducible first | refine (Cc1.out _).mono ?_); rintro e w' ⟨rfl, n1, rfl⟩))
  go_region_with (first | (go_at_call 89; (with_reducible first | refine (Cc2.out _).mono ?_); rintro e w' ⟨rfl, n1, rfl⟩))
  all_goals
    go_wp2_with fail
    refine bodyPost_ret (v := .agg #[.int .u64 A, .int .u64 B, .int .u64 C, .int .u64 X]) (by simp (maxDischargeDepth := 4) [results, Tryd.results86, go_sem, *]) rfl ?_
    refine ⟨rfl, ?_⟩
    repeat (first | with_reducible assumption | with_reducible exact Below.refl _ _ | with_reducible refine Below.drew ?_ | with_reducible refine below_drewN ?_ _ | with_reducible refine bw_alloc ?_ _ | (with_reducible refine bw_set ?_ ?_ _; focus (dsimp only; omega)) | (with_reducible apply bw_behind; with_reducible assumption))

set_option maxHeartbeats 4000000 in
theorem with_3_false (A B C D i Y X : Int) (c1 : ∀ W, Calls Tryd.prog 88 #[.int .i64 i] W (Quiet (.bool true) W)) (c2 : ∀ W, Calls Tryd.prog 89 #[.int .i64 i] W (Quiet (.int .u64 Y) W)) (_h0 : 0 ≤ i) (_h1 : i < 256) (_hq : i.tdiv 64 = 3) (_hqd : i / 64 = 3) (_hX : bits .andNot .u64 D Y = X) (w : World) :
    Calls Tryd.prog 86 #[.agg #[.int .u64 A, .int .u64 B, .int .u64 C, .int .u64 D], .int .i64 i, .bool false] w (Makes (.agg #[.int .u64 A, .int .u64 B, .int .u64 C, .int .u64 X]) w) := by
  have Cc1 := hide c1
  have Cc2 := hide c2
  clear c1 c2
  have SS := cell_same
  have LB' := ltB_add
  have LS := ltB_self
  have LA' := alloc_reads
  have LH := alloc_holds
  go_enter Tryd.func86, Tryd.ntmps86
  go_upto_region 1 with (first | (go_at_call 88; (with_reducible first | refine (Cc1.out _).mono ?_); rintro e w' ⟨rfl, n1, rfl⟩))
  go_region_with (first | (go_at_call 89; (with_reducible first | refine (Cc2.out _).mono ?_); rintro e w' ⟨rfl, n1, rfl⟩))
  all_goals
    go_wp2_with fail
    refine bodyPost_ret (v := .agg #[.int .u64 A, .int .u64 B, .int .u64 C, .int .u64 X]) (by simp (maxDischargeDepth := 4) [results, Tryd.results86, go_sem, *]) rfl ?_
    refine ⟨rfl, ?_⟩
    repeat (first | with_reducible assumption | with_reducible exact Below.refl _ _ | with_reducible refine Below.drew ?_ | with_reducible refine below_drewN ?_ _ | with_reducible refine bw_alloc ?_ _ | (with_reducible refine bw_set ?_ ?_ _; focus (dsimp only; omega)) | (with_reducible apply bw_behind; with_reducible assumption))

set_option maxHeartbeats 4000000 in
theorem with_none (A B C D i : Int) (t : Bool) (c1 : ∀ W, Calls Tryd.prog 88 #[.int .i64 i] W (Quiet (.bool false) W)) (w : World) :
    Calls Tryd.prog 86 #[.agg #[.int .u64 A, .int .u64 B, .int .u64 C, .int .u64 D], .int .i64 i, .bool t] w (Makes (.agg #[.int .u64 A, .int .u64 B, .int .u64 C, .int .u64 D]) w) := by
  have Cc1 := hide c1
  clear c1
  have SS := cell_same
  have LB' := ltB_add
  have LS := ltB_self
  have LA' := alloc_reads
  have LH := alloc_holds
  go_enter Tryd.func86, Tryd.ntmps86
  go_wp2_with (first | (go_at_call 88; (with_reducible first | refine (Cc1.out _).mono ?_); rintro e w' ⟨rfl, n1, rfl⟩))
  refine bodyPost_ret (v := .agg #[.int .u64 A, .int .u64 B, .int .u64 C, .int .u64 D]) (by simp (maxDischargeDepth := 4) [results, Tryd.results86, go_sem, *]) rfl ?_
  refine ⟨rfl, ?_⟩
  repeat (first | with_reducible assumption | with_reducible exact Below.refl _ _ | with_reducible refine Below.drew ?_ | with_reducible refine below_drewN ?_ _ | with_reducible refine bw_alloc ?_ _ | (with_reducible refine bw_set ?_ ?_ _; focus (dsimp only; omega)) | (with_reducible apply bw_behind; with_reducible assumption))

end Go.Proofs.YtkajndonefkegaaDoor