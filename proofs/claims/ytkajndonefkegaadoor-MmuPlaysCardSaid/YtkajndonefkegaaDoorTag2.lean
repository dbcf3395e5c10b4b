/-
  What Get and With answer, and the document's.
-/
import Derived.Test.YtkajndonefkegaaDoorGTag
set_option maxRecDepth 100000
set_option maxHeartbeats 64000000
namespace Go.Proofs.YtkajndonefkegaaDoor
open Go.RowKit Words

theorem with_0_true (A B C D i Y X : Int) (c1 : ∀ W, Calls Tryd.prog 88 #[.int .i64 i] W (Quiet (.bool true) W)) (c2 : ∀ W, Calls Tryd.prog 89 #[.int .i64 i] W (Quiet (.int .u64 Y) W)) (_h0 : 0 ≤ i) (_h1 : i < 256) (_hq : i.tdiv 64 = 0) (_hqd : i / 64 = 0) (_hX : bits .or .u64 A Y = X) (w : World) :
    Calls Tryd.prog 86 #[.agg #[.int .u64 A, .int .u64 B, .int .u64 C, .int .u64 D], .int .i64 i, .bool true] w (Makes (.agg #[.int .u64 X, .int .u64 B, .int .u64 C, .int .u64 D]) w) := by
  have Cc1 := hide c1
  have Cc2 := hide c2
  clear c1 c2
  obtain ⟨SS, LB', LS, LA', LH⟩ := rules5
  go_enter Tryd.func86, Tryd.ntmps86
  go_upto_region 4 with (first | (go_at_call 88; (with_reducible refine (Cc1.out _).mono ?_); rintro e w' ⟨rfl, n1, rfl⟩))
  go_region_with (first | (go_at_call 89; (with_reducible refine (Cc2.out _).mono ?_); rintro e w' ⟨rfl, n1, rfl⟩))
  all_goals
    go_wp2_with fail
    refine bodyPost_ret (v := .agg #[.int .u64 X, .int .u64 B, .int .u64 C, .int .u64 D]) (by simp (maxDischargeDepth := 4) [results, Tryd.results86, go_sem, *]) rfl ?_
    refine ⟨rfl, ?_⟩
    repeat (with_reducible first | assumption | exact Below.refl _ _ | refine Below.drew ?_ | refine below_drewN ?_ _ | refine bw_alloc ?_ _ | (refine bw_set ?_ ?_ _; focus (dsimp only; omega)) | (apply bw_behind; assumption))

theorem with_0_false (A B C D i Y X : Int) (c1 : ∀ W, Calls Tryd.prog 88 #[.int .i64 i] W (Quiet (.bool true) W)) (c2 : ∀ W, Calls Tryd.prog 89 #[.int .i64 i] W (Quiet (.int .u64 Y) W)) (_h0 : 0 ≤ i) (_h1 : i < 256) (_hq : i.tdiv 64 = 0) (_hqd : i / 64 = 0) (_hX : bits .andNot .u64 A Y = X) (w : World) :
    Calls Tryd.prog 86 #[.agg #[.int .u64 A, .int .u64 B, .int .u64 C, .int .u64 D], .int .i64 i, .bool false] w (Makes (.agg #[.int .u64 X, .int .u64 B, .int .u64 C, .int .u64 D]) w) := by
  have Cc1 := hide c1
  have Cc2 := hide c2
  clear c1 c2
  obtain ⟨SS, LB', LS, LA', LH⟩ := rules5
  go_enter Tryd.func86, Tryd.ntmps86
  go_upto_region 1 with (first | (go_at_call 88; (with_reducible refine (Cc1.out _).mono ?_); rintro e w' ⟨rfl, n1, rfl⟩))
  go_region_with (first | (go_at_call 89; (with_reducible refine (Cc2.out _).mono ?_); rintro e w' ⟨rfl, n1, rfl⟩))
  all_goals
    go_wp2_with fail
    refine bodyPost_ret (v := .agg #[.int .u64 X, .int .u64 B, .int .u64 C, .int .u64 D]) (by simp (maxDischargeDepth := 4) [results, Tryd.results86, go_sem, *]) rfl ?_
    refine ⟨rfl, ?_⟩
    repeat (with_reducible first | assumption | exact Below.refl _ _ | refine Below.drew ?_ | refine below_drewN ?_ _ | refine bw_alloc ?_ _ | (refine bw_set ?_ ?_ _; focus (dsimp only; omega)) | (apply bw_behind; assumption))

theorem with_1_true (A B C D i Y X : Int) (c1 : ∀ W, Calls Tryd.prog 88 #[.int .i64 i] W (Quiet (.bool true) W)) (c2 : ∀ W, Calls Tryd.prog 89 #[.int .i64 i] W (Quiet (.int .u64 Y) W)) (_h0 : 0 ≤ i) (_h1 : i < 256) (_hq : i.tdiv 64 = 1) (_hqd : i / 64 = 1) (_hX : bits .or .u64 B Y = X) (w : World) :
    Calls Tryd.prog 86 #[.agg #[.int .u64 A, .int .u64 B, .int .u64 C, .int .u64 D], .int .i64 i, .bool true] w (Makes (.agg #[.int .u64 A, .int .u64 X, .int .u64 C, .int .u64 D]) w) := by
  have Cc1 := hide c1
  have Cc2 := hide c2
  clear c1 c2
  obtain ⟨SS, LB', LS, LA', LH⟩ := rules5
  go_enter Tryd.func86, Tryd.ntmps86
  go_upto_region 4 with (first | (go_at_call 88; (with_reducible refine (Cc1.out _).mono ?_); rintro e w' ⟨rfl, n1, rfl⟩))
  go_region_with (first | (go_at_call 89; (with_reducible refine (Cc2.out _).mono ?_); rintro e w' ⟨rfl, n1, rfl⟩))
  all_goals
    go_wp2_with fail
    refine bodyPost_ret (v := .agg #[.int .u64 A, .int .u64 X, .int .u64 C, .int .u64 D]) (by simp (maxDischargeDepth := 4) [results, Tryd.results86, go_sem, *]) rfl ?_
    refine ⟨rfl, ?_⟩
    repeat (with_reducible first | assumption | exact Below.refl _ _ | refine Below.drew ?_ | refine below_drewN ?_ _ | refine bw_alloc ?_ _ | (refine bw_set ?_ ?_ _; focus (dsimp only; omega)) | (apply bw_behind; assumption))

theorem with_1_false (A B C D i Y X : Int) (c1 : ∀ W, Calls Tryd.prog 88 #[.int .i64 i] W (Quiet (.bool true) W)) (c2 : ∀ W, Calls Tryd.prog 89 #[.int .i64 i] W (Quiet (.int .u64 Y) W)) (_h0 : 0 ≤ i) (_h1 : i < 256) (_hq : i.tdiv 64 = 1) (_hqd : i / 64 = 1) (_hX : bits .andNot .u64 B Y = X) (w : World) :
    Calls Tryd.prog 86 #[.agg #[.int .u64 A, .int .u64 B, .int .u64 C, .int .u64 D], .int .i64 i, .bool false] w (Makes (.agg #[.int .u64 A, .int .u64 X, .int .u64 C, .int .u64 D]) w) := by
  have Cc1 := hide c1
  have Cc2 := hide c2
  clear c1 c2
  obtain ⟨SS, LB', LS, LA', LH⟩ := rules5
  go_enter Tryd.func86, Tryd.ntmps86
  go_upto_region 1 with (first | (go_at_call 88; (with_reducible refine (Cc1.out _).mono ?_); rintro e w' ⟨rfl, n1, rfl⟩))
  go_region_with (first | (go_at_call 89; (with_reducible refine (Cc2.out _).mono ?_); rintro e w' ⟨rfl, n1, rfl⟩))
  all_goals
    go_wp2_with fail
    refine bodyPost_ret (v := .agg #[.int .u64 A, .int .u64 X, .int .u64 C, .int .u64 D]) (by simp (maxDischargeDepth := 4) [results, Tryd.results86, go_sem, *]) rfl ?_
    refine ⟨rfl, ?_⟩
    repeat (with_reducible first | assumption | exact Below.refl _ _ | refine Below.drew ?_ | refine below_drewN ?_ _ | refine bw_alloc ?_ _ | (refine bw_set ?_ ?_ _; focus (dsimp only; omega)) | (apply bw_behind; assumption))

theorem with_2_true (A B C D i Y X : Int) (c1 : ∀ W, Calls Tryd.prog 88 #[.int .i64 i] W (Quiet (.bool true) W)) (c2 : ∀ W, Calls Tryd.prog 89 #[.int .i64 i] W (Quiet (.int .u64 Y) W)) (_h0 : 0 ≤ i) (_h1 : i < 256) (_hq : i.tdiv 64 = 2) (_hqd : i / 64 = 2) (_hX : bits .or .u64 C Y = X) (w : World) :
    Calls Tryd.prog 86 #[.agg #[.int .u64 A, .int .u64 B, .int .u64 C, .int .u64 D], .int .i64 i, .bool true] w (Makes (.agg #[.int .u64 A, .int .u64 B, .int .u64 X, .int .u64 D]) w) := by
  have Cc1 := hide c1
  have Cc2 := hide c2
  clear c1 c2
  obtain ⟨SS, LB', LS, LA', LH⟩ := rules5
  go_enter Tryd.func86, Tryd.ntmps86
  go_upto_region 4 with (first | (go_at_call 88; (with_reducible refine (Cc1.out _).mono ?_); rintro e w' ⟨rfl, n1, rfl⟩))
  go_region_with (first | (go_at_call 89; (with_reducible refine (Cc2.out _).mono ?_); rintro e w' ⟨rfl, n1, rfl⟩))
  all_goals
    go_wp2_with fail
    refine bodyPost_ret (v := .agg #[.int .u64 A, .int .u64 B, .int .u64 X, .int .u64 D]) (by simp (maxDischargeDepth := 4) [results, Tryd.results86, go_sem, *]) rfl ?_
    refine ⟨rfl, ?_⟩
    repeat (with_reducible first | assumption | exact Below.refl _ _ | refine Below.drew ?_ | refine below_drewN ?_ _ | refine bw_alloc ?_ _ | (refine bw_set ?_ ?_ _; focus (dsimp only; omega)) | (apply bw_behind; assumption))

theorem with_2_false (A B C D i Y X : Int) (c1 : ∀ W, Calls Tryd.prog 88 #[.int .i64 i] W (Quiet (.bool true) W)) (c2 : ∀ W, Calls Tryd.prog 89 #[.int .i64 i] W (Quiet (.int .u64 Y) W)) (_h0 : 0 ≤ i) (_h1 : i < 256) (_hq : i.tdiv 64 = 2) (_hqd : i / 64 = 2) (_hX : bits .andNot .u64 C Y = X) (w : World) :
    Calls Tryd.prog 86 #[.agg #[.int .u64 A, .int .u64 B, .int .u64 C, .int .u64 D], .int .i64 i, .bool false] w (Makes (.agg #[.int .u64 A, .int .u64 B, .int .u64 X, .int .u64 D]) w) := by
  have Cc1 := hide c1
  have Cc2 := hide c2
  clear c1 c2
  obtain ⟨SS, LB', LS, LA', LH⟩ := rules5
  go_enter Tryd.func86, Tryd.ntmps86
  go_upto_region 1 with (first | (go_at_call 88; (with_reducible refine (Cc1.out _).mono ?_); rintro e w' ⟨rfl, n1, rfl⟩))
  go_region_with (first | (go_at_call 89; (with_reducible refine (Cc2.out _).mono ?_); rintro e w' ⟨rfl, n1, rfl⟩))
  all_goals
    go_wp2_with fail
    refine bodyPost_ret (v := .agg #[.int .u64 A, .int .u64 B, .int .u64 X, .int .u64 D]) (by simp (maxDischargeDepth := 4) [results, Tryd.results86, go_sem, *]) rfl ?_
    refine ⟨rfl, ?_⟩
    repeat (with_reducible first | assumption | exact Below.refl _ _ | refine Below.drew ?_ | refine below_drewN ?_ _ | refine bw_alloc ?_ _ | (refine bw_set ?_ ?_ _; focus (dsimp only; omega)) | (apply bw_behind; assumption))

theorem with_3_true (A B C D i Y X : Int) (c1 : ∀ W, Calls Tryd.prog 88 #[.int .i64 i] W (Quiet (.bool true) W)) (c2 : ∀ W, Calls Tryd.prog 89 #[.int .i64 i] W (Quiet (.int .u64 Y) W)) (_h0 : 0 ≤ i) (_h1 : i < 256) (_hq : i.tdiv 64 = 3) (_hqd : i / 64 = 3) (_hX : bits .or .u64 D Y = X) (w : World) :
    Calls Tryd.prog 86 #[.agg #[.int .u64 A, .int .u64 B, .int .u64 C, .int .u64 D], .int .i64 i, .bool true] w (Makes (.agg #[.int .u64 A, .int .u64 B, .int .u64 C, .int .u64 X]) w) := by
  have Cc1 := hide c1
  have Cc2 := hide c2
  clear c1 c2
  obtain ⟨SS, LB', LS, LA', LH⟩ := rules5
  go_enter Tryd.func86, Tryd.ntmps86
  go_upto_region 4 with (first | (go_at_call 88; (with_reducible refine (Cc1.out _).mono ?_); rintro e w' ⟨rfl, n1, rfl⟩))
  go_region_with (first | (go_at_call 89; (with_reducible refine (Cc2.out _).mono ?_); rintro e w' ⟨rfl, n1, rfl⟩))
  all_goals
    go_wp2_with fail
    refine bodyPost_ret (v := .agg #[.int .u64 A, .int .u64 B, .int .u64 C, .int .u64 X]) (by simp (maxDischargeDepth := 4) [results, Tryd.results86, go_sem, *]) rfl ?_
    refine ⟨rfl, ?_⟩
    repeat (with_reducible first | assumption | exact Below.refl _ _ | refine Below.drew ?_ | refine below_drewN ?_ _ | refine bw_alloc ?_ _ | (refine bw_set ?_ ?_ _; focus (dsimp only; omega)) | (apply bw_behind; assumption))

theorem with_3_false (A B C D i Y X : Int) (c1 : ∀ W, Calls Tryd.prog 88 #[.int .i64 i] W (Quiet (.bool true) W)) (c2 : ∀ W, Calls Tryd.prog 89 #[.int .i64 i] W (Quiet (.int .u64 Y) W)) (_h0 : 0 ≤ i) (_h1 : i < 256) (_hq : i.tdiv 64 = 3) (_hqd : i / 64 = 3) (_hX : bits .andNot .u64 D Y = X) (w : World) :
    Calls Tryd.prog 86 #[.agg #[.int .u64 A, .int .u64 B, .int .u64 C, .int .u64 D], .int .i64 i, .bool false] w (Makes (.agg #[.int .u64 A, .int .u64 B, .int .u64 C, .int .u64 X]) w) := by
  have Cc1 := hide c1
  have Cc2 := hide c2
  clear c1 c2
  obtain ⟨SS, LB', LS, LA', LH⟩ := rules5
  go_enter Tryd.func86, Tryd.ntmps86
  go_upto_region 1 with (first | (go_at_call 88; (with_reducible refine (Cc1.out _).mono ?_); rintro e w' ⟨rfl, n1, rfl⟩))
  go_region_with (first | (go_at_call 89; (with_reducible refine (Cc2.out _).mono ?_); rintro e w' ⟨rfl, n1, rfl⟩))
  all_goals
    go_wp2_with fail
    refine bodyPost_ret (v := .agg #[.int .u64 A, .int .u64 B, .int .u64 C, .int .u64 X]) (by simp (maxDischargeDepth := 4) [results, Tryd.results86, go_sem, *]) rfl ?_
    refine ⟨rfl, ?_⟩
    repeat (with_reducible first | assumption | exact Below.refl _ _ | refine Below.drew ?_ | refine below_drewN ?_ _ | refine bw_alloc ?_ _ | (refine bw_set ?_ ?_ _; focus (dsimp only; omega)) | (apply bw_behind; assumption))

theorem with_none (A B C D i : Int) (t : Bool) (c1 : ∀ W, Calls Tryd.prog 88 #[.int .i64 i] W (Quiet (.bool false) W)) (w : World) :
    Calls Tryd.prog 86 #[.agg #[.int .u64 A, .int .u64 B, .int .u64 C, .int .u64 D], .int .i64 i, .bool t] w (Makes (.agg #[.int .u64 A, .int .u64 B, .int .u64 C, .int .u64 D]) w) := by
  have Cc1 := hide c1
  clear c1
  obtain ⟨SS, LB', LS, LA', LH⟩ := rules5
  go_enter Tryd.func86, Tryd.ntmps86
  go_wp2_with (first | (go_at_call 88; (with_reducible refine (Cc1.out _).mono ?_); rintro e w' ⟨rfl, n1, rfl⟩))
  refine bodyPost_ret (v := .agg #[.int .u64 A, .int .u64 B, .int .u64 C, .int .u64 D]) (by simp (maxDischargeDepth := 4) [results, Tryd.results86, go_sem, *]) rfl ?_
  refine ⟨rfl, ?_⟩
  repeat (with_reducible first | assumption | exact Below.refl _ _ | refine Below.drew ?_ | refine below_drewN ?_ _ | refine bw_alloc ?_ _ | (refine bw_set ?_ ?_ _; focus (dsimp only; omega)) | (apply bw_behind; assumption))

end Go.Proofs.YtkajndonefkegaaDoor
