/-
  Small ones: paged, within, New.
-/
import Derived.Test.YtnepnckiciapfaaDoorRgnMath
import Derived.Test.YtnepnckiciapfaaDoorAppRow
import Derived.Test.YtnepnckiciapfaaDoorTail2
import Derived.Test.YtnepnckiciapfaaDoorBoundsLaw
import Derived.Deep.DeepCutAuto
namespace Go.Proofs.YtnepnckiciapfaaDoor
open Go.RowKit RgnMath

def pagedB (b t : Nat) : Bool := decide (b < t) && decide (b % 4096 = 0) && decide (t % 4096 = 0)
def withinB (b t rb rt : Nat) : Bool := decide (rb ≤ b) && decide (t ≤ rt)

set_option maxHeartbeats 1000000 in
theorem paged_of (B T M N : Int) (x y z : Bool) (hx : decide (B < T) = x) (hy : decide (M = 0) = y) (hz : decide (N = 0) = z) (h1 : B.tmod 4096 = M) (h3 : T.tmod 4096 = N) (w : World) :
    Calls Tryd.prog 12 #[.agg #[.int .u64 B, .int .u64 T]] w (Makes (.bool (x && y && z)) w) := by
  have hy2 : (M == 0) = y := by rw [← hy]; rfl
  have hz2 : (N == 0) = z := by rw [← hz]; rfl
  have hx2 := of_decide_eq_true (p := B < T)
  have hx3 := of_decide_eq_false (p := B < T)
  rw [hx] at hx2 hx3
  cases x
  · have g := hx3 rfl
    clear hx2 hx3 hy hz
    go_enter Tryd.func12, Tryd.ntmps12
    go_wp2
    all_goals
      go_ret
      exact ⟨rfl, by repeat (first | with_reducible assumption | with_reducible exact Below.refl _ _ | with_reducible refine Below.drew ?_ | with_reducible refine below_drewN ?_ _ | with_reducible refine bw_alloc ?_ _)⟩
  · have g := hx2 rfl
    clear hx2 hx3
    cases y
    · go_enter Tryd.func12, Tryd.ntmps12
      go_wp2
      all_goals
        go_ret
        exact ⟨rfl, by repeat (first | with_reducible assumption | with_reducible exact Below.refl _ _ | with_reducible refine Below.drew ?_ | with_reducible refine below_drewN ?_ _ | with_reducible refine bw_alloc ?_ _)⟩
    · cases z
      · go_enter Tryd.func12, Tryd.ntmps12
        go_wp2
        all_goals
          go_ret
          exact ⟨rfl, by repeat (first | with_reducible assumption | with_reducible exact Below.refl _ _ | with_reducible refine Below.drew ?_ | with_reducible refine below_drewN ?_ _ | with_reducible refine bw_alloc ?_ _)⟩
      · go_enter Tryd.func12, Tryd.ntmps12
        go_wp2
        all_goals
          go_ret
          exact ⟨rfl, by repeat (first | with_reducible assumption | with_reducible exact Below.refl _ _ | with_reducible refine Below.drew ?_ | with_reducible refine below_drewN ?_ _ | with_reducible refine bw_alloc ?_ _)⟩
theorem paged_any (b t : Nat) (w : World) : Calls Tryd.prog 12 #[.agg #[.int .u64 (b : Int), .int .u64 (t : Int)]] w (Makes (.bool (pagedB b t)) w) := by
  have m1 : (b : Int).tmod 4096 = ((b % 4096 : Nat) : Int) := by rw [Int.tmod_eq_emod_of_nonneg (by omega)]; omega
  have m2 : (t : Int).tmod 4096 = ((t % 4096 : Nat) : Int) := by rw [Int.tmod_eq_emod_of_nonneg (by omega)]; omega
  have := paged_of (b : Int) (t : Int) ((b % 4096 : Nat) : Int) ((t % 4096 : Nat) : Int) (decide (b < t)) (decide (b % 4096 = 0)) (decide (t % 4096 = 0)) (decide_eq_decide.2 (by omega)) (decide_eq_decide.2 (by omega)) (decide_eq_decide.2 (by omega)) m1 m2 w
  exact this

set_option maxHeartbeats 1000000 in
theorem within_any (b t rb rt : Nat) (w : World) : Calls Tryd.prog 19 #[.agg #[.int .u64 (b : Int), .int .u64 (t : Int)], .agg #[.int .u64 (rb : Int), .int .u64 (rt : Int)]] w (Makes (.bool (withinB b t rb rt)) w) := by
  unfold withinB
  have h1 : decide ((rb : Int) ≤ (b : Int)) = decide (rb ≤ b) := decide_eq_decide.2 (by omega)
  have h2 : decide ((t : Int) ≤ (rt : Int)) = decide (t ≤ rt) := decide_eq_decide.2 (by omega)
  rw [← h1, ← h2]
  clear h1 h2
  generalize (b : Int) = B
  generalize (t : Int) = T
  generalize (rb : Int) = RB
  generalize (rt : Int) = RT
  by_cases h1 : RB ≤ B <;> by_cases h2 : T ≤ RT
  all_goals
    simp only [h1, h2, decide_true, decide_false, Bool.and_self, Bool.and_true, Bool.and_false]
    go_enter Tryd.func19, Tryd.ntmps19
    go_wp2
    all_goals
      go_ret
      exact ⟨rfl, by repeat (first | with_reducible assumption | with_reducible exact Below.refl _ _ | with_reducible refine Below.drew ?_ | with_reducible refine below_drewN ?_ _ | with_reducible refine bw_alloc ?_ _)⟩

def newB (b t : Nat) : Bool := pagedB b t && decide (t ≤ 274877906944)
set_option maxHeartbeats 1000000 in
theorem new_of (B T : Int) (x y : Bool) (hc : ∀ W, Calls Tryd.prog 12 #[.agg #[.int .u64 B, .int .u64 T]] W (Makes (.bool x) W)) (hy : decide (T ≤ 274877906944) = y) (w : World) :
    Calls Tryd.prog 4 #[.agg #[.int .u64 B, .int .u64 T]] w (Makes (if x && y then .tuple #[.agg #[.int .u64 B, .int .u64 T, .slice none 0 0], .int .i64 0] else .tuple #[.agg #[.int .u64 0, .int .u64 0, .slice none 0 0], .int .i64 2]) w) := by
  have C := hide hc
  have hy2 := of_decide_eq_true (p := T ≤ 274877906944)
  have hy3 := of_decide_eq_false (p := T ≤ 274877906944)
  rw [hy] at hy2 hy3
  clear hc
  have SS := cell_same
  have LB := ltB_add
  have LS := ltB_self
  have LA := alloc_reads
  have LH := alloc_holds
  cases x
  · clear hy2 hy3 hy
    go_enter Tryd.func4, Tryd.ntmps4
    go_wp2_with (go_at_call 12; (with_reducible refine (C.out _).mono ?_); rintro e w1 ⟨rfl, hb1⟩; have hr1 := below_reads hb1; have hh1 := below_holds hb1; obtain ⟨m1, hs1⟩ := below_grew hb1)
    refine bodyPost_ret (v := .tuple #[.agg #[.int .u64 0, .int .u64 0, .slice none 0 0], .int .i64 2]) (by simp (maxDischargeDepth := 4) [results, Tryd.results4, go_sem, *]) rfl ?_
    exact ⟨rfl, by repeat (first | with_reducible assumption | with_reducible exact Below.refl _ _ | with_reducible refine Below.drew ?_ | with_reducible refine below_drewN ?_ _ | with_reducible refine bw_alloc ?_ _ | (with_reducible refine bw_set ?_ ?_ _; focus (simp)) | (with_reducible apply bw_behind; with_reducible assumption))⟩
  · cases y
    · have g : 274877906944 < T := Int.not_le.1 (hy3 rfl)
      clear hy2 hy3 hy
      go_enter Tryd.func4, Tryd.ntmps4
      go_wp2_with (go_at_call 12; (with_reducible refine (C.out _).mono ?_); rintro e w1 ⟨rfl, hb1⟩; have hr1 := below_reads hb1; have hh1 := below_holds hb1; obtain ⟨m1, hs1⟩ := below_grew hb1)
      refine bodyPost_ret (v := .tuple #[.agg #[.int .u64 0, .int .u64 0, .slice none 0 0], .int .i64 2]) (by simp (maxDischargeDepth := 4) [results, Tryd.results4, go_sem, *]) rfl ?_
      exact ⟨rfl, by repeat (first | with_reducible assumption | with_reducible exact Below.refl _ _ | with_reducible refine Below.drew ?_ | with_reducible refine below_drewN ?_ _ | with_reducible refine bw_alloc ?_ _ | (with_reducible refine bw_set ?_ ?_ _; focus (simp)) | (with_reducible apply bw_behind; with_reducible assumption))⟩
    · have g : ¬ 274877906944 < T := Int.not_lt.2 (hy2 rfl)
      clear hy2 hy3 hy
      go_enter Tryd.func4, Tryd.ntmps4
      go_wp2_with (go_at_call 12; (with_reducible refine (C.out _).mono ?_); rintro e w1 ⟨rfl, hb1⟩; have hr1 := below_reads hb1; have hh1 := below_holds hb1; obtain ⟨m1, hs1⟩ := below_grew hb1)
      refine bodyPost_ret (v := .tuple #[.agg #[.int .u64 B, .int .u64 T, .slice none 0 0], .int .i64 0]) (by simp (maxDischargeDepth := 4) [results, Tryd.results4, go_sem, *]) rfl ?_
      exact ⟨rfl, by repeat (first | with_reducible assumption | with_reducible exact Below.refl _ _ | with_reducible refine Below.drew ?_ | with_reducible refine below_drewN ?_ _ | with_reducible refine bw_alloc ?_ _ | (with_reducible refine bw_set ?_ ?_ _; focus (simp)) | (with_reducible apply bw_behind; with_reducible assumption))⟩
theorem new_any (b t : Nat) (w : World) :
    Calls Tryd.prog 4 #[.agg #[.int .u64 (b : Int), .int .u64 (t : Int)]] w (Makes (if newB b t then .tuple #[.agg #[.int .u64 (b : Int), .int .u64 (t : Int), .slice none 0 0], .int .i64 0] else .tuple #[.agg #[.int .u64 0, .int .u64 0, .slice none 0 0], .int .i64 2]) w) := by
  exact new_of (b : Int) (t : Int) (pagedB b t) (decide (t ≤ 274877906944)) (fun W => paged_any b t W) (decide_eq_decide.2 (by omega)) w
end Go.Proofs.YtnepnckiciapfaaDoor
