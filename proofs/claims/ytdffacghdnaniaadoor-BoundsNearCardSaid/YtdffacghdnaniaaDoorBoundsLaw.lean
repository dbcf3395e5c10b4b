/-
  What mintmarklaw03.span answers: the smaller and the greater one of two numbers modulo 2^48 + 1.
-/
import Derived.Test.YtdffacghdnaniaaDoorBoundsWalks
namespace Go.Proofs.YtdffacghdnaniaaDoor
open Go.RowKit Words BoundsMath

theorem ret_pair {k l : IntKind} {a b c d : Int} (h : a = c) (h2 : b = d) : Ending.returned (.agg #[.int k a, .int l b]) = .returned (.agg #[.int k c, .int l d]) := by rw [h, h2]

set_option maxHeartbeats 400000 in
theorem lspan_any (x y : Nat) (w : World) :
    Calls Tryd.prog 20 #[.int .u64 (x : Int), .int .u64 (y : Int)] w
      (Makes (.agg #[.int .u64 ((min (x % 281474976710657) (y % 281474976710657) : Nat) : Int), .int .u64 ((max (x % 281474976710657) (y % 281474976710657) : Nat) : Int)]) w) := by
  go_enter Tryd.func20, Tryd.ntmps20
  go_wp2
  all_goals
    first | (refine bodyPost_ret (v := .agg #[.int .u64 ((x : Int) % 281474976710657), .int .u64 ((x : Int) % 281474976710657)]) ?h rfl ?k; case h => (simp [results, Tryd.results20, go_sem]; done)) | (refine bodyPost_ret (v := .agg #[.int .u64 ((x : Int) % 281474976710657), .int .u64 ((y : Int) % 281474976710657)]) ?h rfl ?k; case h => (simp [results, Tryd.results20, go_sem]; done)) | (refine bodyPost_ret (v := .agg #[.int .u64 ((y : Int) % 281474976710657), .int .u64 ((x : Int) % 281474976710657)]) ?h rfl ?k; case h => (simp [results, Tryd.results20, go_sem]; done)) | (refine bodyPost_ret (v := .agg #[.int .u64 ((y : Int) % 281474976710657), .int .u64 ((y : Int) % 281474976710657)]) ?h rfl ?k; case h => (simp [results, Tryd.results20, go_sem]; done))
    case k =>
      refine ⟨?_, ?_⟩
      · rcases Nat.le_total (x % 281474976710657) (y % 281474976710657) with h3 | h3
        · rw [Nat.min_eq_left h3, Nat.max_eq_right h3]; exact ret_pair (by omega) (by omega)
        · rw [Nat.min_eq_right h3, Nat.max_eq_left h3]; exact ret_pair (by omega) (by omega)
      · repeat (first | assumption | exact Below.refl _ _ | refine Below.setCell ?_ (by simp) _ | refine below_drewN ?_ _ | refine below_alloc ?_ (by simp) _ | refine below_behind ?_ (by simp) (by assumption))
end Go.Proofs.YtdffacghdnaniaaDoor
