/-
  What holds answers of each function that the statements hand in; the deferred call recovers nothing.
-/
import Derived.Test.YtnbfjaocakghkaaDoorReg2
import Derived.Defers
import Derived.Recover
namespace Go.Proofs.YtnbfjaocakghkaaDoor
open Go.RowKit

set_option maxRecDepth 100000 in
theorem ne_some (f : Fn) (c d : Array Value) (W : World) : Sem.run Tryd.prog (binOp .neq 36 (.func f c d) .nilFunc) W = .ok (.bool true) W := by rfl
set_option maxRecDepth 100000 in
theorem ne_none (W : World) : Sem.run Tryd.prog (binOp .neq 36 .nilFunc .nilFunc) W = .ok (.bool false) W := by rfl
theorem catch_idle (w : World) : CallsD Tryd.prog 34 #[] .returning w fun e u' w' => e = .returned (.tuple #[]) ∧ u' = .returning ∧ w' = w := by
  refine callsD_of_wpS Tryd.func34 rfl fun c₀ cs hu => ?_
  apply wpS_region
  cases c₀
  simp_all [wpOpsS, go_sem, recoverD, Tryd.ntmps34, bodyPostS, results, Tryd.results34]

set_option maxHeartbeats 1000000 in
theorem hold_nil (b : Int) (w : World) : Calls Tryd.prog 26 #[.nilFunc, .int .u64 b] w (Quiet (.bool false) w) := by
  have N1 := ne_some
  have N0 := ne_none
  go_enter_defers Tryd.func26, Tryd.ntmps26
  go_wp2_with (first | fail)
  refine leaves_cons (f := 34) (args := #[]) (by simp) (by simp [go_sem]) ?_
  refine (catch_idle _).mono ?_
  rintro e u' w'' ⟨rfl, rfl, rfl⟩
  exact ⟨_, results_tmp rfl _ _ _, rfl, 0, rfl⟩

set_option maxHeartbeats 1000000 in
theorem hold_h (b : Int) (p : Nat) (w : World) (V : Bool) (hc : Calls Tryd.prog 8 #[.int .u64 b, .pointer (some ⟨p, 0, none⟩)] w (Quiet (.bool V) w)) : Calls Tryd.prog 26 #[.func (.func 8) #[] #[.pointer (some ⟨p, 0, none⟩)], .int .u64 b] w (Quiet (.bool V) w) := by
  have N1 := ne_some
  have N0 := ne_none
  go_enter_defers Tryd.func26, Tryd.ntmps26
  go_wp2_with (first | (go_at_call 8; (with_reducible refine hc.mono ?_); rintro e w' ⟨rfl, n1, rfl⟩))
  refine leaves_cons (f := 34) (args := #[]) (by simp) (by simp [go_sem]) ?_
  refine (catch_idle _).mono ?_
  rintro e u' w'' ⟨rfl, rfl, rfl⟩
  exact ⟨_, results_tmp rfl _ _ _, rfl, n1, rfl⟩

set_option maxHeartbeats 1000000 in
theorem hold_t (b : Int) (w : World) (V : Bool) (hc : Calls Tryd.prog 20 #[.int .u64 b] w (Quiet (.bool V) w)) : Calls Tryd.prog 26 #[.func (.func 20) #[] #[], .int .u64 b] w (Quiet (.bool V) w) := by
  have N1 := ne_some
  have N0 := ne_none
  go_enter_defers Tryd.func26, Tryd.ntmps26
  go_wp2_with (first | (go_at_call 20; (with_reducible refine hc.mono ?_); rintro e w' ⟨rfl, n1, rfl⟩))
  refine leaves_cons (f := 34) (args := #[]) (by simp) (by simp [go_sem]) ?_
  refine (catch_idle _).mono ?_
  rintro e u' w'' ⟨rfl, rfl, rfl⟩
  exact ⟨_, results_tmp rfl _ _ _, rfl, n1, rfl⟩

set_option maxHeartbeats 1000000 in
theorem hold_a (b : Int) (p : Nat) (w : World) (V : Bool) (hc : Calls Tryd.prog 23 #[.int .u64 b, .pointer (some ⟨p, 0, none⟩)] w (Quiet (.bool V) w)) : Calls Tryd.prog 26 #[.func (.func 23) #[] #[.pointer (some ⟨p, 0, none⟩)], .int .u64 b] w (Quiet (.bool V) w) := by
  have N1 := ne_some
  have N0 := ne_none
  go_enter_defers Tryd.func26, Tryd.ntmps26
  go_wp2_with (first | (go_at_call 23; (with_reducible refine hc.mono ?_); rintro e w' ⟨rfl, n1, rfl⟩))
  refine leaves_cons (f := 34) (args := #[]) (by simp) (by simp [go_sem]) ?_
  refine (catch_idle _).mono ?_
  rintro e u' w'' ⟨rfl, rfl, rfl⟩
  exact ⟨_, results_tmp rfl _ _ _, rfl, n1, rfl⟩

set_option maxHeartbeats 1000000 in
theorem hold_b (b : Int) (p : Nat) (w : World) (V : Bool) (hc : Calls Tryd.prog 24 #[.int .u64 b, .pointer (some ⟨p, 0, none⟩)] w (Quiet (.bool V) w)) : Calls Tryd.prog 26 #[.func (.func 24) #[] #[.pointer (some ⟨p, 0, none⟩)], .int .u64 b] w (Quiet (.bool V) w) := by
  have N1 := ne_some
  have N0 := ne_none
  go_enter_defers Tryd.func26, Tryd.ntmps26
  go_wp2_with (first | (go_at_call 24; (with_reducible refine hc.mono ?_); rintro e w' ⟨rfl, n1, rfl⟩))
  refine leaves_cons (f := 34) (args := #[]) (by simp) (by simp [go_sem]) ?_
  refine (catch_idle _).mono ?_
  rintro e u' w'' ⟨rfl, rfl, rfl⟩
  exact ⟨_, results_tmp rfl _ _ _, rfl, n1, rfl⟩

set_option maxHeartbeats 1000000 in
theorem hold_c (b : Int) (p q : Nat) (w : World) (V : Bool) (hc : Calls Tryd.prog 25 #[.int .u64 b, .pointer (some ⟨p, 0, none⟩), .pointer (some ⟨q, 0, none⟩)] w (Quiet (.bool V) w)) : Calls Tryd.prog 26 #[.func (.func 25) #[] #[.pointer (some ⟨p, 0, none⟩), .pointer (some ⟨q, 0, none⟩)], .int .u64 b] w (Quiet (.bool V) w) := by
  have N1 := ne_some
  have N0 := ne_none
  go_enter_defers Tryd.func26, Tryd.ntmps26
  go_wp2_with (first | (go_at_call 25; (with_reducible refine hc.mono ?_); rintro e w' ⟨rfl, n1, rfl⟩))
  refine leaves_cons (f := 34) (args := #[]) (by simp) (by simp [go_sem]) ?_
  refine (catch_idle _).mono ?_
  rintro e u' w'' ⟨rfl, rfl, rfl⟩
  exact ⟨_, results_tmp rfl _ _ _, rfl, n1, rfl⟩

end Go.Proofs.YtnbfjaocakghkaaDoor
