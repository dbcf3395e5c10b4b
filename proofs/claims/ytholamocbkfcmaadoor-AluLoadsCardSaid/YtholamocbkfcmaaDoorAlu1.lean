/-
  What the closures of alu answer, and Do and Takes at each instruction's number.
-/
import Derived.Test.YtholamocbkfcmaaDoorGrows
import Derived.Test.YtholamocbkfcmaaDoorAluMath
namespace Go.Proofs.YtholamocbkfcmaaDoor
open Go.RowKit Words

set_option maxHeartbeats 1000000 in
theorem op1_any (a b : BitVec 64) : ∀ w, Calls Tryd.prog 26 #[.int .u64 (a.toNat : Int), .int .u64 (b.toNat : Int)] w (Quiet (.int .u64 ((a + b).toNat : Int)) w) := fun w => by
  go_enter Tryd.func26, Tryd.ntmps26
  go_wp2
  go_ret
  exact ⟨ret_int (by rw [add_w]), 0, rfl⟩

set_option maxHeartbeats 1000000 in
theorem op2_any (a b : BitVec 64) : ∀ w, Calls Tryd.prog 27 #[.int .u64 (a.toNat : Int), .int .u64 (b.toNat : Int)] w (Quiet (.int .u64 ((a - b).toNat : Int)) w) := fun w => by
  go_enter Tryd.func27, Tryd.ntmps27
  go_wp2
  go_ret
  exact ⟨ret_int (by rw [sub_w]), 0, rfl⟩

set_option maxHeartbeats 1000000 in
theorem op3_any (a b : BitVec 64) : ∀ w, Calls Tryd.prog 28 #[.int .u64 (a.toNat : Int), .int .u64 (b.toNat : Int)] w (Quiet (.int .u64 ((a &&& b).toNat : Int)) w) := fun w => by
  go_enter Tryd.func28, Tryd.ntmps28
  go_wp2
  go_ret
  exact ⟨ret_int (by rw [and_bv]), 0, rfl⟩

set_option maxHeartbeats 1000000 in
theorem op4_any (a b : BitVec 64) : ∀ w, Calls Tryd.prog 29 #[.int .u64 (a.toNat : Int), .int .u64 (b.toNat : Int)] w (Quiet (.int .u64 ((a ||| b).toNat : Int)) w) := fun w => by
  go_enter Tryd.func29, Tryd.ntmps29
  go_wp2
  go_ret
  exact ⟨ret_int (by rw [or_bv]), 0, rfl⟩

set_option maxHeartbeats 1000000 in
theorem op5_any (a b : BitVec 64) : ∀ w, Calls Tryd.prog 30 #[.int .u64 (a.toNat : Int), .int .u64 (b.toNat : Int)] w (Quiet (.int .u64 ((a ^^^ b).toNat : Int)) w) := fun w => by
  go_enter Tryd.func30, Tryd.ntmps30
  go_wp2
  go_ret
  exact ⟨ret_int (by rw [xor_bv]), 0, rfl⟩

set_option maxHeartbeats 1000000 in
theorem op6_any (a b : BitVec 64) : ∀ w, Calls Tryd.prog 31 #[.int .u64 (a.toNat : Int), .int .u64 (b.toNat : Int)] w (Quiet (.int .u64 ((a <<< (b.toNat % 64)).toNat : Int)) w) := fun w => by
  go_enter Tryd.func31, Tryd.ntmps31
  go_wp2
  go_ret
  exact ⟨ret_int (by rw [shl_bv]), 0, rfl⟩

set_option maxHeartbeats 1000000 in
theorem op7_any (a b : BitVec 64) : ∀ w, Calls Tryd.prog 32 #[.int .u64 (a.toNat : Int), .int .u64 (b.toNat : Int)] w (Quiet (.int .u64 ((a >>> (b.toNat % 64)).toNat : Int)) w) := fun w => by
  go_enter Tryd.func32, Tryd.ntmps32
  go_wp2
  go_ret
  exact ⟨ret_int (by rw [shr_bv]), 0, rfl⟩

set_option maxHeartbeats 1000000 in
theorem op8_any (a b : BitVec 64) : ∀ w, Calls Tryd.prog 33 #[.int .u64 (a.toNat : Int), .int .u64 (b.toNat : Int)] w (Quiet (.int .u64 ((a.sshiftRight (b.toNat % 64)).toNat : Int)) w) := fun w => by
  go_enter Tryd.func33, Tryd.ntmps33
  go_wp2
  go_ret
  exact ⟨ret_int (by rw [wrap64_bv, sar_bv, wrap_toInt]), 0, rfl⟩

set_option maxHeartbeats 1000000 in
theorem less1_any (a b : BitVec 64) : ∀ w, Calls Tryd.prog 44 #[.int .u64 (a.toNat : Int), .int .u64 (b.toNat : Int)] w (Quiet (.bool (a.slt b)) w) := fun w => by
  go_enter Tryd.func44, Tryd.ntmps44
  go_wp2
  go_ret
  exact ⟨ret_bool (slt_w a b), 0, rfl⟩

set_option maxHeartbeats 1000000 in
theorem less2_any (a b : BitVec 64) : ∀ w, Calls Tryd.prog 45 #[.int .u64 (a.toNat : Int), .int .u64 (b.toNat : Int)] w (Quiet (.bool (a.ult b)) w) := fun w => by
  go_enter Tryd.func45, Tryd.ntmps45
  go_wp2
  go_ret
  exact ⟨ret_bool (ult_w a b), 0, rfl⟩

set_option maxHeartbeats 1000000 in
theorem cond1_any (a b : BitVec 64) : ∀ w, Calls Tryd.prog 36 #[.int .u64 (a.toNat : Int), .int .u64 (b.toNat : Int)] w (Quiet (.bool (a == b)) w) := fun w => by
  go_enter Tryd.func36, Tryd.ntmps36
  go_wp2
  go_ret
  exact ⟨ret_bool (eq_w a b), 0, rfl⟩

set_option maxHeartbeats 1000000 in
theorem cond2_any (a b : BitVec 64) : ∀ w, Calls Tryd.prog 37 #[.int .u64 (a.toNat : Int), .int .u64 (b.toNat : Int)] w (Quiet (.bool (!(a == b))) w) := fun w => by
  go_enter Tryd.func37, Tryd.ntmps37
  go_wp2
  go_ret
  exact ⟨ret_bool (ne_w a b), 0, rfl⟩

set_option maxHeartbeats 1000000 in
theorem not_less1 (a b : BitVec 64) (n : Nat) : ∀ w : World, w.cell? ⟨n, 0, none⟩ = some (.func (.func 44) #[] #[]) → Calls Tryd.prog 46 #[.int .u64 (a.toNat : Int), .int .u64 (b.toNat : Int), .pointer (some ⟨n, 0, none⟩)] w (Quiet (.bool (!(a.slt b))) w) := fun w hc => by
  have C1 := hide (less1_any a b)
  go_enter Tryd.func46, Tryd.ntmps46
  go_wp2_with (go_at_call 44; (with_reducible refine (C1.out _).mono ?_); rintro e w' ⟨rfl, n1, rfl⟩)
  go_ret
  exact ⟨rfl, _, rfl⟩

set_option maxHeartbeats 1000000 in
theorem one_less1 (a b : BitVec 64) (n : Nat) : ∀ w : World, w.cell? ⟨n, 0, none⟩ = some (.func (.func 44) #[] #[]) → Calls Tryd.prog 43 #[.int .u64 (a.toNat : Int), .int .u64 (b.toNat : Int), .pointer (some ⟨n, 0, none⟩)] w (Quiet (.int .u64 ((oneB (a.slt b)).toNat : Int)) w) := fun w hc => by
  have c1 := less1_any a b
  revert c1
  generalize a.slt b = t
  intro c1
  have C1 := hide c1
  clear c1
  cases t
  all_goals
    go_enter Tryd.func43, Tryd.ntmps43
    go_wp2_with (go_at_call 44; (with_reducible refine (C1.out _).mono ?_); rintro e w' ⟨rfl, n1, rfl⟩)
    go_ret
    exact ⟨rfl, _, rfl⟩

set_option maxHeartbeats 1000000 in
theorem not_less2 (a b : BitVec 64) (n : Nat) : ∀ w : World, w.cell? ⟨n, 0, none⟩ = some (.func (.func 45) #[] #[]) → Calls Tryd.prog 46 #[.int .u64 (a.toNat : Int), .int .u64 (b.toNat : Int), .pointer (some ⟨n, 0, none⟩)] w (Quiet (.bool (!(a.ult b))) w) := fun w hc => by
  have C1 := hide (less2_any a b)
  go_enter Tryd.func46, Tryd.ntmps46
  go_wp2_with (go_at_call 45; (with_reducible refine (C1.out _).mono ?_); rintro e w' ⟨rfl, n1, rfl⟩)
  go_ret
  exact ⟨rfl, _, rfl⟩

set_option maxHeartbeats 1000000 in
theorem one_less2 (a b : BitVec 64) (n : Nat) : ∀ w : World, w.cell? ⟨n, 0, none⟩ = some (.func (.func 45) #[] #[]) → Calls Tryd.prog 43 #[.int .u64 (a.toNat : Int), .int .u64 (b.toNat : Int), .pointer (some ⟨n, 0, none⟩)] w (Quiet (.int .u64 ((oneB (a.ult b)).toNat : Int)) w) := fun w hc => by
  have c1 := less2_any a b
  revert c1
  generalize a.ult b = t
  intro c1
  have C1 := hide c1
  clear c1
  cases t
  all_goals
    go_enter Tryd.func43, Tryd.ntmps43
    go_wp2_with (go_at_call 45; (with_reducible refine (C1.out _).mono ?_); rintro e w' ⟨rfl, n1, rfl⟩)
    go_ret
    exact ⟨rfl, _, rfl⟩

/-- The call answers v, and there is a new cell that holds u. -/
def Holds1 (v u : Value) (w : World) (e : Ending) (w' : World) : Prop := e = .returned v ∧ w'.cell? ⟨w.heap.size, 0, none⟩ = some u ∧ Below w.heap.size w w'
theorem nil_do (f : Fn) (c d : Array Value) (W : World) : Sem.run Tryd.prog (binOp .eql 34 (.func f c d) .nilFunc) W = .ok (.bool false) W := by rfl
theorem nil_takes (f : Fn) (c d : Array Value) (W : World) : Sem.run Tryd.prog (binOp .eql 38 (.func f c d) .nilFunc) W = .ok (.bool false) W := by rfl
theorem nil_do0 (W : World) : Sem.run Tryd.prog (binOp .eql 34 .nilFunc .nilFunc) W = .ok (.bool true) W := by rfl
theorem nil_takes0 (W : World) : Sem.run Tryd.prog (binOp .eql 38 .nilFunc .nilFunc) W = .ok (.bool true) W := by rfl
end Go.Proofs.YtholamocbkfcmaaDoor
