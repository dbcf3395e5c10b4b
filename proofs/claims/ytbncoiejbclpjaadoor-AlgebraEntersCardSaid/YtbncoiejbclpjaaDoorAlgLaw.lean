/-
  What the laws of layer 6 want of numbers and of Bound, both ways at once.
-/
import Derived.Test.YtbncoiejbclpjaaDoorAlgOne
namespace Go.Proofs.YtbncoiejbclpjaaDoor
open Go.RowKit Words FieldMath BoundsMath

theorem bits_and {a b : Nat} (ha : a < 18446744073709551616) (hb : b < 18446744073709551616) : bits .and .u64 (a : Int) (b : Int) = ((a &&& b : Nat) : Int) := by
  obtain ⟨A, rfl⟩ := bv_of ha
  obtain ⟨B, rfl⟩ := bv_of hb
  rw [and_bv, BitVec.toNat_and]
theorem bit_all : ((List.range 512).all fun p => ((p &&& 64 == 64) && subN 64 p || (p &&& 64 == 0) && !subN 64 p) && ((p &&& 4 == 4) && subN 4 p || (p &&& 4 == 0) && !subN 4 p)) = true := by decide +kernel
theorem bit_six {p : Nat} (h : p < 512) : ((p &&& 64) = 64 ∧ subN 64 p = true) ∨ ((p &&& 64) = 0 ∧ subN 64 p = false) := by
  have := List.all_eq_true.1 bit_all p (List.mem_range.2 h)
  simp only [Bool.and_eq_true, Bool.or_eq_true, beq_iff_eq, Bool.not_eq_true'] at this
  exact this.1
theorem bit_two {p : Nat} (h : p < 512) : ((p &&& 4) = 4 ∧ subN 4 p = true) ∨ ((p &&& 4) = 0 ∧ subN 4 p = false) := by
  have := List.all_eq_true.1 bit_all p (List.mem_range.2 h)
  simp only [Bool.and_eq_true, Bool.or_eq_true, beq_iff_eq, Bool.not_eq_true'] at this
  exact this.2
theorem mP_lt (m : Nat) : mP m < 512 := by unfold mP; omega
theorem mK_lt (m : Nat) : mK m < 4096 := by unfold mK; omega
/-- Bound, whatever is asked: what comes of it has the Addr, and a tag only as it may. -/
theorem bound_any (q x : Bool) (m a n : Nat) (hm : m < 18446744073709551616) (ha : a < 18446744073709551616) (hn : n < 18446744073709551616) :
    (∃ e D U M, Bnd m a n e D U M ∧ ∀ W, Tab W → Calls Tryd.prog 15 #[.agg #[.bool (q), .int .u64 ((m : Nat) : Int), .int .u64 ((a : Nat) : Int)], .int .u64 ((n : Nat) : Int), .bool x] W (Makes (.agg #[.bool (bndQ q m a n x D U), .int .u64 ((M : Nat) : Int), .int .u64 ((a : Nat) : Int)]) W)) ∨
    (¬ (a < 281474976710656 ∧ a + n ≤ 281474976710656) ∧ ∀ W, Tab W → Calls Tryd.prog 15 #[.agg #[.bool (q), .int .u64 ((m : Nat) : Int), .int .u64 ((a : Nat) : Int)], .int .u64 ((n : Nat) : Int), .bool x] W (Makes (.agg #[.bool (false), .int .u64 ((m : Nat) : Int), .int .u64 ((a : Nat) : Int)]) W)) := by
  by_cases h : a < 281474976710656 ∧ a + n ≤ 281474976710656
  · obtain ⟨e, D, U, M, hb⟩ := bnd_ex m a n h
    exact .inl ⟨e, D, U, M, hb, fun W hW => bound_yes q x m a n e D U M hm hb W hW⟩
  · exact .inr ⟨h, fun W hW => bound_no q x m a n hm ha hn h W hW⟩
/-- Nothing is done with what is not open. -/
theorem bound_shut (q x : Bool) (m a n : Nat) (hm : m < 18446744073709551616) (ha : a < 18446744073709551616) (hn : n < 18446744073709551616) (h : openB q m a = false) :
    ∃ M : Nat, ∀ W, Tab W → Calls Tryd.prog 15 #[.agg #[.bool (q), .int .u64 ((m : Nat) : Int), .int .u64 ((a : Nat) : Int)], .int .u64 ((n : Nat) : Int), .bool x] W (Makes (.agg #[.bool (false), .int .u64 ((M : Nat) : Int), .int .u64 ((a : Nat) : Int)]) W) := by
  rcases bound_any q x m a n hm ha hn with ⟨e, D, U, M, hb, c⟩ | ⟨_, c⟩
  · refine ⟨M, fun W hW => ?_⟩
    have := c W hW
    rw [show bndQ q m a n x D U = false by unfold bndQ; rw [h, Bool.false_and]] at this
    exact this
  · exact ⟨m, c⟩
theorem addr_shut {q : Bool} {m a n : Nat} (h : openB q m a = false) : addrQ q m a n = false := by unfold addrQ; rw [h, Bool.false_and]
theorem enter_shut {q : Bool} {m a : Nat} (h : openB q m a = false) : enterQ q m a = false := by unfold enterQ; rw [h, Bool.false_and]
theorem seal_shut {q : Bool} {m a : Nat} {r : Bool} {n b : Nat} (h : openB q m a = false) : sealQ q m a r n b = false := by unfold sealQ; rw [h, Bool.false_and]
theorem open_typed {m a k : Nat} (h : mK m = k) (hk : k ≠ 0) : openB true m a = false := by
  unfold openB
  rw [decide_eq_false (by omega), Bool.and_false]
theorem check_typed {m a k p n : Nat} (hr : rightB m a = true) (h : mK m = k) (hk : k ≠ 0) : checkN true m a p n = 2 := by
  unfold checkN liveB
  rw [hr, decide_eq_false (show ¬ mK m = 0 by omega)]
  rfl
end Go.Proofs.YtbncoiejbclpjaaDoor
