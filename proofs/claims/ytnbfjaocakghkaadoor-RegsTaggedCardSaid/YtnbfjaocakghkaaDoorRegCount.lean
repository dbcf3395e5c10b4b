/-
  What is told of the registers, counted.
-/
import Derived.Test.YtnbfjaocakghkaaDoorRegTwice
import Derived.Test.YtnbfjaocakghkaaDoorRegClos
namespace Go.Proofs.YtnbfjaocakghkaaDoor
open Go.RowKit

theorem tag_len (R : Nat → C3) (h : (R 0).1 = false) (k : Nat) (hk : k ≤ 32) : (tagU R (k + 1)).length = (tagU R k).length + (if (R k).1 = true then 1 else 0) := by
  cases ht : (R k).1 with
  | true =>
    have h1 : 1 ≤ k := by
      rcases Nat.eq_zero_or_pos k with rfl | h0
      · rw [h] at ht; cases ht
      · exact h0
    rw [tagU_hit R k ⟨h1, hk⟩ ht, List.length_append]
    rfl
  | false =>
    rw [tagU_miss R k (fun hh => by rw [ht] at hh; cases hh.2)]
    rfl
theorem rc_tag (R : Nat → C3) : ∀ k, k ≤ 33 → rsC R (fun _ => true) k = (tagU R k).length
  | 0, _ => rfl
  | k + 1, hk => by
    have := swC_tag R (fun _ => true) (k + 1) hk
    rw [← this]
    clear this
    generalize tagU R (k + 1) = l
    induction l with
    | nil => rfl
    | cons x l ih => rw [swC, ih]; rfl
theorem swept_tag (R : Nat → C3) (i : Nat) (h1 : 1 ≤ i) (hi : i < 33) : rsR R (fun _ => true) 33 i = (false, (R i).2.1, (R i).2.2) := by
  unfold rsR hitB
  rw [decide_eq_true hi, decide_eq_true h1]
  cases ht : (R i).1 with
  | true => rfl
  | false =>
    show R i = _
    rw [← ht]
theorem tag_none (S : Nat → C3) : ∀ k, (∀ i, 1 ≤ i → i < k → (S i).1 = false) → tagU S k = []
  | 0, _ => rfl
  | k + 1, h => by
    have ih := tag_none S k (fun i h1 h2 => h i h1 (by omega))
    rw [tagU_miss S k (fun hh => by rw [h k hh.1.1 (by omega)] at hh; cases hh.2), ih]
theorem pre_len {R : Nat → C3} {pre : List Reg} (h : pre <+: tagU R 33) : pre.length ≤ (tagU R 33).length := h.length_le
end Go.Proofs.YtnbfjaocakghkaaDoor
