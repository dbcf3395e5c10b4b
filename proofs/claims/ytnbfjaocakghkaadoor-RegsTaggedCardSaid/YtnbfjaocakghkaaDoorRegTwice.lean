/-
  Sweeping twice, as functions of the registers.
-/
import Derived.Test.YtnbfjaocakghkaaDoorRegRef
namespace Go.Proofs.YtnbfjaocakghkaaDoor
open Go.RowKit

theorem rs_base (R : Nat → C3) (a : Nat → Bool) (k i : Nat) : basN (rsR R a k i) = basN (R i) := by
  unfold rsR
  split <;> rfl
theorem hit_after (R : Nat → C3) (a b : Nat → Bool) (i : Nat) (hi : i < 33) : hitB (rsR R a 33) b i = (hitB R b i && !hitB R a i) := by
  have hb := rs_base R a 33 i
  have ht : (rsR R a 33 i).1 = ((R i).1 && !hitB R a i) := by
    unfold rsR
    rw [decide_eq_true hi, Bool.true_and]
    cases hitB R a i <;> simp
  have e : hitB (rsR R a 33) b i = (decide (1 ≤ i) && (rsR R a 33 i).1 && b (basN (rsR R a 33 i))) := rfl
  have e2 : hitB R b i = (decide (1 ≤ i) && (R i).1 && b (basN (R i))) := rfl
  rw [e, e2, hb, ht]
  cases decide (1 ≤ i) <;> cases (R i).1 <;> cases hitB R a i <;> cases b (basN (R i)) <;> rfl
theorem hit_or (R : Nat → C3) (a b : Nat → Bool) (i : Nat) : hitB R (fun x => a x || b x) i = (hitB R a i || hitB R b i) := by
  unfold hitB
  dsimp only
  cases decide (1 ≤ i) <;> cases (R i).1 <;> cases a (basN (R i)) <;> cases b (basN (R i)) <;> rfl
theorem rs_two (R : Nat → C3) (a b : Nat → Bool) (i : Nat) (hi : i < 33) : rsR (rsR R a 33) b 33 i = rsR R (fun x => a x || b x) 33 i := by
  have e : rsR (rsR R a 33) b 33 i = if hitB (rsR R a 33) b i = true then (false, (rsR R a 33 i).2.1, (rsR R a 33 i).2.2) else rsR R a 33 i := by
    show (if (decide (i < 33) && hitB (rsR R a 33) b i) = true then _ else _) = _
    rw [decide_eq_true hi, Bool.true_and]
  have e1 : rsR R a 33 i = if hitB R a i = true then (false, (R i).2.1, (R i).2.2) else R i := by
    show (if (decide (i < 33) && hitB R a i) = true then _ else _) = _
    rw [decide_eq_true hi, Bool.true_and]
  have e2 : rsR R (fun x => a x || b x) 33 i = if hitB R (fun x => a x || b x) i = true then (false, (R i).2.1, (R i).2.2) else R i := by
    show (if (decide (i < 33) && hitB R (fun x => a x || b x) i) = true then _ else _) = _
    rw [decide_eq_true hi, Bool.true_and]
  rw [e, e2, hit_after R a b i hi, hit_or, e1]
  cases hitB R a i <;> cases hitB R b i <;> simp
theorem rc_two (R : Nat → C3) (a b : Nat → Bool) : ∀ k, k ≤ 33 → rsC R a k + rsC (rsR R a 33) b k = rsC R (fun x => a x || b x) k
  | 0, _ => rfl
  | k + 1, hk => by
    have ih := rc_two R a b k (by omega)
    rw [rsC, rsC, rsC, hit_after R a b k (by omega), hit_or, ← ih]
    cases hitB R a k <;> cases hitB R b k <;> simp <;> omega
theorem rc_none (R : Nat → C3) (b : Nat → Bool) : ∀ k, k ≤ 33 → rsC (rsR R b 33) b k = 0
  | 0, _ => rfl
  | k + 1, hk => by
    have ih := rc_none R b k (by omega)
    rw [rsC, ih, hit_after R b b k (by omega)]
    cases hitB R b k <;> simp
theorem rc_none2 (R : Nat → C3) (a b : Nat → Bool) : ∀ k, k ≤ 33 → rsC (rsR R (fun x => a x || b x) 33) b k = 0
  | 0, _ => rfl
  | k + 1, hk => by
    have ih := rc_none2 R a b k (by omega)
    rw [rsC, ih, hit_after R _ b k (by omega), hit_or]
    cases hitB R a k <;> cases hitB R b k <;> simp
theorem rsR_wf {R : Nat → C3} (h : ∀ i, Wf3 (R i)) (g : Nat → Bool) (k : Nat) : ∀ i, Wf3 (rsR R g k i) := fun i => by
  unfold rsR
  split
  · exact h i
  · exact h i
theorem two_eq (R : Nat → C3) (a b : Nat → Bool) : ctxA (rsR (rsR R a 33) b 33) = ctxA (rsR R (fun x => a x || b x) 33) := ctxA_congr fun i hi => rs_two R a b i hi
theorem or_swap (R : Nat → C3) (a b : Nat → Bool) : rsR R (fun x => b x || a x) 33 = rsR R (fun x => a x || b x) 33 := by
  rw [show (fun x => b x || a x) = (fun x => a x || b x) from funext fun x => Bool.or_comm _ _]
theorem ctx_same {W : World} {b : Nat} {R S : Nat → C3} (h : Ctx W b R) (e : ∀ i, i < 33 → R i = S i) : Ctx W b S := ⟨fun i hi => by rw [← e i hi]; exact h.at_ i hi, h.own⟩
end Go.Proofs.YtnbfjaocakghkaaDoor
