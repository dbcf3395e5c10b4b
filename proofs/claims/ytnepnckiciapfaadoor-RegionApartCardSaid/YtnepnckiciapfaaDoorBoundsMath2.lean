/-
  Plain mathematics of compressed bounds, more: spans moved by multiples, and where a span is told again. No Go text here.
-/
import Derived.Test.YtnepnckiciapfaaDoorBoundsMath
namespace Go.Proofs.YtnepnckiciapfaaDoor.BoundsMath

theorem cq_shift (q m x : Nat) : cq (q * 2 ^ x + m) x = q + cq m x := by
  unfold cq
  rw [Nat.add_assoc, Nat.add_comm, Nat.add_mul_div_right _ _ (pow_pos x), Nat.add_comm]
theorem steps_shift (q m x y : Nat) (h : y ≤ x) : steps (q * 2 ^ x) (q * 2 ^ x + m) y = steps 0 m y := by
  have e : q * 2 ^ x = (q * 2 ^ (x - y)) * 2 ^ y := by rw [Nat.mul_assoc, ← Nat.pow_add, show x - y + y = x by omega]
  rw [e]
  unfold steps
  rw [cq_shift, Nat.mul_div_cancel _ (pow_pos y)]
  simp
theorem keeps_shift (q m x e : Nat) (h : e - 1 ≤ x) : keeps (q * 2 ^ x) (q * 2 ^ x + m) e ↔ keeps 0 m e := by
  unfold keeps
  rw [steps_shift q m x 0 (Nat.zero_le _), steps_shift q m x (e - 1) h]
/-- A span whose base is a multiple is kept as the one of its length from 0 on. -/
theorem Kept.shift {m e : Nat} (h : Kept 0 m e) (q : Nat) : Kept (q * 2 ^ (e - 1)) (q * 2 ^ (e - 1) + m) e :=
  ⟨h.le, (keeps_shift q m _ e (Nat.le_refl _)).2 h.ok, fun k hk hp => h.no k hk ((keeps_shift q m _ k (by omega)).1 hp)⟩
theorem dn_mul (q x : Nat) : dn (q * 2 ^ x) x = q * 2 ^ x := by unfold dn; rw [Nat.mul_div_cancel _ (pow_pos x)]
theorem up_mul (q x : Nat) : up (q * 2 ^ x) x = q * 2 ^ x := by
  unfold up
  have := cq_shift q 0 x
  rw [Nat.add_zero] at this
  rw [this]
  congr 1
  unfold cq
  rw [Nat.zero_add, Nat.div_eq_of_lt (by have := pow_pos x; omega)]; rfl
/-- A length that is kept is kept as it is. -/
theorem Kept.len {n e : Nat} (h : Kept 0 n e) : Kept 0 (up n (e - 1)) e := by
  have := h.again
  rwa [dn_zero] at this
end Go.Proofs.YtnepnckiciapfaaDoor.BoundsMath
