/-
  Plain mathematics: beside which addresses the fields of what is kept tell it again. No Go text here.
-/
import Derived.Test.YtnbfjaocakghkaaDoorDec03
namespace Go.Proofs.YtnbfjaocakghkaaDoor
open BoundsMath

theorem near_math (p q e a : Nat) (hk : Kept p q e) (hpq : p ≤ q) (hq : q ≤ 281474976710656) (h1 : dn p (e - 1) ≤ a + 4096 * 2 ^ (e - 1)) (h2 : a < dn p (e - 1) + 12288 * 2 ^ (e - 1)) (h3 : a < 281474976710656) :
    decOk (dn p (e - 1) / 2 ^ (e - 1) % 16384) (up q (e - 1) / 2 ^ (e - 1) % 4096) e a ∧
    baseN (dn p (e - 1) / 2 ^ (e - 1) % 16384) e a * 2 ^ (e - 1) = dn p (e - 1) ∧
    (baseN (dn p (e - 1) / 2 ^ (e - 1) % 16384) e a + lenN (dn p (e - 1) / 2 ^ (e - 1) % 16384) (up q (e - 1) / 2 ^ (e - 1) % 4096) e) * 2 ^ (e - 1) = up q (e - 1) := by
  have he := hk.le
  have hu48 := up_top (t := q) (x := e - 1) (by have : (2 : Nat) ^ 48 = 281474976710656 := by decide
                                                omega) (by omega)
  have pw : (2 : Nat) ^ 48 = 281474976710656 := by decide
  have hpos := BoundsMath.pow_pos (e - 1)
  have hQ : dn p (e - 1) / 2 ^ (e - 1) = p / 2 ^ (e - 1) := dn_div p (e - 1)
  have hC : up q (e - 1) / 2 ^ (e - 1) = cq q (e - 1) := by unfold up; rw [Nat.mul_div_cancel _ hpos]
  rw [hQ, hC]
  have hle : p / 2 ^ (e - 1) ≤ cq q (e - 1) := by
    have := (dq_iff p (e - 1) (p / 2 ^ (e - 1))).1 (Nat.le_refl _)
    have h5 := up_le q (e - 1)
    unfold up at h5
    exact Nat.le_of_mul_le_mul_right (Nat.le_trans this (Nat.le_trans hpq h5)) hpos
  have ho := hk.ok
  obtain ⟨Q, hQe⟩ : ∃ Q, p / 2 ^ (e - 1) = Q := ⟨_, rfl⟩
  obtain ⟨C, hCe⟩ : ∃ C, cq q (e - 1) = C := ⟨_, rfl⟩
  obtain ⟨A, hA⟩ : ∃ A, a / 2 ^ (e - 1) = A := ⟨_, rfl⟩
  have hdn : dn p (e - 1) = Q * 2 ^ (e - 1) := by rw [← hQe]; rfl
  have hup : up q (e - 1) = C * 2 ^ (e - 1) := by rw [← hCe]; rfl
  rw [hQe, hCe] at hle ⊢
  have hA1 : Q ≤ A + 4096 := by
    rw [hdn] at h1
    have h6 : a < (A + 1) * 2 ^ (e - 1) := by
      rw [← hA]
      have := Nat.div_add_mod a (2 ^ (e - 1))
      have := Nat.mod_lt a hpos
      rw [Nat.succ_mul, Nat.mul_comm]; omega
    have h7 : Q * 2 ^ (e - 1) < (A + 1 + 4096) * 2 ^ (e - 1) := by rw [Nat.add_mul (A + 1)]; omega
    have := Nat.lt_of_mul_lt_mul_right h7
    omega
  have hA2 : A < Q + 12288 := by
    rw [hdn, ← Nat.add_mul] at h2
    rw [← hA]
    exact (Nat.div_lt_iff_lt_mul hpos).2 h2
  have hlen : lenN (Q % 16384) (C % 4096) e = C - Q := by
    unfold lenN
    unfold keeps steps at ho
    by_cases h0 : e = 0
    · rw [if_pos h0] at ho ⊢
      rw [show e - 1 = 0 by omega] at hQe hCe
      rw [hQe, hCe] at ho
      omega
    · rw [if_neg h0] at ho ⊢
      rw [hQe, hCe] at ho
      omega
  have hback : backN (Q % 16384) e a = A + 4096 - Q := by
    unfold backN
    rw [hA]
    omega
  have hbase : baseN (Q % 16384) e a = Q := by
    unfold baseN
    rw [hA, hback]
    omega
  rw [hbase, hlen, hdn, hup, show Q + (C - Q) = C by omega]
  refine ⟨⟨⟨by omega, by omega, he, h3⟩, by rw [hback, hA]; omega, ?_⟩, rfl, rfl⟩
  rw [hbase, hlen, show Q + (C - Q) = C by omega, ← hup]
  omega
end Go.Proofs.YtnbfjaocakghkaaDoor
