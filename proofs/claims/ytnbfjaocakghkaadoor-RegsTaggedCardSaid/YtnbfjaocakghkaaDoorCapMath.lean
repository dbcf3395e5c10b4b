/-
  Plain mathematics of capabilities: the parts of a Meta, what is told of one, and when it is right. No Go text here.
-/
import Derived.Test.YtnbfjaocakghkaaDoorDec03
import Derived.Test.YtnbfjaocakghkaaDoorNearMath
import Derived.Test.YtnbfjaocakghkaaDoorBoundsMath2
namespace Go.Proofs.YtnbfjaocakghkaaDoor
open BoundsMath

def decB (b t e a : Nat) : Bool := decide (b < 16384 ∧ t < 4096 ∧ e ≤ 37 ∧ a < 281474976710656 ∧ backN b e a ≤ a / 2 ^ (e - 1) + 4096 ∧ (baseN b e a + lenN b t e) * 2 ^ (e - 1) ≤ 281474976710656)
theorem decB_iff (b t e a : Nat) : decB b t e a = true ↔ decOk b t e a := by
  unfold decB decOk goodF
  rw [decide_eq_true_eq]
  constructor
  · rintro ⟨h1, h2, h3, h4, h5, h6⟩; exact ⟨⟨h1, h2, h3, h4⟩, h5, h6⟩
  · rintro ⟨⟨h1, h2, h3, h4⟩, h5, h6⟩; exact ⟨h1, h2, h3, h4, h5, h6⟩
theorem decB_no {b t e a : Nat} (h : decB b t e a = false) : ¬ decOk b t e a := fun h2 => by rw [(decB_iff b t e a).2 h2] at h; cases h

/-! The parts of a Meta. -/
def mB (m : Nat) : Nat := m % 16384
def mT (m : Nat) : Nat := m / 16384 % 4096
def mE (m : Nat) : Nat := m / 67108864 % 64
def mP (m : Nat) : Nat := m / 4294967296 % 512
def mK (m : Nat) : Nat := m / 281474976710656 % 4096
def metaN (s p k : Nat) : Nat := s % 4294967296 + p % 512 * 4294967296 + k % 4096 * 281474976710656
theorem metaN_lt (s p k : Nat) : metaN s p k < 18446744073709551616 := by unfold metaN; omega
/-! What is told of a capability: its span, if it has one. -/
def dO (b t e a : Nat) : Bool := decB b t e a
def dB (b t e a : Nat) : Nat := if decB b t e a then baseN b e a * 2 ^ (e - 1) else 0
def dT (b t e a : Nat) : Nat := if decB b t e a then (baseN b e a + lenN b t e) * 2 ^ (e - 1) else 0
def lO (m a : Nat) : Bool := dO (mB m) (mT m) (mE m) a
def lB (m a : Nat) : Nat := dB (mB m) (mT m) (mE m) a
def lT (m a : Nat) : Nat := dT (mB m) (mT m) (mE m) a
def rightB (m a : Nat) : Bool := lO m a && decide (metaN m (mP m) (mK m) = m)

theorem right_iff {m : Nat} (hm : m < 18446744073709551616) : metaN m (mP m) (mK m) = m ↔ m / 2199023255552 % 128 = 0 ∧ m / 1152921504606846976 = 0 := by
  unfold metaN mP mK; omega
theorem meta_parts {s p k : Nat} (hs : s < 4294967296) (hp : p < 512) (hk : k < 4096) :
    mB (metaN s p k) = mB s ∧ mT (metaN s p k) = mT s ∧ mE (metaN s p k) = mE s ∧ mP (metaN s p k) = p ∧ mK (metaN s p k) = k := by
  unfold metaN mB mT mE mP mK; omega
theorem meta_plain (s p k : Nat) : metaN (metaN s p k) (mP (metaN s p k)) (mK (metaN s p k)) = metaN s p k := by
  unfold metaN mP mK; omega
theorem word_parts {b t e : Nat} (hb : b < 16384) (ht : t < 4096) (he : e < 64) : mB (wordN b t e) = b ∧ mT (wordN b t e) = t ∧ mE (wordN b t e) = e := by
  unfold wordN mB mT mE; omega
theorem meta_word (m : Nat) : metaN (wordN (mB m) (mT m) (mE m)) (mP m) (mK m) = metaN m (mP m) (mK m) := by
  unfold metaN wordN mB mT mE; omega
theorem dT_le (b t e a : Nat) : dT b t e a ≤ 281474976710656 := by
  unfold dT
  by_cases h : decB b t e a = true
  · rw [if_pos h]; exact ((decB_iff ..).1 h).2.2
  · rw [if_neg h]; omega
theorem dB_le (b t e a : Nat) : dB b t e a ≤ dT b t e a := by
  unfold dB dT
  by_cases h : decB b t e a = true
  · rw [if_pos h, if_pos h]; exact Nat.mul_le_mul_right _ (by omega)
  · rw [if_neg h, if_neg h]; omega

/-- What a span's fields tell is kept by these fields alone. -/
theorem dec_kept {b t e a : Nat} (h : decOk b t e a) :
    Kept (baseN b e a * 2 ^ (e - 1)) ((baseN b e a + lenN b t e) * 2 ^ (e - 1)) e ∧ baseN b e a % 16384 = b ∧ (baseN b e a + lenN b t e) % 4096 = t := by
  obtain ⟨⟨hb, ht, he, ha⟩, hk, htop⟩ := h
  obtain ⟨p, hp⟩ : ∃ p, baseN b e a = p := ⟨_, rfl⟩
  obtain ⟨n, hn⟩ : ∃ n, lenN b t e = n := ⟨_, rfl⟩
  have hpb : p % 16384 = b := by
    rw [← hp]; unfold baseN; unfold backN at hk ⊢; omega
  have hlt : (p + n) % 4096 = t := by
    rw [← hn]; unfold lenN
    by_cases h0 : e = 0
    · rw [if_pos h0]; omega
    · rw [if_neg h0]; omega
  have hl : if e = 0 then n < 4096 else 4096 ≤ n ∧ n < 8192 := by
    rw [← hn]; unfold lenN
    by_cases h0 : e = 0
    · rw [if_pos h0, if_pos h0]; omega
    · rw [if_neg h0, if_neg h0]; omega
  rw [hp, hn]
  have st : ∀ y, y ≤ e - 1 → steps (p * 2 ^ (e - 1)) ((p + n) * 2 ^ (e - 1)) y = n * 2 ^ (e - 1 - y) := by
    intro y hy
    rw [Nat.add_mul, steps_shift p _ (e - 1) y hy]
    have e1 : n * 2 ^ (e - 1) = n * 2 ^ (e - 1 - y) * 2 ^ y := by rw [Nat.mul_assoc, ← Nat.pow_add, Nat.sub_add_cancel hy]
    unfold steps
    rw [e1]
    have := cq_shift (n * 2 ^ (e - 1 - y)) 0 y
    rw [Nat.add_zero] at this
    rw [this]
    have : cq 0 y = 0 := by
      have := (cq_iff 0 y 0).2 (Nat.zero_le _)
      omega
    rw [this]; simp
  refine ⟨⟨he, ?_, fun k hk hkp => ?_⟩, hpb, hlt⟩
  · unfold keeps
    by_cases h0 : e = 0
    · rw [if_pos h0] at hl ⊢
      subst h0
      rw [st 0 (Nat.zero_le _)]
      simpa using hl
    · rw [if_neg h0] at hl ⊢
      rw [st (e - 1) (Nat.le_refl _)]
      simpa using hl
  · have h0 : e ≠ 0 := by omega
    rw [if_neg h0] at hl
    unfold keeps at hkp
    by_cases hk0 : k = 0
    · rw [if_pos hk0, st 0 (Nat.zero_le _)] at hkp
      have := Nat.le_mul_of_pos_right n (pow_pos (e - 1 - 0))
      omega
    · rw [if_neg hk0, st (k - 1) (by omega)] at hkp
      obtain ⟨j, hj⟩ : ∃ j, e - 1 - (k - 1) = j + 1 := ⟨e - 1 - (k - 1) - 1, by omega⟩
      rw [hj, pow_succ2, ← Nat.mul_assoc] at hkp
      have := Nat.le_mul_of_pos_right (n * 2) (pow_pos j)
      omega
end Go.Proofs.YtnbfjaocakghkaaDoor
