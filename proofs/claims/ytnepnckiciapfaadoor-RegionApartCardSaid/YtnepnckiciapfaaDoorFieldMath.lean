/-
  Plain mathematics of bit fields of words (64 bits), for the layer 'field': what Mask, Get, Put, Sign, Fits answer, as functions on BitVec 64, bit by bit. No Go text here.
-/
import Derived.Test.YtnepnckiciapfaaDoorWords
namespace Go.Proofs.YtnepnckiciapfaaDoor.FieldMath
open Go Words

/-! the answers -/
def maskB (w : Int) : BitVec 64 := BitVec.ofNat 64 (2 ^ (min w.toNat 64) - 1)
def okF (a w : Int) : Bool := decide (0 ≤ w ∧ w ≤ 64 ∧ 0 ≤ a ∧ a ≤ 64 - w)
def getB (x : BitVec 64) (a w : Int) : BitVec 64 := if okF a w then (x >>> a.toNat) &&& maskB w else 0
def putB (x : BitVec 64) (a w : Int) (v : BitVec 64) : BitVec 64 :=
  if okF a w then (x &&& ~~~(maskB w <<< a.toNat)) ||| ((v <<< a.toNat) &&& (maskB w <<< a.toNat)) else x
def numW (w : Int) : Bool := decide (1 ≤ w ∧ w ≤ 64)
def signB (x : BitVec 64) (w : Int) : BitVec 64 := if numW w then (x <<< (64 - w).toNat).sshiftRight (64 - w).toNat else 0
def fitsB (x : Int) (w : Int) (s : Bool) : Bool :=
  numW w && (if s then signB (BitVec.ofInt 64 x) w == BitVec.ofInt 64 x else decide (0 ≤ x) && decide (x ≤ ((maskB w).toNat : Int)))

theorem mask_bit (w : Int) (i : Nat) : (maskB w).getLsbD i = (decide (i < 64) && decide ((i : Int) < w)) := by
  unfold maskB
  rw [BitVec.getLsbD_ofNat, Nat.testBit_two_pow_sub_one]
  by_cases h : i < 64 <;> simp [h]
  omega
theorem mask_low (w : Int) (h : w < 1) : maskB w = 0 := by
  unfold maskB
  have : w.toNat = 0 := by omega
  simp [this]
theorem mask_walk (w : Int) (_h : 1 ≤ w) : IntKind.u64.wrap (IntKind.u64.wrap (2 ^ min w.toNat 64) - 1) = ((maskB w).toNat : Int) := by
  unfold maskB
  rw [BitVec.toNat_ofNat]
  have hm : min w.toNat 64 ≤ 64 := by omega
  generalize min w.toNat 64 = k at hm
  have hp : (0 : Nat) < 2 ^ k := Nat.two_pow_pos k
  have hc : ((2 : Int) ^ k) = ((2 ^ k : Nat) : Int) := by simp
  rw [hc, IntKind.wrap_u64, IntKind.wrap_u64]
  rcases Nat.lt_or_eq_of_le hm with h | h
  · have h2 : 2 ^ k < 2 ^ 64 := Nat.pow_lt_pow_right (by decide) h
    omega
  · subst h; decide
theorem get_bit (x : BitVec 64) (a w : Int) (i : Nat) (hi : i < 64) : (getB x a w).getLsbD i = (okF a w && decide ((i : Int) < w) && x.getLsbD (a.toNat + i)) := by
  unfold getB
  by_cases h : okF a w = true
  · rw [if_pos h, BitVec.getLsbD_and, BitVec.getLsbD_ushiftRight, mask_bit, h]
    simp [hi, Bool.and_comm]
  · simp [h]
theorem put_bit (x : BitVec 64) (a w : Int) (v : BitVec 64) (i : Nat) (hi : i < 64) :
    (putB x a w v).getLsbD i = if okF a w = true ∧ a ≤ i ∧ (i : Int) < a + w then v.getLsbD (i - a.toNat) else x.getLsbD i := by
  unfold putB
  by_cases h : okF a w = true
  · have hb : 0 ≤ w ∧ w ≤ 64 ∧ 0 ≤ a ∧ a ≤ 64 - w := by simpa [okF] using h
    obtain ⟨h1, h2, h3, h4⟩ := hb
    simp only [h, if_true, BitVec.getLsbD_or, BitVec.getLsbD_and, BitVec.getLsbD_not, BitVec.getLsbD_shiftLeft, mask_bit]
    by_cases h5 : a ≤ i
    · by_cases h6 : (i : Int) < a + w
      · have e1 : ¬ i < a.toNat := by omega
        have e2 : i - a.toNat < 64 := by omega
        have e3 : ((i - a.toNat : Nat) : Int) < w := by omega
        simp [hi, h5, h6, e1, e2, e3]
      · have e3 : ¬ ((i - a.toNat : Nat) : Int) < w := by omega
        simp [hi, h6, e3]
    · have e1 : i < a.toNat := by omega
      simp [hi, h5, e1]
  · simp [h]
theorem sign_bit (x : BitVec 64) (w : Int) (i : Nat) (hi : i < 64) : (signB x w).getLsbD i = (numW w && x.getLsbD (if (i : Int) < w then i else (w - 1).toNat)) := by
  unfold signB
  by_cases h : numW w = true
  · have hb : 1 ≤ w ∧ w ≤ 64 := by simpa [numW] using h
    obtain ⟨h1, h2⟩ := hb
    have hk : (64 - w).toNat < 64 := by omega
    simp only [h, if_true, BitVec.getLsbD_sshiftRight, BitVec.getLsbD_shiftLeft, BitVec.msb_eq_getLsbD_last, Bool.true_and]
    by_cases h3 : (i : Int) < w
    · have e1 : (64 - w).toNat + i < 64 := by omega
      have e2 : ¬ 64 ≤ i := by omega
      have e3 : ¬ (64 - w).toNat + i < (64 - w).toNat := by omega
      have e4 : (64 - w).toNat + i - (64 - w).toNat = i := by omega
      rw [if_pos h3, if_pos e1, e4]
      simp only [e1, e2, e3, decide_true, decide_false, Bool.not_false, Bool.true_and]
    · have e1 : ¬ (64 - w).toNat + i < 64 := by omega
      have e2 : ¬ 64 ≤ i := by omega
      have e3 : 63 - (64 - w).toNat = (w - 1).toNat := by omega
      have e4 : ¬ 63 < (64 - w).toNat := by omega
      simp [h3, e1, e2, e3, e4]
  · simp [h]
end Go.Proofs.YtnepnckiciapfaaDoor.FieldMath
