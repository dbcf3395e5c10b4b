/-
  An entry's word, bit by bit: the flags of a word of flags, and its Frame. No program text here but the table's places.
-/
import Derived.Test.YtnookalplejneaaDoorPteTab
namespace Go.Proofs.YtnookalplejneaaDoor
open Go.RowKit Words FieldMath PteMath

theorem getB_one (x : BitVec 64) (k : Nat) (h : k < 64) : (((getB x (k : Int) 1).toNat : Int) == 1) = x.getLsbD k := by
  rw [show (1 : Int) = ((1 : Nat) : Int) from rfl, get_nat x k 1 (by omega), BitVec.getLsbD, Nat.testBit_eq_decide_div_mod_eq, Bool.eq_iff_iff, beq_iff_eq, decide_eq_true_eq]
  norm_cast

/-- The word with the Frame F and the first flags of b. -/
def wk (b : Nat → Bool) (F : BitVec 64) : Nat → BitVec 64
  | 0 => putB 0 10 44 F
  | k + 1 => if b k = true then putB (wk b F k) (plc k : Int) 1 1 else wk b F k

theorem plc_lt (k : Nat) (h : k < 12) : plc k < 64 := by unfold plc; split <;> omega
theorem ok_one (k : Nat) (h : k < 12) : okF (plc k : Int) 1 = true := by
  have := plc_lt k h
  exact decide_eq_true (by omega)
theorem one_bit (i : Nat) : (1 : BitVec 64).getLsbD i = decide (i = 0) := by
  rw [show (1 : BitVec 64) = BitVec.twoPow 64 0 from rfl, BitVec.getLsbD_twoPow]
  by_cases h : i = 0
  · subst h; rfl
  · have h2 : ¬ 0 = i := fun e => h e.symm
    simp [h, h2]
theorem put_one (x : BitVec 64) (k i : Nat) (hk : k < 12) (hi : i < 64) : (putB x (plc k : Int) 1 1).getLsbD i = (decide (i = plc k) || x.getLsbD i) := by
  rw [put_bit _ _ _ _ _ hi, ok_one k hk, one_bit]
  by_cases h : i = plc k
  · subst h
    rw [if_pos ⟨rfl, by omega, by omega⟩]
    simp
  · rw [if_neg (by omega)]
    simp [h]
theorem wk0_bit (F : BitVec 64) (i : Nat) (hi : i < 64) : (putB 0 10 44 F).getLsbD i = (decide (10 ≤ i ∧ i < 54) && F.getLsbD (i - 10)) := by
  rw [put_bit _ _ _ _ _ hi, show okF 10 44 = true from rfl]
  by_cases h : 10 ≤ i ∧ i < 54
  · rw [if_pos ⟨rfl, by omega, by omega⟩]
    simp [h]
  · rw [if_neg (by omega)]
    simp only [h, decide_false, Bool.false_and]
    show (0#64).getLsbD i = false
    simp
/-- The Frame's bits of the word: not touched by the flags. -/
theorem wk_frame (b : Nat → Bool) (F : BitVec 64) (i : Nat) (h1 : 10 ≤ i) (h2 : i < 54) : ∀ n, n ≤ 12 → (wk b F n).getLsbD i = F.getLsbD (i - 10)
  | 0, _ => by rw [wk, wk0_bit _ _ (by omega)]; simp [h1, h2]
  | n + 1, hn => by
    have ih := wk_frame b F i h1 h2 n (by omega)
    have hp : i ≠ plc n := by unfold plc; split <;> omega
    rw [wk]
    split
    · rw [put_one _ _ _ (by omega) (by omega), ih]; simp [hp]
    · exact ih
theorem plc_inj {j k : Nat} (hj : j < 12) (hk : k < 12) (h : plc j = plc k) : j = k := by
  unfold plc at h
  split at h <;> split at h <;> omega
theorem wk_flag (b : Nat → Bool) (F : BitVec 64) (j : Nat) (hj : j < 12) : ∀ n, n ≤ 12 → (wk b F n).getLsbD (plc j) = (decide (j < n) && b j)
  | 0, _ => by
    rw [wk, wk0_bit _ _ (plc_lt j hj)]
    have : ¬ (10 ≤ plc j ∧ plc j < 54) := by unfold plc; split <;> omega
    simp [this]
  | n + 1, hn => by
    have ih := wk_flag b F j hj n (by omega)
    rw [wk]
    by_cases e : j = n
    · subst e
      cases hb : b j with
      | true => rw [if_pos rfl, put_one _ _ _ hj (plc_lt j hj)]; simp
      | false => rw [if_neg (by simp), ih]; simp
    · have hp : plc j ≠ plc n := fun h => e (plc_inj hj (by omega) h)
      have hd : decide (j < n + 1) = decide (j < n) := decide_eq_decide.mpr (by omega)
      rw [hd]
      split
      · rw [put_one _ _ _ (by omega) (plc_lt j hj), ih]; simp [hp]
      · exact ih
theorem word_flag (b : Nat → Bool) (F : BitVec 64) (j : Nat) (hj : j < 12) : (wk b F 12).getLsbD (plc j) = b j := by
  rw [wk_flag b F j hj 12 (by omega)]; simp [hj]
theorem word_frame (b : Nat → Bool) (F : BitVec 64) : getB (wk b F 12) 10 44 = F &&& maskB 44 := by
  refine ext64 fun i hi => ?_
  rw [get_bit _ _ _ _ hi, BitVec.getLsbD_and, mask_bit, show okF 10 44 = true from rfl]
  by_cases h : i < 44
  · rw [show (10 : Int).toNat + i = 10 + i from rfl, wk_frame b F (10 + i) (by omega) (by omega) 12 (by omega), show 10 + i - 10 = i by omega]
    have : (i : Int) < 44 := by omega
    simp [this, hi]
  · have : ¬ (i : Int) < 44 := by omega
    simp [this]
theorem frame_nat (F : BitVec 64) : (F &&& maskB 44).toNat = F.toNat % 17592186044416 := mask_nat F 44 (by omega)

/-! the word as a number -/
def bitN (b : Bool) (k : Nat) : Nat := if b = true then 2 ^ k else 0
theorem put_add (x : BitVec 64) (k : Nat) (hk : k < 12) (h : x.getLsbD (plc k) = false) : (putB x (plc k : Int) 1 1).toNat = x.toNat + 2 ^ plc k := by
  have hp := plc_lt k hk
  have ht : (BitVec.twoPow 64 (plc k)).toNat = 2 ^ plc k := by
    rw [BitVec.toNat_twoPow, Nat.mod_eq_of_lt (Nat.pow_lt_pow_right (by decide) hp)]
  have hand : x &&& BitVec.twoPow 64 (plc k) = 0#64 := by
    refine ext64 fun i hi => ?_
    rw [BitVec.getLsbD_and, BitVec.getLsbD_twoPow]
    by_cases e : plc k = i
    · subst e; simp [h]
    · simp [e]
  have hor : putB x (plc k : Int) 1 1 = x ||| BitVec.twoPow 64 (plc k) := by
    refine ext64 fun i hi => ?_
    rw [put_one _ _ _ hk hi, BitVec.getLsbD_or, BitVec.getLsbD_twoPow]
    by_cases e : i = plc k
    · subst e; simp [hi]
    · have e2 : ¬ plc k = i := fun h => e h.symm
      simp [e, e2]
  rw [hor, ← BitVec.add_eq_or_of_and_eq_zero _ _ hand, BitVec.toNat_add_of_and_eq_zero hand, ht]
/-- The sum of the first flags. -/
def sumN (b : Nat → Bool) : Nat → Nat
  | 0 => 0
  | k + 1 => sumN b k + bitN (b k) (plc k)
theorem wk_nat (b : Nat → Bool) (F : BitVec 64) : ∀ n, n ≤ 12 → (wk b F n).toNat = F.toNat % 17592186044416 * 1024 + sumN b n
  | 0, _ => by
    rw [wk, sumN]
    have e : putB 0 10 44 F = (F &&& maskB 44) <<< 10 := by
      refine ext64 fun i hi => ?_
      rw [wk0_bit _ _ hi, BitVec.getLsbD_shiftLeft, BitVec.getLsbD_and, mask_bit]
      by_cases h : 10 ≤ i
      · by_cases h2 : i < 54
        · have h3 : ¬ i < 10 := by omega
          have h4 : ((i - 10 : Nat) : Int) < 44 := by omega
          have h5 : i - 10 < 64 := by omega
          simp [h, h2, h3, h4, h5, hi]
        · have h4 : ¬ ((i - 10 : Nat) : Int) < 44 := by omega
          simp [h2, h4]
      · have h3 : i < 10 := by omega
        simp [h3]
        intro; omega
    have hm := Nat.mod_lt F.toNat (show 0 < 17592186044416 by decide)
    rw [e, BitVec.toNat_shiftLeft, frame_nat, Nat.shiftLeft_eq]
    generalize F.toNat % 17592186044416 = M at *
    omega
  | n + 1, hn => by
    have ih := wk_nat b F n (by omega)
    have hf := wk_flag b F n (by omega) n (by omega)
    rw [wk, sumN]
    cases hb : b n with
    | true => rw [if_pos rfl, put_add _ _ (by omega) (by rw [hf]; simp), ih, bitN, if_pos rfl, Nat.add_assoc]
    | false => rw [if_neg (by simp), ih, bitN, if_neg (by simp), Nat.add_zero]
end Go.Proofs.YtnookalplejneaaDoor
