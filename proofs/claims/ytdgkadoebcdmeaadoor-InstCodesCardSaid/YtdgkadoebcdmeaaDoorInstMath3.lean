/-
  Plain mathematics of the instructions, for the laws: instructions with operands 0, another register. No Go text here.
-/
import Derived.Test.YtdgkadoebcdmeaaDoorInstMath2
namespace Go.Proofs.YtdgkadoebcdmeaaDoor.InstMath
open Go Words FieldMath

theorem enc_zero {k : Nat} (h1 : 1 ≤ k) (h2 : k ≤ 69) (f : Nat → Int) (hf : ∀ o, f o = 0) : encK k f = some (BitVec.ofNat 64 (wrd k)) := by
  obtain rfl : f = fun _ => 0 := funext hf
  have : ∀ k, k < 70 → 1 ≤ k → encK k (fun _ => 0) = some (BitVec.ofNat 64 (wrd k)) := by decide +kernel
  exact this k (by omega) h1

/-- Where operand o is in the words of a shape: in the five bits from bit a on, or nowhere. -/
def spot (s o a : Nat) : Bool := (List.range 32).all (fun i => match src (partsL s) i with
  | some (o', j) => if o' = o then decide (a ≤ i) && decide (i < a + 5) && decide (j = i - a) else !(decide (a ≤ i) && decide (i < a + 5))
  | none => !(decide (a ≤ i) && decide (i < a + 5)))
def nowhere (s o : Nat) : Bool := (List.range 32).all (fun i => match src (partsL s) i with
  | some (o', _) => !(o' == o)
  | none => true)
/-- Two instructions that differ in one operand at most. -/
theorem enc_other {k : Nat} (h1 : 1 ≤ k) (h2 : k ≤ 69) {f g : Nat → Int} {x y : BitVec 64} (hx : encK k f = some x) (hy : encK k g = some y) {o : Nat} (hfg : ∀ o', o' ≠ o → f o' = g o') (hn : nowhere (shp k) o = true) : x = y := by
  have ok := ok_shape (shape_of h1 h2)
  have bx := enc_bit ok.inw hx
  have by' := enc_bit ok.inw hy
  refine ext64 fun i hi => ?_
  rw [bx i hi, by' i hi]
  by_cases hi2 : i < 32
  · unfold nowhere at hn
    have := List.all_eq_true.1 hn i (List.mem_range.2 hi2)
    cases e : src (partsL (shp k)) i with
    | none => rfl
    | some q =>
      obtain ⟨o', j⟩ := q
      rw [e] at this
      simp only [Bool.not_eq_true', beq_eq_false_iff_ne] at this
      simp only
      rw [hfg o' this]
  · rw [src_out h1 h2 i (by omega)]
theorem xor_spot {k : Nat} (h1 : 1 ≤ k) (h2 : k ≤ 69) {f g : Nat → Int} {x y : BitVec 64} (hx : encK k f = some x) (hy : encK k g = some y) {o a : Nat} (hfg : ∀ o', o' ≠ o → f o' = g o') (hs : spot (shp k) o a = true) (ha : a + 5 ≤ 32) (ho : o ≠ 3) :
    0 ≤ f o ∧ f o < 32 ∧ 0 ≤ g o ∧ g o < 32 ∧ x.toNat ^^^ y.toNat = ((f o).toNat ^^^ (g o).toNat) * 2 ^ a := by
  have ok := ok_shape (shape_of h1 h2)
  have bx := enc_bit ok.inw hx
  have by' := enc_bit ok.inw hy
  have hsp := List.all_eq_true.1 hs
  -- the operand is there
  obtain ⟨p, hp, hpo⟩ : ∃ p ∈ partsL (shp k), p.1 = o := by
    have := hsp a (List.mem_range.2 (by omega))
    cases e : src (partsL (shp k)) a with
    | none => rw [e] at this; simp at this
    | some q =>
      obtain ⟨p, hp, _, _, rfl⟩ := src_mem e
      rw [e] at this
      simp only at this
      split at this
      · rename_i h; exact ⟨p, hp, h⟩
      · simp at this
  have r1 := enc_fits hx p hp
  have r2 := enc_fits hy p hp
  rw [hpo] at r1 r2
  unfold fitB at r1 r2
  rw [if_neg ho, show (5 : Int) = ((5 : Nat) : Int) from rfl, fits_u _ _ (by decide) (by decide), Bool.and_eq_true, decide_eq_true_eq, decide_eq_true_eq] at r1 r2
  obtain ⟨p1, p2⟩ := r1
  obtain ⟨p3, p4⟩ := r2
  refine ⟨p1, p2, p3, p4, ?_⟩
  have t1 := ofInt_small p1 (by omega)
  have t2 := ofInt_small p3 (by omega)
  refine Nat.eq_of_testBit_eq fun i => ?_
  rw [Nat.testBit_xor, Nat.testBit_mul_two_pow, Nat.testBit_xor]
  by_cases hi : i < 64
  · have e1 : x.toNat.testBit i = x.getLsbD i := rfl
    have e2 : y.toNat.testBit i = y.getLsbD i := rfl
    rw [e1, e2, bx i hi, by' i hi]
    by_cases hi2 : i < 32
    · have := hsp i (List.mem_range.2 hi2)
      cases e : src (partsL (shp k)) i with
      | none =>
        rw [e] at this
        simp only [Bool.not_eq_true', Bool.and_eq_false_iff, decide_eq_false_iff_not] at this
        simp only [Bool.xor_self]
        by_cases h3 : a ≤ i
        · have h4 : ¬ i < a + 5 := by omega
          have z1 : (f o).toNat.testBit (i - a) = false := Nat.testBit_lt_two_pow (Nat.lt_of_lt_of_le (show (f o).toNat < 2 ^ 5 by omega) (Nat.pow_le_pow_right (by decide) (by omega)))
          have z2 : (g o).toNat.testBit (i - a) = false := Nat.testBit_lt_two_pow (Nat.lt_of_lt_of_le (show (g o).toNat < 2 ^ 5 by omega) (Nat.pow_le_pow_right (by decide) (by omega)))
          rw [z1, z2]; simp
        · simp [h3]
      | some q =>
        obtain ⟨o', j⟩ := q
        rw [e] at this
        simp only at this ⊢
        by_cases ho' : o' = o
        · rw [if_pos ho'] at this
          simp only [Bool.and_eq_true, decide_eq_true_eq] at this
          obtain ⟨⟨h3, h4⟩, h5⟩ := this
          rw [ho', h5]
          have e3 : (BitVec.ofInt 64 (f o)).getLsbD (i - a) = (f o).toNat.testBit (i - a) := by rw [← t1]; rfl
          have e4 : (BitVec.ofInt 64 (g o)).getLsbD (i - a) = (g o).toNat.testBit (i - a) := by rw [← t2]; rfl
          rw [e3, e4]
          simp [h3]
        · rw [if_neg ho'] at this
          simp only [Bool.not_eq_true', Bool.and_eq_false_iff, decide_eq_false_iff_not] at this
          rw [hfg o' ho', Bool.xor_self]
          by_cases h3 : a ≤ i
          · have h4 : ¬ i < a + 5 := by omega
            have z1 : (f o).toNat.testBit (i - a) = false := Nat.testBit_lt_two_pow (Nat.lt_of_lt_of_le (show (f o).toNat < 2 ^ 5 by omega) (Nat.pow_le_pow_right (by decide) (by omega)))
            have z2 : (g o).toNat.testBit (i - a) = false := Nat.testBit_lt_two_pow (Nat.lt_of_lt_of_le (show (g o).toNat < 2 ^ 5 by omega) (Nat.pow_le_pow_right (by decide) (by omega)))
            rw [z1, z2]; simp
          · simp [h3]
    · rw [src_out h1 h2 i (by omega)]
      simp only [Bool.xor_self]
      have z1 : (f o).toNat.testBit (i - a) = false := Nat.testBit_lt_two_pow (Nat.lt_of_lt_of_le (show (f o).toNat < 2 ^ 5 by omega) (Nat.pow_le_pow_right (by decide) (by omega)))
      have z2 : (g o).toNat.testBit (i - a) = false := Nat.testBit_lt_two_pow (Nat.lt_of_lt_of_le (show (g o).toNat < 2 ^ 5 by omega) (Nat.pow_le_pow_right (by decide) (by omega)))
      rw [z1, z2]; simp
  · have e1 : x.toNat.testBit i = false := BitVec.getLsbD_of_ge x i (by omega)
    have e2 : y.toNat.testBit i = false := BitVec.getLsbD_of_ge y i (by omega)
    have z1 : (f o).toNat.testBit (i - a) = false := Nat.testBit_lt_two_pow (Nat.lt_of_lt_of_le (show (f o).toNat < 2 ^ 5 by omega) (Nat.pow_le_pow_right (by decide) (by omega)))
    have z2 : (g o).toNat.testBit (i - a) = false := Nat.testBit_lt_two_pow (Nat.lt_of_lt_of_le (show (g o).toNat < 2 ^ 5 by omega) (Nat.pow_le_pow_right (by decide) (by omega)))
    rw [e1, e2, z1, z2]; simp
def spots : Bool := [82, 71, 73, 67, 72].all (fun s => spot s 0 7 && spot s 1 15) && [83, 66].all (fun s => nowhere s 0 && spot s 1 15) && [85, 74].all (fun s => spot s 0 7 && nowhere s 1) && nowhere 78 0 && nowhere 78 1
theorem spots_ok : spots = true := by decide +kernel
end Go.Proofs.YtdgkadoebcdmeaaDoor.InstMath
