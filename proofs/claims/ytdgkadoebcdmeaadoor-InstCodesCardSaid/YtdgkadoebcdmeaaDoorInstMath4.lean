/-
  Plain mathematics of the instructions: a word as a sum of its parts, as the document says it. No Go text here.
-/
import Derived.Test.YtdgkadoebcdmeaaDoorInstMath2
namespace Go.Proofs.YtdgkadoebcdmeaaDoor.InstMath
open Go Words FieldMath

theorem or_add {x t : BitVec 64} (h : x &&& t = 0#64) (hx : x.toNat < 4294967296) (ht : t.toNat < 4294967296) : (x ||| t).toNat = x.toNat + t.toNat := by
  rw [← BitVec.add_eq_or_of_and_eq_zero x t h, BitVec.toNat_add]
  omega
/-- The part that is put: v's lowest n bits, from bit a on. -/
def term (a n : Nat) (v : BitVec 64) : BitVec 64 := (v <<< a) &&& (maskB (n : Int) <<< a)
theorem term_bit (a n : Nat) (v : BitVec 64) (i : Nat) (hi : i < 64) : (term a n v).getLsbD i = (decide (a ≤ i) && decide (i < a + n) && v.getLsbD (i - a)) := by
  unfold term
  rw [BitVec.getLsbD_and, BitVec.getLsbD_shiftLeft, BitVec.getLsbD_shiftLeft, mask_bit]
  by_cases h : a ≤ i
  · have e1 : ¬ i < a := by omega
    have e2 : i - a < 64 := by omega
    have e3 : (((i - a : Nat) : Int) < (n : Int)) ↔ i < a + n := by omega
    simp only [hi, h, e1, e2, e3, decide_true, decide_false, Bool.not_false, Bool.true_and, Bool.and_comm]
  · have e1 : i < a := by omega
    simp only [h, e1, decide_true, decide_false, Bool.not_true, Bool.false_and, Bool.and_false]
theorem term_toNat (a n : Nat) (v : BitVec 64) (h : a + n ≤ 32) : (term a n v).toNat = v.toNat % 2 ^ n * 2 ^ a := by
  refine Nat.eq_of_testBit_eq fun i => ?_
  rw [Nat.testBit_mul_two_pow, Nat.testBit_mod_two_pow]
  by_cases hi : i < 64
  · have e : (term a n v).toNat.testBit i = (term a n v).getLsbD i := rfl
    have e2 : v.toNat.testBit (i - a) = v.getLsbD (i - a) := rfl
    rw [e, term_bit _ _ _ _ hi, e2]
    by_cases h1 : a ≤ i
    · have e3 : i - a < n ↔ i < a + n := by omega
      simp only [h1, e3, decide_true, Bool.true_and]
    · simp only [h1, decide_false, Bool.false_and]
  · have e : (term a n v).toNat.testBit i = false := BitVec.getLsbD_of_ge _ i (by omega)
    have h2 : ¬ i - a < n := by omega
    rw [e]
    simp [h2]
theorem term_lt (a n : Nat) (v : BitVec 64) (h : a + n ≤ 32) : (term a n v).toNat < 4294967296 := by
  have : (term a n v).toNat < 2 ^ 32 := lo_of fun i hi hi2 => by
    rw [term_bit _ _ _ _ hi2]
    have : ¬ i < a + n := by omega
    simp [this]
  exact this
theorem put_term {x : BitVec 64} {a n : Nat} (h : a + n ≤ 32) (hz : ∀ i, a ≤ i → i < a + n → x.getLsbD i = false) (v : BitVec 64) : putB x a n v = x ||| term a n v ∧ x &&& term a n v = 0#64 := by
  have ok : okF (a : Int) (n : Int) = true := by unfold okF; simp; omega
  constructor
  · refine ext64 fun i hi => ?_
    rw [put_bit _ _ _ _ _ hi, BitVec.getLsbD_or, term_bit _ _ _ _ hi, ok]
    by_cases c : a ≤ i ∧ i < a + n
    · have c2 : (true = true ∧ (a : Int) ≤ i ∧ (i : Int) < (a : Int) + (n : Int)) := ⟨rfl, by omega, by omega⟩
      rw [if_pos c2, hz i c.1 c.2]
      simp [c.1, c.2]
    · have c2 : ¬ (true = true ∧ (a : Int) ≤ i ∧ (i : Int) < (a : Int) + (n : Int)) := by
        rintro ⟨_, c3, c4⟩; exact c ⟨by omega, by omega⟩
      rw [if_neg c2]
      by_cases h1 : a ≤ i
      · have h2 : ¬ i < a + n := fun h2 => c ⟨h1, h2⟩
        simp [h2]
      · simp [h1]
  · refine ext64 fun i hi => ?_
    rw [BitVec.getLsbD_and, term_bit _ _ _ _ hi]
    by_cases h1 : a ≤ i
    · by_cases h2 : i < a + n
      · rw [hz i h1 h2]; simp
      · simp [h2]
    · simp [h1]
/-- The sum of the parts. -/
def sumL (ops : Nat → Int) : List Prt → Nat
  | [] => 0
  | p :: r => (BitVec.ofInt 64 (ops p.1) >>> p.2.1).toNat % 2 ^ p.2.2.1 * 2 ^ p.2.2.2 + sumL ops r
def apartL : List Prt → Bool
  | [] => true
  | p :: r => r.all (fun q => decide (p.2.2.2 + p.2.2.1 ≤ q.2.2.2) || decide (q.2.2.2 + q.2.2.1 ≤ p.2.2.2)) && apartL r
theorem enc_sum {s : Nat} {ops : Nat → Int} : ∀ {L : List Prt} {w y : BitVec 64}, (∀ p ∈ L, inW p = true) → apartL L = true → w.toNat < 4294967296 → (∀ p ∈ L, ∀ i, p.2.2.2 ≤ i → i < p.2.2.2 + p.2.2.1 → w.getLsbD i = false) →
    encL s ops L w = some y → y.toNat = w.toNat + sumL ops L
  | [], w, y, _, _, _, _, h => by
    simp only [encL, Option.some.injEq] at h
    subst h
    simp [sumL]
  | p :: r, w, y, hL, hA, hw, hz, h => by
    simp only [encL] at h
    split at h
    · have hp := hL p (by simp)
      unfold inW at hp
      simp at hp
      obtain ⟨e1, e2⟩ := put_term hp (hz p (by simp)) (BitVec.ofInt 64 (ops p.1) >>> p.2.1)
      have e3 := or_add e2 hw (term_lt _ _ _ hp)
      rw [e1] at h
      simp only [apartL, Bool.and_eq_true, List.all_eq_true] at hA
      have hlt : (w ||| term p.2.2.2 p.2.2.1 (BitVec.ofInt 64 (ops p.1) >>> p.2.1)).toNat < 4294967296 := by
        rw [BitVec.toNat_or]
        exact Nat.or_lt_two_pow (n := 32) hw (term_lt _ _ _ hp)
      have := enc_sum (fun q hq => hL q (List.mem_cons_of_mem _ hq)) hA.2 hlt (fun q hq i hi1 hi2 => by
        have hq2 := hL q (List.mem_cons_of_mem _ hq)
        unfold inW at hq2
        simp at hq2
        rw [BitVec.getLsbD_or, hz q (List.mem_cons_of_mem _ hq) i hi1 hi2, term_bit _ _ _ _ (by omega)]
        have hd := hA.1 q hq
        simp only [Bool.or_eq_true, decide_eq_true_eq] at hd
        rcases hd with hd | hd
        · have : ¬ i < p.2.2.2 + p.2.2.1 := by omega
          simp [this]
        · have : ¬ p.2.2.2 ≤ i := by omega
          simp [this]) h
      rw [this, e3, term_toNat _ _ _ hp]
      simp only [sumL]
      omega
    · simp at h
theorem apart_ok {s : Nat} (hs : IsShape s) : apartL (partsL s) = true := each_shape (P := fun s => apartL (partsL s) = true) (by decide) hs
theorem wrd_zero (k : Nat) (h1 : 1 ≤ k) (h2 : k ≤ 69) : ∀ p ∈ partsL (shp k), ∀ i, p.2.2.2 ≤ i → i < p.2.2.2 + p.2.2.1 → (BitVec.ofNat 64 (wrd k)).getLsbD i = false := by
  intro p hp i hi1 hi2
  have ok := ok_shape (shape_of h1 h2)
  have hh := ok.here p hp (i - p.2.2.2) (by omega)
  have t := ok.inw p hp
  unfold inW at t
  simp at t
  have hf := ok.fix i (by omega)
  rw [show p.2.2.2 + (i - p.2.2.2) = i by omega] at hh
  rw [hh] at hf
  rw [ofNat_bit (wrd_lt k h2) i (by omega)]
  cases hb : (wrd k).testBit i with
  | false => rfl
  | true =>
    have := wrd_fix k h1 h2 i (by omega) hb
    rw [this] at hf
    simp at hf
theorem encK_sum {k : Nat} (h1 : 1 ≤ k) (h2 : k ≤ 69) {ops : Nat → Int} {y : BitVec 64} (h : encK k ops = some y) : y.toNat = wrd k + sumL ops (partsL (shp k)) := by
  have ok := ok_shape (shape_of h1 h2)
  have hw := wrd_lt k h2
  have e : (BitVec.ofNat 64 (wrd k)).toNat = wrd k := by rw [BitVec.toNat_ofNat, Nat.mod_eq_of_lt (by omega)]
  have := enc_sum ok.inw (apart_ok (shape_of h1 h2)) (by rw [e]; exact hw) (wrd_zero k h1 h2) h
  rwa [e] at this
theorem enc_all {s : Nat} {ops : Nat → Int} : ∀ {L : List Prt} {w : BitVec 64}, (encL s ops L w).isSome = L.all (fun p => fitB s p.1 (ops p.1))
  | [], w => rfl
  | p :: r, w => by
    simp only [encL, List.all_cons]
    cases h : fitB s p.1 (ops p.1) with
    | true => simp only [if_true, Bool.true_and]; exact enc_all
    | false => simp
end Go.Proofs.YtdgkadoebcdmeaaDoor.InstMath
