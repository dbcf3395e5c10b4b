/-
  Texts laid one behind the other: InstMath, InstMath2, InstMath4, InstMath3.
  Plain mathematics of the instructions: the table (shapes, fixed words), of which parts the words of a shape consist, and what Encode and Decode are, as functions on words. No Go text here.
  Plain mathematics of the instructions: what is encoded is decoded, what is decoded is encoded, and no word is two instructions'. No Go text here.
  Plain mathematics of the instructions: a word as a sum of its parts, as the document says it. No Go text here.
  Plain mathematics of the instructions, for the laws: instructions with operands 0, another register. No Go text here.
-/
import Derived.Test.YtlommbeokbicjaaGreatDoorGField
namespace Go.Proofs.YtlommbeokbicjaaGreatDoor.InstMath
open Go Words FieldMath

/-- A part: operand, its lowest bit, how many bits, where in the word. -/
abbrev Prt := Nat × Nat × Nat × Nat
def shpL : List Nat := [45, 85, 85, 74, 73, 66, 66, 66, 66, 66, 66, 73, 73, 73, 73, 73, 73, 73, 83, 83, 83, 83, 73, 73, 73, 73, 73, 73, 72, 72, 72, 82, 82, 82, 82, 82, 82, 82, 82, 82, 82, 78, 78, 73, 83, 82, 82, 82, 82, 82, 82, 82, 82, 82, 82, 82, 71, 71, 71, 71, 71, 71, 71, 71, 71, 71, 71, 71, 73, 67]
def wrdL : List Nat := [0, 55, 23, 111, 103, 99, 4195, 16483, 20579, 24675, 28771, 3, 4099, 8195, 12291, 16387, 20483, 24579, 35, 4131, 8227, 12323, 19, 8211, 12307, 16403, 24595, 28691, 4115, 20499, 1073762323, 51, 1073741875, 4147, 8243, 12339, 16435, 20531, 1073762355, 24627, 28723, 115, 1048691, 8207, 16419, 268435547, 301989979, 369098843, 402653275, 436207707, 536871003, 570425435, 671088731, 973078619, 1073741915, 1107296347, 4261412955, 4262461531, 4263510107, 4264558683, 4265607259, 4267704411, 4269801563, 4270850139, 4271898715, 4272947291, 4277141595, 4279238747, 4187, 8283]
def shp (k : Nat) : Nat := shpL.getD k 0
def wrd (k : Nat) : Nat := wrdL.getD k 0
def partsL (s : Nat) : List Prt := if s = 82 then [(0, 0, 5, 7), (1, 0, 5, 15), (2, 0, 5, 20)] else if s = 71 then [(0, 0, 5, 7), (1, 0, 5, 15)] else if s = 73 then [(0, 0, 5, 7), (1, 0, 5, 15), (3, 0, 12, 20)] else if s = 67 then [(0, 0, 5, 7), (1, 0, 5, 15), (3, 0, 12, 20)] else if s = 72 then [(0, 0, 5, 7), (1, 0, 5, 15), (3, 0, 6, 20)] else if s = 83 then [(1, 0, 5, 15), (2, 0, 5, 20), (3, 0, 5, 7), (3, 5, 7, 25)] else if s = 66 then [(1, 0, 5, 15), (2, 0, 5, 20), (3, 1, 4, 8), (3, 5, 6, 25), (3, 11, 1, 7), (3, 12, 1, 31)] else if s = 85 then [(0, 0, 5, 7), (3, 12, 20, 12)] else if s = 74 then [(0, 0, 5, 7), (3, 12, 8, 12), (3, 11, 1, 20), (3, 1, 10, 21), (3, 20, 1, 31)] else []
def fixN (s : Nat) : Nat := if s = 82 then 4261441663 else if s = 71 then 4293947519 else if s = 72 then 4227887231 else if s = 73 then 28799 else if s = 67 then 28799 else if s = 83 then 28799 else if s = 66 then 28799 else if s = 85 then 127 else if s = 74 then 127 else 4294967295
def nW (s : Nat) : Nat := if s = 67 then 12 else if s = 72 then 6 else if s = 66 then 13 else if s = 85 then 32 else if s = 74 then 21 else 12
def nS (s : Nat) : Bool := if s = 67 then false else if s = 72 then false else if s = 66 then true else if s = 85 then true else if s = 74 then true else true
def nK (s : Nat) : Nat := if s = 67 then 1 else if s = 72 then 1 else if s = 66 then 2 else if s = 85 then 4096 else if s = 74 then 2 else 1
def IsShape (s : Nat) : Prop := s ∈ [82, 71, 73, 67, 72, 83, 66, 85, 74, 78]
theorem shape_of {k : Nat} (h : 1 ≤ k) (h2 : k ≤ 69) : IsShape (shp k) := by
  have : ∀ k, k < 70 → 1 ≤ k → IsShape (shp k) := by unfold IsShape; decide +kernel
  exact this k (by omega) h
theorem each_shape {P : Nat → Prop} (h : P 82 ∧ P 71 ∧ P 73 ∧ P 67 ∧ P 72 ∧ P 83 ∧ P 66 ∧ P 85 ∧ P 74 ∧ P 78) {s : Nat} (hs : IsShape s) : P s := by
  obtain ⟨h1, h2, h3, h4, h5, h6, h7, h8, h9, h10⟩ := h
  simp only [IsShape, List.mem_cons, List.not_mem_nil, or_false] at hs
  rcases hs with rfl | rfl | rfl | rfl | rfl | rfl | rfl | rfl | rfl | rfl <;> assumption

/-- May v be that operand of the shape? -/
def fitB (s o : Nat) (v : Int) : Bool := if o = 3 then fitsB v (nW s) (nS s) && (v.tmod (nK s) == 0) else fitsB v 5 false
def encL (s : Nat) (ops : Nat → Int) : List Prt → BitVec 64 → Option (BitVec 64)
  | [], w => some w
  | p :: r, w => if fitB s p.1 (ops p.1) then encL s ops r (putB w p.2.2.2 p.2.2.1 (BitVec.ofInt 64 (ops p.1) >>> p.2.1)) else none
def readL (x : BitVec 64) : List Prt → (Nat → BitVec 64) → (Nat → BitVec 64)
  | [], f => f
  | p :: r, f => readL x r (fun o => if o = p.1 then f o ||| (getB x p.2.2.2 p.2.2.1 <<< p.2.1) else f o)
/-- From where bit i of a word is: operand, and which of its bits. -/
def src : List Prt → Nat → Option (Nat × Nat)
  | [], _ => none
  | p :: r, i => match src r i with
    | some q => some q
    | none => if p.2.2.2 ≤ i ∧ i < p.2.2.2 + p.2.2.1 then some (p.1, p.2.1 + (i - p.2.2.2)) else none

def inW (p : Prt) : Bool := decide (p.2.2.2 + p.2.2.1 ≤ 32)
theorem ok_part {p : Prt} (h : inW p = true) : okF (p.2.2.2 : Int) (p.2.2.1 : Int) = true := by
  unfold inW at h; unfold okF; simp at h ⊢; omega
theorem enc_bit {s : Nat} {ops : Nat → Int} : ∀ {L : List Prt} {w y : BitVec 64}, (∀ p ∈ L, inW p = true) → encL s ops L w = some y → ∀ i, i < 64 →
    y.getLsbD i = match src L i with
      | some q => (BitVec.ofInt 64 (ops q.1)).getLsbD q.2
      | none => w.getLsbD i
  | [], w, y, _, h, i, _ => by
    simp only [encL, Option.some.injEq] at h
    subst h; rfl
  | p :: r, w, y, hL, h, i, hi => by
    simp only [encL] at h
    split at h
    · have ih := enc_bit (fun q hq => hL q (List.mem_cons_of_mem _ hq)) h i hi
      rw [ih]
      cases e : src r i with
      | some q => simp [src, e]
      | none =>
        simp only [src, e]
        have hp := hL p (by simp)
        rw [put_bit _ _ _ _ _ hi, ok_part hp]
        unfold inW at hp
        simp at hp
        by_cases c : p.2.2.2 ≤ i ∧ i < p.2.2.2 + p.2.2.1
        · have c2 : (true = true ∧ (p.2.2.2 : Int) ≤ i ∧ (i : Int) < (p.2.2.2 : Int) + (p.2.2.1 : Int)) := ⟨rfl, by omega, by omega⟩
          rw [if_pos c2, if_pos c, BitVec.getLsbD_ushiftRight]
          rfl
        · have c2 : ¬ (true = true ∧ (p.2.2.2 : Int) ≤ i ∧ (i : Int) < (p.2.2.2 : Int) + (p.2.2.1 : Int)) := by
            rintro ⟨_, c3, c4⟩; exact c ⟨by omega, by omega⟩
          rw [if_neg c2, if_neg c]
    · simp at h
theorem enc_some {s : Nat} {ops : Nat → Int} : ∀ {L : List Prt} {w : BitVec 64}, (∀ p ∈ L, fitB s p.1 (ops p.1) = true) → ∃ y, encL s ops L w = some y
  | [], w, _ => ⟨w, rfl⟩
  | p :: r, w, h => by
    simp only [encL, h p (by simp), if_true]
    exact enc_some (fun q hq => h q (List.mem_cons_of_mem _ hq))
theorem enc_fits {s : Nat} {ops : Nat → Int} : ∀ {L : List Prt} {w y : BitVec 64}, encL s ops L w = some y → ∀ p ∈ L, fitB s p.1 (ops p.1) = true
  | [], _, _, _, p, hp => by simp at hp
  | q :: r, w, y, h, p, hp => by
    simp only [encL] at h
    split at h
    · rename_i hf
      rcases List.mem_cons.1 hp with rfl | hp
      · exact hf
      · exact enc_fits h p hp
    · simp at h
/-- Does part p have bit j of its operand? -/
def hasJ (p : Prt) (o j : Nat) : Bool := p.1 == o && decide (p.2.1 ≤ j) && decide (j < p.2.1 + p.2.2.1)
theorem read_bit {x : BitVec 64} : ∀ {L : List Prt} {f : Nat → BitVec 64}, (∀ p ∈ L, inW p = true ∧ p.2.1 + p.2.2.1 ≤ 32) → ∀ o j, j < 64 →
    (readL x L f o).getLsbD j = ((f o).getLsbD j || L.any (fun p => hasJ p o j && x.getLsbD (p.2.2.2 + (j - p.2.1))))
  | [], f, _, o, j, _ => by simp [readL]
  | p :: r, f, hL, o, j, hj => by
    obtain ⟨hp, hp2⟩ := hL p (by simp)
    rw [readL, read_bit (fun q hq => hL q (List.mem_cons_of_mem _ hq)) o j hj, List.any_cons]
    by_cases ho : o = p.1
    · have h1 : hasJ p o j = (decide (p.2.1 ≤ j) && decide (j < p.2.1 + p.2.2.1)) := by unfold hasJ; rw [ho]; simp
      rw [if_pos ho, BitVec.getLsbD_or, BitVec.getLsbD_shiftLeft, h1]
      by_cases h2 : p.2.1 ≤ j
      · have e1 : ¬ j < p.2.1 := by omega
        have e2 : j - p.2.1 < 64 := by omega
        rw [get_bit _ _ _ _ e2, ok_part hp]
        have e3 : (((j - p.2.1 : Nat) : Int) < (p.2.2.1 : Int)) ↔ j < p.2.1 + p.2.2.1 := by omega
        simp only [hj, h2, e1, e3, decide_true, decide_false, Bool.not_false, Bool.true_and, Bool.or_assoc, Int.toNat_natCast]
      · have e1 : j < p.2.1 := by omega
        simp only [h2, e1, decide_true, decide_false, Bool.not_true, Bool.false_and, Bool.and_false, Bool.or_false, Bool.false_or]
    · have hpo : (p.1 == o) = false := by (simp; exact fun e => ho e.symm)
      have h1 : hasJ p o j = false := by unfold hasJ; rw [hpo]; rfl
      rw [if_neg ho, h1]
      simp only [Bool.false_and, Bool.false_or]

/-! what is so of each shape -/
def covers (s o j : Nat) : Bool := (partsL s).any (fun p => hasJ p o j)
def has (s o : Nat) : Bool := (partsL s).any (fun p => p.1 == o)
def okParts (s : Nat) : Bool :=
  (partsL s).all (fun p => inW p && decide (p.2.1 + p.2.2.1 ≤ 32) && decide (p.1 < 4)
    && (List.range p.2.2.1).all (fun d => src (partsL s) (p.2.2.2 + d) == some (p.1, p.2.1 + d))
    && (if p.1 == 3 then decide (p.2.1 + p.2.2.1 ≤ nW s) else decide (p.2.1 = 0) && decide (p.2.2.1 = 5))
    && (partsL s).all (fun q => (List.range 32).all (fun j => !(hasJ p p.1 j && hasJ q p.1 j) || p.2.2.2 + (j - p.2.1) == q.2.2.2 + (j - q.2.1))))
def okFix (s : Nat) : Bool := (List.range 32).all (fun i => (src (partsL s) i).isNone == (fixN s).testBit i) && decide (fixN s < 4294967296) && decide (1 ≤ nW s ∧ nW s ≤ 32)
def okImm (s : Nat) : Bool := !(has s 3) || (List.range (nW s)).all (fun j => covers s 3 j || nK s % 2 ^ (j + 1) == 0)
structure Ok (s : Nat) : Prop where
  inw : ∀ p ∈ partsL s, inW p = true
  top : ∀ p ∈ partsL s, p.2.1 + p.2.2.1 ≤ 32
  four : ∀ p ∈ partsL s, p.1 < 4
  here : ∀ p ∈ partsL s, ∀ d, d < p.2.2.1 → src (partsL s) (p.2.2.2 + d) = some (p.1, p.2.1 + d)
  imm : ∀ p ∈ partsL s, p.1 = 3 → p.2.1 + p.2.2.1 ≤ nW s
  reg : ∀ p ∈ partsL s, p.1 ≠ 3 → p.2.1 = 0 ∧ p.2.2.1 = 5
  one : ∀ p ∈ partsL s, ∀ q ∈ partsL s, ∀ j, j < 32 → hasJ p p.1 j = true → hasJ q p.1 j = true → p.2.2.2 + (j - p.2.1) = q.2.2.2 + (j - q.2.1)
  fix : ∀ i, i < 32 → (src (partsL s) i).isNone = (fixN s).testBit i
  fixl : fixN s < 4294967296
  nw : 1 ≤ nW s ∧ nW s ≤ 32
  step : has s 3 = true → ∀ j, j < nW s → covers s 3 j = true ∨ nK s % 2 ^ (j + 1) = 0
theorem ok_shape {s : Nat} (hs : IsShape s) : Ok s := by
  have h1 : okParts s = true := each_shape (P := fun s => okParts s = true) (by decide +kernel) hs
  have h2 : okFix s = true := each_shape (P := fun s => okFix s = true) (by decide +kernel) hs
  have h3 : okImm s = true := each_shape (P := fun s => okImm s = true) (by decide +kernel) hs
  simp only [okParts, List.all_eq_true, Bool.and_eq_true, decide_eq_true_eq, List.mem_range, beq_iff_eq] at h1
  simp only [okFix, List.all_eq_true, Bool.and_eq_true, decide_eq_true_eq, List.mem_range, beq_iff_eq] at h2
  refine ⟨fun p hp => (h1 p hp).1.1.1.1.1, fun p hp => (h1 p hp).1.1.1.1.2, fun p hp => (h1 p hp).1.1.1.2, fun p hp => (h1 p hp).1.1.2, fun p hp h => ?_, fun p hp h => ?_, fun p hp q hq j hj a b => ?_, h2.1.1, h2.1.2, h2.2, fun h j hj => ?_⟩
  · have := (h1 p hp).1.2
    rw [if_pos h] at this
    simpa using this
  · have := (h1 p hp).1.2
    rw [if_neg h] at this
    simpa using this
  · have := (h1 p hp).2 q hq j hj
    rw [a, b] at this
    simpa using this
  · unfold okImm at h3
    rw [h] at h3
    simp only [Bool.not_true, Bool.false_or, List.all_eq_true, List.mem_range, Bool.or_eq_true, beq_iff_eq] at h3
    exact h3 j hj
end Go.Proofs.YtlommbeokbicjaaGreatDoor.InstMath

namespace Go.Proofs.YtlommbeokbicjaaGreatDoor.InstMath
open Go Words FieldMath

def matchB (k : Nat) (x : BitVec 64) : Bool := x &&& BitVec.ofNat 64 (fixN (shp k)) == BitVec.ofNat 64 (wrd k)
def rawB (k : Nat) (x : BitVec 64) (o : Nat) : BitVec 64 := readL x (partsL (shp k)) (fun _ => 0) o
def opsB (k : Nat) (x : BitVec 64) (o : Nat) : BitVec 64 := if o = 3 ∧ nS (shp k) = true then signB (rawB k x o) (nW (shp k)) else rawB k x o
def opsI (k : Nat) (x : BitVec 64) (o : Nat) : Int := (opsB k x o).toInt
def encK (k : Nat) (ops : Nat → Int) : Option (BitVec 64) := encL (shp k) ops (partsL (shp k)) (BitVec.ofNat 64 (wrd k))

theorem wrd_lt (k : Nat) (h : k ≤ 69) : wrd k < 4294967296 := by
  have : ∀ k, k < 70 → wrd k < 4294967296 := by decide +kernel
  exact this k (by omega)
theorem wrd_fix (k : Nat) (h1 : 1 ≤ k) (h : k ≤ 69) (i : Nat) (_hi : i < 32) (hb : (wrd k).testBit i = true) : (fixN (shp k)).testBit i = true := by
  have : ∀ k, k < 70 → (k = 0 ∨ wrd k &&& fixN (shp k) = wrd k) := by decide +kernel
  rcases this k (by omega) with h2 | h2
  · omega
  · rw [← h2, Nat.testBit_and] at hb
    simp at hb
    exact hb.2
theorem src_mem : ∀ {L : List Prt} {i : Nat} {q : Nat × Nat}, src L i = some q → ∃ p ∈ L, p.2.2.2 ≤ i ∧ i < p.2.2.2 + p.2.2.1 ∧ q = (p.1, p.2.1 + (i - p.2.2.2))
  | [], _, _, h => by simp [src] at h
  | p :: r, i, q, h => by
    unfold src at h
    cases e : src r i with
    | some q' =>
      rw [e] at h
      obtain rfl := Option.some.inj h
      obtain ⟨p', hp', h2⟩ := src_mem e
      exact ⟨p', List.mem_cons_of_mem _ hp', h2⟩
    | none =>
      rw [e] at h
      simp only at h
      split at h
      · rename_i c
        exact ⟨p, by simp, c.1, c.2, (Option.some.inj h).symm⟩
      · simp at h
theorem lo_of {x : BitVec 64} {n : Nat} (h : ∀ i, n ≤ i → i < 64 → x.getLsbD i = false) : x.toNat < 2 ^ n := by
  refine Nat.lt_pow_two_of_testBit _ fun i hi => ?_
  by_cases h2 : i < 64
  · exact h i hi h2
  · exact BitVec.getLsbD_of_ge x i (by omega)
theorem hi_of {x : BitVec 64} {n : Nat} (h : x.toNat < 2 ^ n) (i : Nat) (hi : n ≤ i) : x.getLsbD i = false :=
  Nat.testBit_lt_two_pow (Nat.lt_of_lt_of_le h (Nat.pow_le_pow_right (by decide) hi))
theorem ofNat_bit {n : Nat} (_h : n < 4294967296) (i : Nat) (hi : i < 64) : (BitVec.ofNat 64 n).getLsbD i = n.testBit i := by
  rw [BitVec.getLsbD_ofNat]; simp [hi]
theorem big_bit {n : Nat} (h : n < 4294967296) (i : Nat) (hi : 32 ≤ i) : n.testBit i = false :=
  Nat.testBit_lt_two_pow (Nat.lt_of_lt_of_le (show n < 2 ^ 32 from h) (Nat.pow_le_pow_right (by decide) hi))

theorem match_iff {k : Nat} (h1 : 1 ≤ k) (h2 : k ≤ 69) {x : BitVec 64} (_hx : x.toNat < 4294967296) : matchB k x = true ↔ ∀ i, i < 32 → (fixN (shp k)).testBit i = true → x.getLsbD i = (wrd k).testBit i := by
  have ok := ok_shape (shape_of h1 h2)
  have hw := wrd_lt k h2
  unfold matchB
  rw [beq_iff_eq]
  constructor
  · intro h i hi hf
    have := congrArg (fun y => y.getLsbD i) h
    simp only [BitVec.getLsbD_and] at this
    rw [ofNat_bit ok.fixl i (by omega), ofNat_bit hw i (by omega), hf, Bool.and_true] at this
    exact this
  · intro h
    refine ext64 fun i hi => ?_
    rw [BitVec.getLsbD_and, ofNat_bit ok.fixl i hi, ofNat_bit hw i hi]
    by_cases h3 : i < 32
    · cases hf : (fixN (shp k)).testBit i with
      | true => rw [Bool.and_true]; exact h i h3 hf
      | false =>
        rw [Bool.and_false]
        cases hb : (wrd k).testBit i with
        | false => rfl
        | true => rw [wrd_fix k h1 h2 i h3 hb] at hf; exact hf.symm
    · rw [big_bit ok.fixl i (by omega), big_bit hw i (by omega), Bool.and_false]
theorem src_out {k : Nat} (h1 : 1 ≤ k) (h2 : k ≤ 69) (i : Nat) (hi : 32 ≤ i) : src (partsL (shp k)) i = none := by
  have ok := ok_shape (shape_of h1 h2)
  cases e : src (partsL (shp k)) i with
  | none => rfl
  | some q =>
    obtain ⟨p, hp, _, h4, _⟩ := src_mem e
    have := ok.inw p hp
    unfold inW at this
    simp at this
    omega
theorem enc_match {k : Nat} (h1 : 1 ≤ k) (h2 : k ≤ 69) {ops : Nat → Int} {y : BitVec 64} (h : encK k ops = some y) : y.toNat < 4294967296 ∧ matchB k y = true := by
  have ok := ok_shape (shape_of h1 h2)
  have hw := wrd_lt k h2
  have hb := enc_bit ok.inw h
  have hy : y.toNat < 2 ^ 32 := lo_of fun i hi hi2 => by
    rw [hb i hi2, src_out h1 h2 i hi]
    simp only
    rw [ofNat_bit hw i hi2, big_bit hw i hi]
  refine ⟨hy, (match_iff h1 h2 hy).2 fun i hi hf => ?_⟩
  rw [hb i (by omega)]
  have := ok.fix i hi
  rw [hf, Option.isNone_iff_eq_none] at this
  rw [this]
  simp only
  rw [ofNat_bit hw i (by omega)]
theorem raw_bit {k : Nat} (h1 : 1 ≤ k) (h2 : k ≤ 69) (x : BitVec 64) (o j : Nat) (hj : j < 64) : (rawB k x o).getLsbD j = (partsL (shp k)).any (fun p => hasJ p o j && x.getLsbD (p.2.2.2 + (j - p.2.1))) := by
  have ok := ok_shape (shape_of h1 h2)
  unfold rawB
  rw [read_bit (fun p hp => ⟨ok.inw p hp, ok.top p hp⟩) o j hj]
  simp
theorem raw_here {k : Nat} (h1 : 1 ≤ k) (h2 : k ≤ 69) (x : BitVec 64) {p : Prt} (hp : p ∈ partsL (shp k)) (j : Nat) (hj : hasJ p p.1 j = true) : (rawB k x p.1).getLsbD j = x.getLsbD (p.2.2.2 + (j - p.2.1)) := by
  have ok := ok_shape (shape_of h1 h2)
  have hj2 := hj
  unfold hasJ at hj2
  simp at hj2
  have := ok.top p hp
  rw [raw_bit h1 h2 x p.1 j (by omega), Bool.eq_iff_iff, List.any_eq_true]
  constructor
  · rintro ⟨q, hq, h3⟩
    rw [Bool.and_eq_true] at h3
    rw [ok.one p hp q hq j (by omega) hj h3.1]
    exact h3.2
  · intro h3
    exact ⟨p, hp, by rw [hj, h3]; rfl⟩
theorem raw_out {k : Nat} (h1 : 1 ≤ k) (h2 : k ≤ 69) (x : BitVec 64) (o j : Nat) (hj : j < 64) (hc : covers (shp k) o j = false) : (rawB k x o).getLsbD j = false := by
  rw [raw_bit h1 h2 x o j hj]
  unfold covers at hc
  rw [List.any_eq_false] at hc ⊢
  intro p hp
  have := hc p hp
  simp only [Bool.not_eq_true] at this
  rw [this]
  simp
theorem cover_reg {k : Nat} (h1 : 1 ≤ k) (h2 : k ≤ 69) {o j : Nat} (ho : o ≠ 3) (hc : covers (shp k) o j = true) : j < 5 := by
  have ok := ok_shape (shape_of h1 h2)
  unfold covers at hc
  obtain ⟨p, hp, h3⟩ := List.any_eq_true.1 hc
  unfold hasJ at h3
  simp at h3
  have := ok.reg p hp (by omega)
  omega
theorem cover_imm {k : Nat} (h1 : 1 ≤ k) (h2 : k ≤ 69) {j : Nat} (hc : covers (shp k) 3 j = true) : j < nW (shp k) := by
  have ok := ok_shape (shape_of h1 h2)
  unfold covers at hc
  obtain ⟨p, hp, h3⟩ := List.any_eq_true.1 hc
  unfold hasJ at h3
  simp at h3
  have := ok.imm p hp (by omega)
  omega
theorem raw_reg {k : Nat} (h1 : 1 ≤ k) (h2 : k ≤ 69) (x : BitVec 64) {o : Nat} (ho : o ≠ 3) : (rawB k x o).toNat < 32 := by
  have : (rawB k x o).toNat < 2 ^ 5 := lo_of fun i hi hi2 => raw_out h1 h2 x o i hi2 (by
    cases hc : covers (shp k) o i with
    | false => rfl
    | true => have := cover_reg h1 h2 ho hc; omega)
  exact this
theorem raw_imm {k : Nat} (h1 : 1 ≤ k) (h2 : k ≤ 69) (x : BitVec 64) : (rawB k x 3).toNat < 2 ^ nW (shp k) := lo_of fun i hi hi2 => raw_out h1 h2 x 3 i hi2 (by
    cases hc : covers (shp k) 3 i with
    | false => rfl
    | true => have := cover_imm h1 h2 hc; omega)

theorem toInt_small {x : BitVec 64} (h : x.toNat < 4294967296) : x.toInt = (x.toNat : Int) := by
  rw [BitVec.toInt_eq_toNat_cond, if_pos (by omega)]
theorem ofInt_small {v : Int} (h0 : 0 ≤ v) (h : v < 4294967296) : (BitVec.ofInt 64 v).toNat = v.toNat := by
  rw [BitVec.toNat_ofInt]; simp; omega
theorem mask_toNat (n : Nat) (h : n ≤ 32) : ((maskB (n : Int)).toNat : Int) = 2 ^ n - 1 := by
  unfold maskB
  rw [BitVec.toNat_ofNat]
  have e : min (n : Int).toNat 64 = n := by omega
  have h2 : 2 ^ n ≤ 2 ^ 32 := Nat.pow_le_pow_right (by decide) h
  have h3 : 0 < 2 ^ n := Nat.two_pow_pos n
  rw [e, Nat.mod_eq_of_lt (by omega)]
  have : ((2 : Int) ^ n) = ((2 ^ n : Nat) : Int) := by simp
  rw [this]; omega
theorem fits_u (v : Int) (n : Nat) (h1 : 1 ≤ n) (h : n ≤ 32) : fitsB v n false = (decide (0 ≤ v) && decide (v < 2 ^ n)) := by
  unfold fitsB
  have : FieldMath.numW (n : Int) = true := by unfold FieldMath.numW; simp; omega
  rw [this, mask_toNat n h]
  have e : (v ≤ 2 ^ n - 1) ↔ (v < 2 ^ n) := by omega
  simp only [e]
  simp
theorem fits_s (v : Int) (n : Nat) (h1 : 1 ≤ n) (h : n ≤ 32) : fitsB v n true = (signB (BitVec.ofInt 64 v) n == BitVec.ofInt 64 v) := by
  unfold fitsB
  have : FieldMath.numW (n : Int) = true := by unfold FieldMath.numW; simp; omega
  rw [this]
  simp
theorem sign_at (x : BitVec 64) (n : Nat) (h1 : 1 ≤ n) (h : n ≤ 32) (i : Nat) (hi : i < 64) : (signB x n).getLsbD i = x.getLsbD (if i < n then i else n - 1) := by
  have : FieldMath.numW (n : Int) = true := by unfold FieldMath.numW; simp; omega
  rw [sign_bit _ _ _ hi, this, Bool.true_and]
  congr 1
  by_cases h2 : i < n
  · have : (i : Int) < (n : Int) := by omega
    rw [if_pos h2, if_pos this]
  · have : ¬ (i : Int) < (n : Int) := by omega
    rw [if_neg h2, if_neg this]
    omega
theorem pow_split (j : Nat) (h : j ≤ 64) : (18446744073709551616 : Nat) = 2 ^ j * 2 ^ (64 - j) := by
  rw [← Nat.pow_add, show j + (64 - j) = 64 by omega]
theorem dvd_bit {v : Int} {m j : Nat} (hj : j < 63) (hm : m % 2 ^ (j + 1) = 0) (h : (m : Int) ∣ v) : (BitVec.ofInt 64 v).getLsbD j = false := by
  have hd0 : ((2 ^ (j + 1) : Nat) : Int) ∣ v := Int.dvd_trans (Int.natCast_dvd_natCast.2 (Nat.dvd_of_mod_eq_zero hm)) h
  have e : ((BitVec.ofInt 64 v).toNat : Int) = v % (18446744073709551616 : Nat) := by
    rw [BitVec.toNat_ofInt]; simp; omega
  have hd : ((2 ^ (j + 1) : Nat) : Int) ∣ ((BitVec.ofInt 64 v).toNat : Int) := by
    rw [e, Int.emod_def]
    exact Int.dvd_sub hd0 (Int.dvd_trans (Int.natCast_dvd_natCast.2 ⟨2 ^ (64 - (j + 1)), pow_split (j + 1) (by omega)⟩) (Int.dvd_mul_right _ _))
  obtain ⟨c, hc⟩ := Int.natCast_dvd_natCast.1 hd
  show (BitVec.ofInt 64 v).toNat.testBit j = false
  rw [hc, Nat.testBit_eq_decide_div_mod_eq, Nat.pow_succ, Nat.mul_assoc, Nat.mul_div_cancel_left _ (Nat.two_pow_pos j)]
  simp
theorem bits_dvd {x : BitVec 64} {t : Nat} (ht : t ≤ 63) (h : ∀ j, j < t → x.getLsbD j = false) : ((2 ^ t : Nat) : Int) ∣ x.toInt := by
  have hz : x.toNat % 2 ^ t = 0 := by
    refine Nat.eq_of_testBit_eq fun i => ?_
    rw [Nat.testBit_mod_two_pow, Nat.zero_testBit]
    by_cases hi : i < t
    · have : x.toNat.testBit i = false := h i hi
      rw [this]; simp
    · simp [hi]
  have hd : ((2 ^ t : Nat) : Int) ∣ (x.toNat : Int) := Int.natCast_dvd_natCast.2 (Nat.dvd_of_mod_eq_zero hz)
  have h64 : ((2 ^ t : Nat) : Int) ∣ (18446744073709551616 : Nat) := Int.natCast_dvd_natCast.2 ⟨2 ^ (64 - t), pow_split t (by omega)⟩
  rw [BitVec.toInt_eq_toNat_cond]
  split
  · exact hd
  · exact Int.dvd_sub hd h64

def okStep (s : Nat) : Bool := nK s == 2 ^ (nK s).log2 && decide ((nK s).log2 < 32) && (List.range (nK s).log2).all (fun j => !covers s 3 j && decide (j < nW s))
theorem ok_step {s : Nat} (hs : IsShape s) : nK s = 2 ^ (nK s).log2 ∧ (nK s).log2 < 32 ∧ ∀ j, j < (nK s).log2 → covers s 3 j = false ∧ j < nW s := by
  have h : okStep s = true := each_shape (P := fun s => okStep s = true) (by decide +kernel) hs
  simp only [okStep, Bool.and_eq_true, beq_iff_eq, decide_eq_true_eq, List.all_eq_true, List.mem_range, Bool.not_eq_true'] at h
  exact ⟨h.1.1, h.1.2, h.2⟩

theorem ops_back {k : Nat} (x : BitVec 64) (o : Nat) : BitVec.ofInt 64 (opsI k x o) = opsB k x o := ofInt_toInt _
theorem ops_bit {k : Nat} (h1 : 1 ≤ k) (h2 : k ≤ 69) (x : BitVec 64) (o j : Nat) (hj : j < 64) (hn : o = 3 → j < nW (shp k)) : (opsB k x o).getLsbD j = (rawB k x o).getLsbD j := by
  have ok := ok_shape (shape_of h1 h2)
  unfold opsB
  split
  · rename_i h
    rw [sign_at _ _ ok.nw.1 ok.nw.2 j hj, if_pos (hn h.1)]
  · rfl
theorem ops_reg {k : Nat} (h1 : 1 ≤ k) (h2 : k ≤ 69) (x : BitVec 64) {o : Nat} (ho : o ≠ 3) : opsI k x o = ((rawB k x o).toNat : Int) := by
  have := raw_reg h1 h2 x ho
  unfold opsI opsB
  rw [if_neg (by simp [ho]), toInt_small (by omega)]
theorem ops_fit {k : Nat} (h1 : 1 ≤ k) (h2 : k ≤ 69) (x : BitVec 64) (o : Nat) : fitB (shp k) o (opsI k x o) = true := by
  have ok := ok_shape (shape_of h1 h2)
  obtain ⟨n1, n2⟩ := ok.nw
  unfold fitB
  by_cases ho : o = 3
  · subst ho
    rw [if_pos rfl]
    obtain ⟨s1, s2, s3⟩ := ok_step (shape_of h1 h2)
    have hst : (opsI k x 3).tmod (nK (shp k)) = 0 := by
      refine Int.tmod_eq_zero_of_dvd ?_
      rw [s1]
      refine bits_dvd (by omega) fun j hj => ?_
      obtain ⟨c1, c2⟩ := s3 j hj
      rw [ops_bit h1 h2 x 3 j (by omega) (fun _ => c2)]
      exact raw_out h1 h2 x 3 j (by omega) c1
    rw [hst]
    cases hs : nS (shp k) with
    | true =>
      rw [fits_s _ _ n1 n2, ops_back]
      have : signB (opsB k x 3) (nW (shp k)) = opsB k x 3 := by
        unfold opsB
        rw [if_pos ⟨rfl, hs⟩]
        refine ext64 fun i hi => ?_
        rw [sign_at _ _ n1 n2 i hi, sign_at _ _ n1 n2 _ (by split <;> omega), sign_at _ _ n1 n2 i hi]
        congr 1
        by_cases h : i < nW (shp k)
        · rw [if_pos h, if_pos h]
        · rw [if_neg h, if_pos (by omega)]
      rw [this]
      simp
    | false =>
      have hr := raw_imm h1 h2 x
      have h32 : 2 ^ nW (shp k) ≤ 2 ^ 32 := Nat.pow_le_pow_right (by decide) n2
      have : opsI k x 3 = ((rawB k x 3).toNat : Int) := by
        unfold opsI opsB
        rw [if_neg (by simp [hs]), toInt_small (by omega)]
      rw [fits_u _ _ n1 n2, this]
      have e : ((rawB k x 3).toNat : Int) < 2 ^ nW (shp k) := by
        have : ((2 : Int) ^ nW (shp k)) = ((2 ^ nW (shp k) : Nat) : Int) := by simp
        rw [this]; omega
      simp [e]
  · rw [if_neg ho, show (5 : Int) = ((5 : Nat) : Int) from rfl, fits_u _ _ (by decide) (by decide), ops_reg h1 h2 x ho]
    have := raw_reg h1 h2 x ho
    have e : ((rawB k x o).toNat : Int) < 2 ^ 5 := by omega
    rw [decide_eq_true e]
    simp
/-- What was decoded is encoded to the word. -/
theorem enc_read {k : Nat} (h1 : 1 ≤ k) (h2 : k ≤ 69) {x : BitVec 64} (hx : x.toNat < 4294967296) (hm : matchB k x = true) : encK k (opsI k x) = some x := by
  have ok := ok_shape (shape_of h1 h2)
  have hw := wrd_lt k h2
  obtain ⟨y, hy⟩ := enc_some (s := shp k) (ops := opsI k x) (L := partsL (shp k)) (w := BitVec.ofNat 64 (wrd k)) (fun p _ => ops_fit h1 h2 x p.1)
  have hb := enc_bit ok.inw hy
  have : y = x := by
    refine ext64 fun i hi => ?_
    rw [hb i hi]
    by_cases hi2 : i < 32
    · cases e : src (partsL (shp k)) i with
      | none =>
        have := ok.fix i hi2
        rw [e] at this
        rw [(match_iff h1 h2 hx).1 hm i hi2 this.symm]
        simp only
        rw [ofNat_bit hw i hi]
      | some q =>
        obtain ⟨p, hp, c1, c2, rfl⟩ := src_mem e
        have t := ok.top p hp
        have hj : hasJ p p.1 (p.2.1 + (i - p.2.2.2)) = true := by unfold hasJ; simp; omega
        simp only
        rw [ops_back, ops_bit h1 h2 x _ _ (by omega) (fun h3 => by have := ok.imm p hp h3; omega), raw_here h1 h2 x hp _ hj]
        congr 1
        omega
    · rw [src_out h1 h2 i (by omega)]
      simp only
      rw [ofNat_bit hw i hi, big_bit hw i (by omega), hi_of (n := 32) hx i (by omega)]
  rw [this] at hy
  exact hy
/-- What was encoded is decoded to the operands that the shape has. -/
theorem read_enc {k : Nat} (h1 : 1 ≤ k) (h2 : k ≤ 69) {ops : Nat → Int} {y : BitVec 64} (h : encK k ops = some y) (hr : ∀ o, -9223372036854775808 ≤ ops o ∧ ops o < 9223372036854775808) (o : Nat) : opsI k y o = if has (shp k) o then ops o else 0 := by
  have ok := ok_shape (shape_of h1 h2)
  obtain ⟨n1, n2⟩ := ok.nw
  have hb := enc_bit ok.inw h
  have hf := enc_fits h
  cases hh : has (shp k) o with
  | false =>
    have hz : rawB k y o = 0 := ext64 fun i hi => by
      rw [raw_out h1 h2 y o i hi]
      · simp
      · unfold has at hh
        unfold covers
        rw [List.any_eq_false] at hh ⊢
        intro p hp
        have := hh p hp
        simp only [Bool.not_eq_true] at this
        unfold hasJ
        rw [this]
        simp
    simp only [Bool.false_eq_true, if_false]
    unfold opsI opsB
    rw [hz]
    split
    · have : signB 0 (nW (shp k)) = 0 := ext64 fun i hi => by
        rw [sign_at _ _ n1 n2 i hi]; simp
      rw [this]; rfl
    · rfl
  | true =>
    simp only [if_true]
    have hh2 := hh
    unfold has at hh2
    obtain ⟨p, hp, hpo⟩ := List.any_eq_true.1 hh2
    have hpo : p.1 = o := by simpa using hpo
    have hfit := hf p hp
    rw [hpo] at hfit
    -- the bits that the word has
    have hcov : ∀ j, j < 64 → covers (shp k) o j = true → (rawB k y o).getLsbD j = (BitVec.ofInt 64 (ops o)).getLsbD j := by
      intro j hj hc
      unfold covers at hc
      obtain ⟨q, hq, hqj⟩ := List.any_eq_true.1 hc
      have hqo : q.1 = o := by unfold hasJ at hqj; simp at hqj; exact hqj.1.1
      subst hqo
      rw [raw_here h1 h2 y hq j hqj]
      unfold hasJ at hqj
      simp at hqj
      have t := ok.inw q hq
      unfold inW at t
      simp at t
      have hs := ok.here q hq (j - q.2.1) (by omega)
      rw [hb _ (by omega), hs]
      simp only
      congr 1
      omega
    have key : opsB k y o = BitVec.ofInt 64 (ops o) := by
      unfold fitB at hfit
      by_cases ho : o = 3
      · subst ho
        rw [if_pos rfl, Bool.and_eq_true, beq_iff_eq] at hfit
        obtain ⟨f1, f2⟩ := hfit
        have hd : ((nK (shp k) : Nat) : Int) ∣ ops 3 := Int.dvd_of_tmod_eq_zero f2
        have hlow : ∀ j, j < nW (shp k) → (rawB k y 3).getLsbD j = (BitVec.ofInt 64 (ops 3)).getLsbD j := by
          intro j hj
          cases hc : covers (shp k) 3 j with
          | true => exact hcov j (by omega) hc
          | false =>
            rcases ok.step hh j hj with h3 | h3
            · rw [hc] at h3; simp at h3
            · rw [raw_out h1 h2 y 3 j (by omega) hc, dvd_bit (by omega) h3 hd]
        cases hs : nS (shp k) with
        | true =>
          rw [hs, fits_s _ _ n1 n2, beq_iff_eq] at f1
          unfold opsB
          rw [if_pos ⟨rfl, hs⟩]
          refine ext64 fun i hi => ?_
          rw [sign_at _ _ n1 n2 i hi, hlow _ (by split <;> omega)]
          have f2 := congrArg (fun z => z.getLsbD i) f1
          rw [sign_at _ _ n1 n2 i hi] at f2
          exact f2
        | false =>
          rw [hs, fits_u _ _ n1 n2, Bool.and_eq_true, decide_eq_true_eq, decide_eq_true_eq] at f1
          obtain ⟨g1, g2⟩ := f1
          have h32 : 2 ^ nW (shp k) ≤ 2 ^ 32 := Nat.pow_le_pow_right (by decide) n2
          have ec : ((2 : Int) ^ nW (shp k)) = ((2 ^ nW (shp k) : Nat) : Int) := by simp
          rw [ec] at g2
          have hn : (BitVec.ofInt 64 (ops 3)).toNat < 2 ^ nW (shp k) := by
            rw [ofInt_small g1 (by omega)]; omega
          unfold opsB
          rw [if_neg (by simp [hs])]
          refine ext64 fun i hi => ?_
          by_cases hi2 : i < nW (shp k)
          · exact hlow i hi2
          · rw [hi_of hn i (by omega), hi_of (raw_imm h1 h2 y) i (by omega)]
      · rw [if_neg ho, show (5 : Int) = ((5 : Nat) : Int) from rfl, fits_u _ _ (by decide) (by decide), Bool.and_eq_true, decide_eq_true_eq, decide_eq_true_eq] at hfit
        obtain ⟨g1, g2⟩ := hfit
        have hn : (BitVec.ofInt 64 (ops o)).toNat < 2 ^ 5 := by
          rw [ofInt_small g1 (by omega)]; omega
        unfold opsB
        rw [if_neg (by simp [ho])]
        refine ext64 fun i hi => ?_
        by_cases hi2 : i < 5
        · have hreg := ok.reg p hp (by omega)
          refine hcov i hi ?_
          unfold covers
          exact List.any_eq_true.2 ⟨p, hp, by unfold hasJ; simp; omega⟩
        · rw [hi_of hn i (by omega), hi_of (n := 5) (raw_reg h1 h2 y ho) i (by omega)]
    unfold opsI
    rw [key, BitVec.toInt_ofInt]
    have := hr o
    simp only [Int.bmod]
    omega
/-- No word is two instructions'. -/
theorem match_one {j k : Nat} (hj : 1 ≤ j ∧ j ≤ 69) (hk : 1 ≤ k ∧ k ≤ 69) {x : BitVec 64} (h1 : matchB j x = true) (h2 : matchB k x = true) : j = k := by
  have all : ∀ j, j < 70 → ∀ k, k < 70 → (j = 0 ∨ k = 0 ∨ j = k ∨ wrd j &&& fixN (shp k) ≠ wrd k &&& fixN (shp j)) := by decide +kernel
  rcases all j (by omega) k (by omega) with h | h | h | h
  · omega
  · omega
  · exact h
  · exfalso
    refine h ?_
    unfold matchB at h1 h2
    rw [beq_iff_eq] at h1 h2
    have e : BitVec.ofNat 64 (wrd j) &&& BitVec.ofNat 64 (fixN (shp k)) = BitVec.ofNat 64 (wrd k) &&& BitVec.ofNat 64 (fixN (shp j)) := by
      rw [← h1, ← h2, BitVec.and_assoc, BitVec.and_assoc, BitVec.and_comm (BitVec.ofNat 64 (fixN (shp j)))]
    have e2 := congrArg BitVec.toNat e
    have oj := ok_shape (shape_of hj.1 hj.2)
    have okk := ok_shape (shape_of hk.1 hk.2)
    have l1 := oj.fixl
    have l2 := okk.fixl
    have l3 := wrd_lt j hj.2
    have l4 := wrd_lt k hk.2
    simp only [BitVec.toNat_and, BitVec.toNat_ofNat] at e2
    rw [Nat.mod_eq_of_lt (by omega), Nat.mod_eq_of_lt (by omega), Nat.mod_eq_of_lt (by omega), Nat.mod_eq_of_lt (by omega)] at e2
    exact e2
end Go.Proofs.YtlommbeokbicjaaGreatDoor.InstMath

namespace Go.Proofs.YtlommbeokbicjaaGreatDoor.InstMath
open Go Words FieldMath

theorem or_add {x t : BitVec 64} (h : x &&& t = 0#64) (hx : x.toNat < 4294967296) (ht : t.toNat < 4294967296) : (x ||| t).toNat = x.toNat + t.toNat := by
  rw [← BitVec.add_eq_or_of_and_eq_zero x t h, BitVec.toNat_add]
  omega
/-- The part that is put: v's lowest n bits, from bit a on. -/
def term (a n : Nat) (v : BitVec 64) : BitVec 64 := (v <<< a) &&& (maskB (n : Int) <<< a)
theorem term_bit (a n : Nat) (v : BitVec 64) (i : Nat) (hi : i < 64) : (term a n v).getLsbD i = (decide (a ≤ i) && decide (i < a + n) && v.getLsbD (i - a)) := by
  unfold term
  rw [BitVec.getLsbD_and, BitVec.getLsbD_shiftLeft, BitVec.getLsbD_shiftLeft, mask_bit]
  by_cases h : a ≤ i
  · have e1 : ¬ i < a := by omega
    have e2 : i - a < 64 := by omega
    have e3 : (((i - a : Nat) : Int) < (n : Int)) ↔ i < a + n := by omega
    simp only [hi, h, e1, e2, e3, decide_true, decide_false, Bool.not_false, Bool.true_and, Bool.and_comm]
  · have e1 : i < a := by omega
    simp only [h, e1, decide_true, decide_false, Bool.not_true, Bool.false_and, Bool.and_false]
theorem term_toNat (a n : Nat) (v : BitVec 64) (h : a + n ≤ 32) : (term a n v).toNat = v.toNat % 2 ^ n * 2 ^ a := by
  refine Nat.eq_of_testBit_eq fun i => ?_
  rw [Nat.testBit_mul_two_pow, Nat.testBit_mod_two_pow]
  by_cases hi : i < 64
  · have e : (term a n v).toNat.testBit i = (term a n v).getLsbD i := rfl
    have e2 : v.toNat.testBit (i - a) = v.getLsbD (i - a) := rfl
    rw [e, term_bit _ _ _ _ hi, e2]
    by_cases h1 : a ≤ i
    · have e3 : i - a < n ↔ i < a + n := by omega
      simp only [h1, e3, decide_true, Bool.true_and]
    · simp only [h1, decide_false, Bool.false_and]
  · have e : (term a n v).toNat.testBit i = false := BitVec.getLsbD_of_ge _ i (by omega)
    have h2 : ¬ i - a < n := by omega
    rw [e]
    simp [h2]
theorem term_lt (a n : Nat) (v : BitVec 64) (h : a + n ≤ 32) : (term a n v).toNat < 4294967296 := by
  have : (term a n v).toNat < 2 ^ 32 := lo_of fun i hi hi2 => by
    rw [term_bit _ _ _ _ hi2]
    have : ¬ i < a + n := by omega
    simp [this]
  exact this
theorem put_term {x : BitVec 64} {a n : Nat} (h : a + n ≤ 32) (hz : ∀ i, a ≤ i → i < a + n → x.getLsbD i = false) (v : BitVec 64) : putB x a n v = x ||| term a n v ∧ x &&& term a n v = 0#64 := by
  have ok : okF (a : Int) (n : Int) = true := by unfold okF; simp; omega
  constructor
  · refine ext64 fun i hi => ?_
    rw [put_bit _ _ _ _ _ hi, BitVec.getLsbD_or, term_bit _ _ _ _ hi, ok]
    by_cases c : a ≤ i ∧ i < a + n
    · have c2 : (true = true ∧ (a : Int) ≤ i ∧ (i : Int) < (a : Int) + (n : Int)) := ⟨rfl, by omega, by omega⟩
      rw [if_pos c2, hz i c.1 c.2]
      simp [c.1, c.2]
    · have c2 : ¬ (true = true ∧ (a : Int) ≤ i ∧ (i : Int) < (a : Int) + (n : Int)) := by
        rintro ⟨_, c3, c4⟩; exact c ⟨by omega, by omega⟩
      rw [if_neg c2]
      by_cases h1 : a ≤ i
      · have h2 : ¬ i < a + n := fun h2 => c ⟨h1, h2⟩
        simp [h2]
      · simp [h1]
  · refine ext64 fun i hi => ?_
    rw [BitVec.getLsbD_and, term_bit _ _ _ _ hi]
    by_cases h1 : a ≤ i
    · by_cases h2 : i < a + n
      · rw [hz i h1 h2]; simp
      · simp [h2]
    · simp [h1]
/-- The sum of the parts. -/
def sumL (ops : Nat → Int) : List Prt → Nat
  | [] => 0
  | p :: r => (BitVec.ofInt 64 (ops p.1) >>> p.2.1).toNat % 2 ^ p.2.2.1 * 2 ^ p.2.2.2 + sumL ops r
def apartL : List Prt → Bool
  | [] => true
  | p :: r => r.all (fun q => decide (p.2.2.2 + p.2.2.1 ≤ q.2.2.2) || decide (q.2.2.2 + q.2.2.1 ≤ p.2.2.2)) && apartL r
theorem enc_sum {s : Nat} {ops : Nat → Int} : ∀ {L : List Prt} {w y : BitVec 64}, (∀ p ∈ L, inW p = true) → apartL L = true → w.toNat < 4294967296 → (∀ p ∈ L, ∀ i, p.2.2.2 ≤ i → i < p.2.2.2 + p.2.2.1 → w.getLsbD i = false) →
    encL s ops L w = some y → y.toNat = w.toNat + sumL ops L
  | [], w, y, _, _, _, _, h => by
    simp only [encL, Option.some.injEq] at h
    subst h
    simp [sumL]
  | p :: r, w, y, hL, hA, hw, hz, h => by
    simp only [encL] at h
    split at h
    · have hp := hL p (by simp)
      unfold inW at hp
      simp at hp
      obtain ⟨e1, e2⟩ := put_term hp (hz p (by simp)) (BitVec.ofInt 64 (ops p.1) >>> p.2.1)
      have e3 := or_add e2 hw (term_lt _ _ _ hp)
      rw [e1] at h
      simp only [apartL, Bool.and_eq_true, List.all_eq_true] at hA
      have hlt : (w ||| term p.2.2.2 p.2.2.1 (BitVec.ofInt 64 (ops p.1) >>> p.2.1)).toNat < 4294967296 := by
        rw [BitVec.toNat_or]
        exact Nat.or_lt_two_pow (n := 32) hw (term_lt _ _ _ hp)
      have := enc_sum (fun q hq => hL q (List.mem_cons_of_mem _ hq)) hA.2 hlt (fun q hq i hi1 hi2 => by
        have hq2 := hL q (List.mem_cons_of_mem _ hq)
        unfold inW at hq2
        simp at hq2
        rw [BitVec.getLsbD_or, hz q (List.mem_cons_of_mem _ hq) i hi1 hi2, term_bit _ _ _ _ (by omega)]
        have hd := hA.1 q hq
        simp only [Bool.or_eq_true, decide_eq_true_eq] at hd
        rcases hd with hd | hd
        · have : ¬ i < p.2.2.2 + p.2.2.1 := by omega
          simp [this]
        · have : ¬ p.2.2.2 ≤ i := by omega
          simp [this]) h
      rw [this, e3, term_toNat _ _ _ hp]
      simp only [sumL]
      omega
    · simp at h
theorem apart_ok {s : Nat} (hs : IsShape s) : apartL (partsL s) = true := each_shape (P := fun s => apartL (partsL s) = true) (by decide) hs
theorem wrd_zero (k : Nat) (h1 : 1 ≤ k) (h2 : k ≤ 69) : ∀ p ∈ partsL (shp k), ∀ i, p.2.2.2 ≤ i → i < p.2.2.2 + p.2.2.1 → (BitVec.ofNat 64 (wrd k)).getLsbD i = false := by
  intro p hp i hi1 hi2
  have ok := ok_shape (shape_of h1 h2)
  have hh := ok.here p hp (i - p.2.2.2) (by omega)
  have t := ok.inw p hp
  unfold inW at t
  simp at t
  have hf := ok.fix i (by omega)
  rw [show p.2.2.2 + (i - p.2.2.2) = i by omega] at hh
  rw [hh] at hf
  rw [ofNat_bit (wrd_lt k h2) i (by omega)]
  cases hb : (wrd k).testBit i with
  | false => rfl
  | true =>
    have := wrd_fix k h1 h2 i (by omega) hb
    rw [this] at hf
    simp at hf
theorem encK_sum {k : Nat} (h1 : 1 ≤ k) (h2 : k ≤ 69) {ops : Nat → Int} {y : BitVec 64} (h : encK k ops = some y) : y.toNat = wrd k + sumL ops (partsL (shp k)) := by
  have ok := ok_shape (shape_of h1 h2)
  have hw := wrd_lt k h2
  have e : (BitVec.ofNat 64 (wrd k)).toNat = wrd k := by rw [BitVec.toNat_ofNat, Nat.mod_eq_of_lt (by omega)]
  have := enc_sum ok.inw (apart_ok (shape_of h1 h2)) (by rw [e]; exact hw) (wrd_zero k h1 h2) h
  rwa [e] at this
theorem enc_all {s : Nat} {ops : Nat → Int} : ∀ {L : List Prt} {w : BitVec 64}, (encL s ops L w).isSome = L.all (fun p => fitB s p.1 (ops p.1))
  | [], w => rfl
  | p :: r, w => by
    simp only [encL, List.all_cons]
    cases h : fitB s p.1 (ops p.1) with
    | true => simp only [if_true, Bool.true_and]; exact enc_all
    | false => simp
end Go.Proofs.YtlommbeokbicjaaGreatDoor.InstMath

namespace Go.Proofs.YtlommbeokbicjaaGreatDoor.InstMath
open Go Words FieldMath

theorem enc_zero {k : Nat} (h1 : 1 ≤ k) (h2 : k ≤ 69) (f : Nat → Int) (hf : ∀ o, f o = 0) : encK k f = some (BitVec.ofNat 64 (wrd k)) := by
  obtain rfl : f = fun _ => 0 := funext hf
  have : ∀ k, k < 70 → 1 ≤ k → encK k (fun _ => 0) = some (BitVec.ofNat 64 (wrd k)) := by decide +kernel
  exact this k (by omega) h1

/-- Where operand o is in the words of a shape: in the five bits from bit a on, or nowhere. -/
def spot (s o a : Nat) : Bool := (List.range 32).all (fun i => match src (partsL s) i with
  | some (o', j) => if o' = o then decide (a ≤ i) && decide (i < a + 5) && decide (j = i - a) else !(decide (a ≤ i) && decide (i < a + 5))
  | none => !(decide (a ≤ i) && decide (i < a + 5)))
def nowhere (s o : Nat) : Bool := (List.range 32).all (fun i => match src (partsL s) i with
  | some (o', _) => !(o' == o)
  | none => true)
/-- Two instructions that differ in one operand at most. -/
theorem enc_other {k : Nat} (h1 : 1 ≤ k) (h2 : k ≤ 69) {f g : Nat → Int} {x y : BitVec 64} (hx : encK k f = some x) (hy : encK k g = some y) {o : Nat} (hfg : ∀ o', o' ≠ o → f o' = g o') (hn : nowhere (shp k) o = true) : x = y := by
  have ok := ok_shape (shape_of h1 h2)
  have bx := enc_bit ok.inw hx
  have by' := enc_bit ok.inw hy
  refine ext64 fun i hi => ?_
  rw [bx i hi, by' i hi]
  by_cases hi2 : i < 32
  · unfold nowhere at hn
    have := List.all_eq_true.1 hn i (List.mem_range.2 hi2)
    cases e : src (partsL (shp k)) i with
    | none => rfl
    | some q =>
      obtain ⟨o', j⟩ := q
      rw [e] at this
      simp only [Bool.not_eq_true', beq_eq_false_iff_ne] at this
      simp only
      rw [hfg o' this]
  · rw [src_out h1 h2 i (by omega)]
theorem xor_spot {k : Nat} (h1 : 1 ≤ k) (h2 : k ≤ 69) {f g : Nat → Int} {x y : BitVec 64} (hx : encK k f = some x) (hy : encK k g = some y) {o a : Nat} (hfg : ∀ o', o' ≠ o → f o' = g o') (hs : spot (shp k) o a = true) (ha : a + 5 ≤ 32) (ho : o ≠ 3) :
    0 ≤ f o ∧ f o < 32 ∧ 0 ≤ g o ∧ g o < 32 ∧ x.toNat ^^^ y.toNat = ((f o).toNat ^^^ (g o).toNat) * 2 ^ a := by
  have ok := ok_shape (shape_of h1 h2)
  have bx := enc_bit ok.inw hx
  have by' := enc_bit ok.inw hy
  have hsp := List.all_eq_true.1 hs
  -- the operand is there
  obtain ⟨p, hp, hpo⟩ : ∃ p ∈ partsL (shp k), p.1 = o := by
    have := hsp a (List.mem_range.2 (by omega))
    cases e : src (partsL (shp k)) a with
    | none => rw [e] at this; simp at this
    | some q =>
      obtain ⟨p, hp, _, _, rfl⟩ := src_mem e
      rw [e] at this
      simp only at this
      split at this
      · rename_i h; exact ⟨p, hp, h⟩
      · simp at this
  have r1 := enc_fits hx p hp
  have r2 := enc_fits hy p hp
  rw [hpo] at r1 r2
  unfold fitB at r1 r2
  rw [if_neg ho, show (5 : Int) = ((5 : Nat) : Int) from rfl, fits_u _ _ (by decide) (by decide), Bool.and_eq_true, decide_eq_true_eq, decide_eq_true_eq] at r1 r2
  obtain ⟨p1, p2⟩ := r1
  obtain ⟨p3, p4⟩ := r2
  refine ⟨p1, p2, p3, p4, ?_⟩
  have t1 := ofInt_small p1 (by omega)
  have t2 := ofInt_small p3 (by omega)
  refine Nat.eq_of_testBit_eq fun i => ?_
  rw [Nat.testBit_xor, Nat.testBit_mul_two_pow, Nat.testBit_xor]
  by_cases hi : i < 64
  · have e1 : x.toNat.testBit i = x.getLsbD i := rfl
    have e2 : y.toNat.testBit i = y.getLsbD i := rfl
    rw [e1, e2, bx i hi, by' i hi]
    by_cases hi2 : i < 32
    · have := hsp i (List.mem_range.2 hi2)
      cases e : src (partsL (shp k)) i with
      | none =>
        rw [e] at this
        simp only [Bool.not_eq_true', Bool.and_eq_false_iff, decide_eq_false_iff_not] at this
        simp only [Bool.xor_self]
        by_cases h3 : a ≤ i
        · have h4 : ¬ i < a + 5 := by omega
          have z1 : (f o).toNat.testBit (i - a) = false := Nat.testBit_lt_two_pow (Nat.lt_of_lt_of_le (show (f o).toNat < 2 ^ 5 by omega) (Nat.pow_le_pow_right (by decide) (by omega)))
          have z2 : (g o).toNat.testBit (i - a) = false := Nat.testBit_lt_two_pow (Nat.lt_of_lt_of_le (show (g o).toNat < 2 ^ 5 by omega) (Nat.pow_le_pow_right (by decide) (by omega)))
          rw [z1, z2]; simp
        · simp [h3]
      | some q =>
        obtain ⟨o', j⟩ := q
        rw [e] at this
        simp only at this ⊢
        by_cases ho' : o' = o
        · rw [if_pos ho'] at this
          simp only [Bool.and_eq_true, decide_eq_true_eq] at this
          obtain ⟨⟨h3, h4⟩, h5⟩ := this
          rw [ho', h5]
          have e3 : (BitVec.ofInt 64 (f o)).getLsbD (i - a) = (f o).toNat.testBit (i - a) := by rw [← t1]; rfl
          have e4 : (BitVec.ofInt 64 (g o)).getLsbD (i - a) = (g o).toNat.testBit (i - a) := by rw [← t2]; rfl
          rw [e3, e4]
          simp [h3]
        · rw [if_neg ho'] at this
          simp only [Bool.not_eq_true', Bool.and_eq_false_iff, decide_eq_false_iff_not] at this
          rw [hfg o' ho', Bool.xor_self]
          by_cases h3 : a ≤ i
          · have h4 : ¬ i < a + 5 := by omega
            have z1 : (f o).toNat.testBit (i - a) = false := Nat.testBit_lt_two_pow (Nat.lt_of_lt_of_le (show (f o).toNat < 2 ^ 5 by omega) (Nat.pow_le_pow_right (by decide) (by omega)))
            have z2 : (g o).toNat.testBit (i - a) = false := Nat.testBit_lt_two_pow (Nat.lt_of_lt_of_le (show (g o).toNat < 2 ^ 5 by omega) (Nat.pow_le_pow_right (by decide) (by omega)))
            rw [z1, z2]; simp
          · simp [h3]
    · rw [src_out h1 h2 i (by omega)]
      simp only [Bool.xor_self]
      have z1 : (f o).toNat.testBit (i - a) = false := Nat.testBit_lt_two_pow (Nat.lt_of_lt_of_le (show (f o).toNat < 2 ^ 5 by omega) (Nat.pow_le_pow_right (by decide) (by omega)))
      have z2 : (g o).toNat.testBit (i - a) = false := Nat.testBit_lt_two_pow (Nat.lt_of_lt_of_le (show (g o).toNat < 2 ^ 5 by omega) (Nat.pow_le_pow_right (by decide) (by omega)))
      rw [z1, z2]; simp
  · have e1 : x.toNat.testBit i = false := BitVec.getLsbD_of_ge x i (by omega)
    have e2 : y.toNat.testBit i = false := BitVec.getLsbD_of_ge y i (by omega)
    have z1 : (f o).toNat.testBit (i - a) = false := Nat.testBit_lt_two_pow (Nat.lt_of_lt_of_le (show (f o).toNat < 2 ^ 5 by omega) (Nat.pow_le_pow_right (by decide) (by omega)))
    have z2 : (g o).toNat.testBit (i - a) = false := Nat.testBit_lt_two_pow (Nat.lt_of_lt_of_le (show (g o).toNat < 2 ^ 5 by omega) (Nat.pow_le_pow_right (by decide) (by omega)))
    rw [e1, e2, z1, z2]; simp
def spots : Bool := [82, 71, 73, 67, 72].all (fun s => spot s 0 7 && spot s 1 15) && [83, 66].all (fun s => nowhere s 0 && spot s 1 15) && [85, 74].all (fun s => spot s 0 7 && nowhere s 1) && nowhere 78 0 && nowhere 78 1
theorem spots_ok : spots = true := by decide +kernel
end Go.Proofs.YtlommbeokbicjaaGreatDoor.InstMath
