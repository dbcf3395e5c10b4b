/-
  Plain mathematics of the instructions: the table (shapes, fixed words), of which parts the words of a shape consist, and what Encode and Decode are, as functions on words. No Go text here.
-/
import Derived.Test.YtlommbeokbicjaaGreatDoorFieldMath
namespace Go.Proofs.YtlommbeokbicjaaGreatDoor.InstMath
open Go Words FieldMath

/-- A part: operand, its lowest bit, how many bits, where in the word. -/
abbrev Prt := Nat × Nat × Nat × Nat
def shpL : List Nat := [45, 85, 85, 74, 73, 66, 66, 66, 66, 66, 66, 73, 73, 73, 73, 73, 73, 73, 83, 83, 83, 83, 73, 73, 73, 73, 73, 73, 72, 72, 72, 82, 82, 82, 82, 82, 82, 82, 82, 82, 82, 78, 78, 73, 83, 82, 82, 82, 82, 82, 82, 82, 82, 82, 82, 82, 71, 71, 71, 71, 71, 71, 71, 71, 71, 71, 71, 71, 73, 67]
def wrdL : List Nat := [0, 55, 23, 111, 103, 99, 4195, 16483, 20579, 24675, 28771, 3, 4099, 8195, 12291, 16387, 20483, 24579, 35, 4131, 8227, 12323, 19, 8211, 12307, 16403, 24595, 28691, 4115, 20499, 1073762323, 51, 1073741875, 4147, 8243, 12339, 16435, 20531, 1073762355, 24627, 28723, 115, 1048691, 8207, 16419, 268435547, 301989979, 369098843, 402653275, 436207707, 536871003, 570425435, 671088731, 973078619, 1073741915, 1107296347, 4261412955, 4262461531, 4263510107, 4264558683, 4265607259, 4267704411, 4269801563, 4270850139, 4271898715, 4272947291, 4277141595, 4279238747, 4187, 8283]
def shp (k : Nat) : Nat := shpL.getD k 0
def wrd (k : Nat) : Nat := wrdL.getD k 0
def partsL (s : Nat) : List Prt := if s = 82 then [(0, 0, 5, 7), (1, 0, 5, 15), (2, 0, 5, 20)] else if s = 71 then [(0, 0, 5, 7), (1, 0, 5, 15)] else if s = 73 then [(0, 0, 5, 7), (1, 0, 5, 15), (3, 0, 12, 20)] else if s = 67 then [(0, 0, 5, 7), (1, 0, 5, 15), (3, 0, 12, 20)] else if s = 72 then [(0, 0, 5, 7), (1, 0, 5, 15), (3, 0, 6, 20)] else if s = 83 then [(1, 0, 5, 15), (2, 0, 5, 20), (3, 0, 5, 7), (3, 5, 7, 25)] else if s = 66 then [(1, 0, 5, 15), (2, 0, 5, 20), (3, 1, 4, 8), (3, 5, 6, 25), (3, 11, 1, 7), (3, 12, 1, 31)] else if s = 85 then [(0, 0, 5, 7), (3, 12, 20, 12)] else if s = 74 then [(0, 0, 5, 7), (3, 12, 8, 12), (3, 11, 1, 20), (3, 1, 10, 21), (3, 20, 1, 31)] else []
def fixN (s : Nat) : Nat := if s = 82 then 4261441663 else if s = 71 then 4293947519 else if s = 72 then 4227887231 else if s = 73 then 28799 else if s = 67 then 28799 else if s = 83 then 28799 else if s = 66 then 28799 else if s = 85 then 127 else if s = 74 then 127 else 4294967295
def nW (s : Nat) : Nat := if s = 67 then 12 else if s = 72 then 6 else if s = 66 then 13 else if s = 85 then 32 else if s = 74 then 21 else 12
def nS (s : Nat) : Bool := if s = 67 then false else if s = 72 then false else if s = 66 then true else if s = 85 then true else if s = 74 then true else true
def nK (s : Nat) : Nat := if s = 67 then 1 else if s = 72 then 1 else if s = 66 then 2 else if s = 85 then 4096 else if s = 74 then 2 else 1
def IsShape (s : Nat) : Prop := s ∈ [82, 71, 73, 67, 72, 83, 66, 85, 74, 78]
theorem shape_of {k : Nat} (h : 1 ≤ k) (h2 : k ≤ 69) : IsShape (shp k) := by
  have : ∀ k, k < 70 → 1 ≤ k → IsShape (shp k) := by unfold IsShape; decide +kernel
  exact this k (by omega) h
theorem each_shape {P : Nat → Prop} (h : P 82 ∧ P 71 ∧ P 73 ∧ P 67 ∧ P 72 ∧ P 83 ∧ P 66 ∧ P 85 ∧ P 74 ∧ P 78) {s : Nat} (hs : IsShape s) : P s := by
  obtain ⟨h1, h2, h3, h4, h5, h6, h7, h8, h9, h10⟩ := h
  simp only [IsShape, List.mem_cons, List.not_mem_nil, or_false] at hs
  rcases hs with rfl | rfl | rfl | rfl | rfl | rfl | rfl | rfl | rfl | rfl <;> assumption

/-- May v be that operand of the shape? -/
def fitB (s o : Nat) (v : Int) : Bool := if o = 3 then fitsB v (nW s) (nS s) && (v.tmod (nK s) == 0) else fitsB v 5 false
def encL (s : Nat) (ops : Nat → Int) : List Prt → BitVec 64 → Option (BitVec 64)
  | [], w => some w
  | p :: r, w => if fitB s p.1 (ops p.1) then encL s ops r (putB w p.2.2.2 p.2.2.1 (BitVec.ofInt 64 (ops p.1) >>> p.2.1)) else none
def readL (x : BitVec 64) : List Prt → (Nat → BitVec 64) → (Nat → BitVec 64)
  | [], f => f
  | p :: r, f => readL x r (fun o => if o = p.1 then f o ||| (getB x p.2.2.2 p.2.2.1 <<< p.2.1) else f o)
/-- From where bit i of a word is: operand, and which of its bits. -/
def src : List Prt → Nat → Option (Nat × Nat)
  | [], _ => none
  | p :: r, i => match src r i with
    | some q => some q
    | none => if p.2.2.2 ≤ i ∧ i < p.2.2.2 + p.2.2.1 then some (p.1, p.2.1 + (i - p.2.2.2)) else none

def inW (p : Prt) : Bool := decide (p.2.2.2 + p.2.2.1 ≤ 32)
theorem ok_part {p : Prt} (h : inW p = true) : okF (p.2.2.2 : Int) (p.2.2.1 : Int) = true := by
  unfold inW at h; unfold okF; simp at h ⊢; omega
theorem enc_bit {s : Nat} {ops : Nat → Int} : ∀ {L : List Prt} {w y : BitVec 64}, (∀ p ∈ L, inW p = true) → encL s ops L w = some y → ∀ i, i < 64 →
    y.getLsbD i = match src L i with
      | some q => (BitVec.ofInt 64 (ops q.1)).getLsbD q.2
      | none => w.getLsbD i
  | [], w, y, _, h, i, _ => by
    simp only [encL, Option.some.injEq] at h
    subst h; rfl
  | p :: r, w, y, hL, h, i, hi => by
    simp only [encL] at h
    split at h
    · have ih := enc_bit (fun q hq => hL q (List.mem_cons_of_mem _ hq)) h i hi
      rw [ih]
      cases e : src r i with
      | some q => simp [src, e]
      | none =>
        simp only [src, e]
        have hp := hL p (by simp)
        rw [put_bit _ _ _ _ _ hi, ok_part hp]
        unfold inW at hp
        simp at hp
        by_cases c : p.2.2.2 ≤ i ∧ i < p.2.2.2 + p.2.2.1
        · have c2 : (true = true ∧ (p.2.2.2 : Int) ≤ i ∧ (i : Int) < (p.2.2.2 : Int) + (p.2.2.1 : Int)) := ⟨rfl, by omega, by omega⟩
          rw [if_pos c2, if_pos c, BitVec.getLsbD_ushiftRight]
          rfl
        · have c2 : ¬ (true = true ∧ (p.2.2.2 : Int) ≤ i ∧ (i : Int) < (p.2.2.2 : Int) + (p.2.2.1 : Int)) := by
            rintro ⟨_, c3, c4⟩; exact c ⟨by omega, by omega⟩
          rw [if_neg c2, if_neg c]
    · simp at h
theorem enc_some {s : Nat} {ops : Nat → Int} : ∀ {L : List Prt} {w : BitVec 64}, (∀ p ∈ L, fitB s p.1 (ops p.1) = true) → ∃ y, encL s ops L w = some y
  | [], w, _ => ⟨w, rfl⟩
  | p :: r, w, h => by
    simp only [encL, h p (by simp), if_true]
    exact enc_some (fun q hq => h q (List.mem_cons_of_mem _ hq))
theorem enc_fits {s : Nat} {ops : Nat → Int} : ∀ {L : List Prt} {w y : BitVec 64}, encL s ops L w = some y → ∀ p ∈ L, fitB s p.1 (ops p.1) = true
  | [], _, _, _, p, hp => by simp at hp
  | q :: r, w, y, h, p, hp => by
    simp only [encL] at h
    split at h
    · rename_i hf
      rcases List.mem_cons.1 hp with rfl | hp
      · exact hf
      · exact enc_fits h p hp
    · simp at h
/-- Does part p have bit j of its operand? -/
def hasJ (p : Prt) (o j : Nat) : Bool := p.1 == o && decide (p.2.1 ≤ j) && decide (j < p.2.1 + p.2.2.1)
theorem read_bit {x : BitVec 64} : ∀ {L : List Prt} {f : Nat → BitVec 64}, (∀ p ∈ L, inW p = true ∧ p.2.1 + p.2.2.1 ≤ 32) → ∀ o j, j < 64 →
    (readL x L f o).getLsbD j = ((f o).getLsbD j || L.any (fun p => hasJ p o j && x.getLsbD (p.2.2.2 + (j - p.2.1))))
  | [], f, _, o, j, _ => by simp [readL]
  | p :: r, f, hL, o, j, hj => by
    obtain ⟨hp, hp2⟩ := hL p (by simp)
    rw [readL, read_bit (fun q hq => hL q (List.mem_cons_of_mem _ hq)) o j hj, List.any_cons]
    by_cases ho : o = p.1
    · have h1 : hasJ p o j = (decide (p.2.1 ≤ j) && decide (j < p.2.1 + p.2.2.1)) := by unfold hasJ; rw [ho]; simp
      rw [if_pos ho, BitVec.getLsbD_or, BitVec.getLsbD_shiftLeft, h1]
      by_cases h2 : p.2.1 ≤ j
      · have e1 : ¬ j < p.2.1 := by omega
        have e2 : j - p.2.1 < 64 := by omega
        rw [get_bit _ _ _ _ e2, ok_part hp]
        have e3 : (((j - p.2.1 : Nat) : Int) < (p.2.2.1 : Int)) ↔ j < p.2.1 + p.2.2.1 := by omega
        simp only [hj, h2, e1, e3, decide_true, decide_false, Bool.not_false, Bool.true_and, Bool.or_assoc, Int.toNat_natCast]
      · have e1 : j < p.2.1 := by omega
        simp only [h2, e1, decide_true, decide_false, Bool.not_true, Bool.false_and, Bool.and_false, Bool.or_false, Bool.false_or]
    · have hpo : (p.1 == o) = false := by (simp; exact fun e => ho e.symm)
      have h1 : hasJ p o j = false := by unfold hasJ; rw [hpo]; rfl
      rw [if_neg ho, h1]
      simp only [Bool.false_and, Bool.false_or]

/-! what is so of each shape -/
def covers (s o j : Nat) : Bool := (partsL s).any (fun p => hasJ p o j)
def has (s o : Nat) : Bool := (partsL s).any (fun p => p.1 == o)
def okParts (s : Nat) : Bool :=
  (partsL s).all (fun p => inW p && decide (p.2.1 + p.2.2.1 ≤ 32) && decide (p.1 < 4)
    && (List.range p.2.2.1).all (fun d => src (partsL s) (p.2.2.2 + d) == some (p.1, p.2.1 + d))
    && (if p.1 == 3 then decide (p.2.1 + p.2.2.1 ≤ nW s) else decide (p.2.1 = 0) && decide (p.2.2.1 = 5))
    && (partsL s).all (fun q => (List.range 32).all (fun j => !(hasJ p p.1 j && hasJ q p.1 j) || p.2.2.2 + (j - p.2.1) == q.2.2.2 + (j - q.2.1))))
def okFix (s : Nat) : Bool := (List.range 32).all (fun i => (src (partsL s) i).isNone == (fixN s).testBit i) && decide (fixN s < 4294967296) && decide (1 ≤ nW s ∧ nW s ≤ 32)
def okImm (s : Nat) : Bool := !(has s 3) || (List.range (nW s)).all (fun j => covers s 3 j || nK s % 2 ^ (j + 1) == 0)
structure Ok (s : Nat) : Prop where
  inw : ∀ p ∈ partsL s, inW p = true
  top : ∀ p ∈ partsL s, p.2.1 + p.2.2.1 ≤ 32
  four : ∀ p ∈ partsL s, p.1 < 4
  here : ∀ p ∈ partsL s, ∀ d, d < p.2.2.1 → src (partsL s) (p.2.2.2 + d) = some (p.1, p.2.1 + d)
  imm : ∀ p ∈ partsL s, p.1 = 3 → p.2.1 + p.2.2.1 ≤ nW s
  reg : ∀ p ∈ partsL s, p.1 ≠ 3 → p.2.1 = 0 ∧ p.2.2.1 = 5
  one : ∀ p ∈ partsL s, ∀ q ∈ partsL s, ∀ j, j < 32 → hasJ p p.1 j = true → hasJ q p.1 j = true → p.2.2.2 + (j - p.2.1) = q.2.2.2 + (j - q.2.1)
  fix : ∀ i, i < 32 → (src (partsL s) i).isNone = (fixN s).testBit i
  fixl : fixN s < 4294967296
  nw : 1 ≤ nW s ∧ nW s ≤ 32
  step : has s 3 = true → ∀ j, j < nW s → covers s 3 j = true ∨ nK s % 2 ^ (j + 1) = 0
theorem ok_shape {s : Nat} (hs : IsShape s) : Ok s := by
  have h1 : okParts s = true := each_shape (P := fun s => okParts s = true) (by decide +kernel) hs
  have h2 : okFix s = true := each_shape (P := fun s => okFix s = true) (by decide +kernel) hs
  have h3 : okImm s = true := each_shape (P := fun s => okImm s = true) (by decide +kernel) hs
  simp only [okParts, List.all_eq_true, Bool.and_eq_true, decide_eq_true_eq, List.mem_range, beq_iff_eq] at h1
  simp only [okFix, List.all_eq_true, Bool.and_eq_true, decide_eq_true_eq, List.mem_range, beq_iff_eq] at h2
  refine ⟨fun p hp => (h1 p hp).1.1.1.1.1, fun p hp => (h1 p hp).1.1.1.1.2, fun p hp => (h1 p hp).1.1.1.2, fun p hp => (h1 p hp).1.1.2, fun p hp h => ?_, fun p hp h => ?_, fun p hp q hq j hj a b => ?_, h2.1.1, h2.1.2, h2.2, fun h j hj => ?_⟩
  · have := (h1 p hp).1.2
    rw [if_pos h] at this
    simpa using this
  · have := (h1 p hp).1.2
    rw [if_neg h] at this
    simpa using this
  · have := (h1 p hp).2 q hq j hj
    rw [a, b] at this
    simpa using this
  · unfold okImm at h3
    rw [h] at h3
    simp only [Bool.not_true, Bool.false_or, List.all_eq_true, List.mem_range, Bool.or_eq_true, beq_iff_eq] at h3
    exact h3 j hj
