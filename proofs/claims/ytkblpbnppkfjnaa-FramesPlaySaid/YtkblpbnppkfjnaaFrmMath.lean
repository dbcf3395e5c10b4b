/-
  Pools as words: number n is bit n; what is had, what is taken, the numbers in a list, the lowest one. No Go text here.
-/
import Derived.Test.YtkblpbnppkfjnaaScaleMath
namespace Go.Proofs.Ytkblpbnppkfjnaa.FrmMath
open Go Words ScaleMath

/-- The one that number n is in a word; 0 from 64 on. -/
def oneW (n : Int) : BitVec 64 := 1#64 <<< n.toNat
theorem one_bit (n : Int) (i : Nat) : (oneW n).getLsbD i = (decide (i < 64) && decide (i = n.toNat)) := by
  unfold oneW
  rw [BitVec.getLsbD_shiftLeft, BitVec.getLsbD_one]
  by_cases h : i < 64
  · by_cases e : i = n.toNat
    · subst e; simp [h]
    · by_cases l : i < n.toNat
      · simp [h, l, e]
      · have : ¬ (i - n.toNat = 0) := by omega
        simp [h, l, e, this]
  · simp [h]
theorem one_min (n : Int) : 1#64 <<< (min n.toNat 64) = oneW n := by
  refine ext64 fun i hi => ?_
  rw [one_bit, BitVec.getLsbD_shiftLeft, BitVec.getLsbD_one]
  by_cases e : i = n.toNat
  · have h1 : min n.toNat 64 = i := by omega
    rw [h1]; simp [e]
  · by_cases l : i < min n.toNat 64
    · simp [hi, l, e]
    · have : ¬ (i - min n.toNat 64 = 0) := by omega
      simp [l, e, this]
theorem one_walk (n : Int) : IntKind.u64.wrap (2 ^ (min n.toNat 64)) = ((oneW n).toNat : Int) := by
  have := shl_bv 1#64 (min n.toNat 64)
  rw [one_min] at this
  simpa using this
theorem one_walk' (n : Int) : IntKind.u64.wrap (1 * 2 ^ (min n.toNat 64)) = ((oneW n).toNat : Int) := by rw [Int.one_mul]; exact one_walk n
theorem and_none (A : BitVec 64) (n : Int) (h : A.getLsbD n.toNat = false) : A &&& oneW n = 0#64 := by
  refine ext64 fun i hi => ?_
  rw [BitVec.getLsbD_and, one_bit]
  by_cases e : i = n.toNat
  · rw [e, h]; simp
  · simp [e]
theorem and_some (A : BitVec 64) (n : Int) (h : A.getLsbD n.toNat = true) : ¬ ((A &&& oneW n).toNat : Int) = 0 := by
  intro e
  have e2 : A &&& oneW n = 0#64 := BitVec.eq_of_toNat_eq (by simpa using e)
  have hlt : n.toNat < 64 := by
    rcases Nat.lt_or_ge n.toNat 64 with h2 | h2
    · exact h2
    · rw [BitVec.getLsbD_of_ge A _ h2] at h; cases h
  have h3 := congrArg (fun x => x.getLsbD n.toNat) e2
  simp only [BitVec.getLsbD_and, one_bit, h] at h3
  simp [hlt] at h3

/-- The numbers below n. -/
def allW (n : Int) : BitVec 64 := oneW n - 1#64
theorem all_walk (n : Int) : IntKind.u64.wrap (((oneW n).toNat : Int) - 1) = ((allW n).toNat : Int) := by
  rw [wrap_u64_bv]
  congr 2
  unfold allW
  rw [show ((oneW n).toNat : Int) - 1 = ((oneW n).toNat : Int) + (-1) by omega, BitVec.ofInt_add, ofInt_toNat]
  generalize oneW n = x
  have : (BitVec.ofInt 64 (-1)) = - 1#64 := by decide
  rw [this, BitVec.sub_eq_add_neg]
theorem all_bit (n : Int) (h1 : 1 ≤ n) (h2 : n ≤ 64) (i : Nat) : (allW n).getLsbD i = decide (i < n.toNat) := by
  obtain ⟨k, rfl⟩ : ∃ k : Nat, n = (k : Int) := ⟨n.toNat, by omega⟩
  have hk : k ≤ 64 := by omega
  have e : (allW (k : Int)).toNat = 2 ^ k - 1 := by
    unfold allW oneW
    rw [BitVec.toNat_sub, BitVec.toNat_shiftLeft, Int.toNat_natCast, Nat.shiftLeft_eq]
    have hp := Nat.two_pow_pos k
    rcases Nat.lt_or_ge k 64 with hl | hl
    · have : 2 ^ k < 2 ^ 64 := Nat.pow_lt_pow_right (by decide) hl
      simp only [BitVec.toNat_ofNat]
      omega
    · have : k = 64 := by omega
      subst this
      decide
  show (allW (k : Int)).toNat.testBit i = _
  rw [e, Int.toNat_natCast, Nat.testBit_two_pow_sub_one]
theorem all_ne (n : Int) (h1 : 1 ≤ n) (h2 : n ≤ 64) : allW n ≠ 0#64 := fun e => by
  have := all_bit n h1 h2 0
  rw [e] at this
  simp at this
  omega

/-- Whether a pool has number n; whether it is taken. -/
def hasB (A : BitVec 64) (n : Int) : Bool := decide (0 ≤ n) && A.getLsbD n.toNat
def takenB (A T : BitVec 64) (n : Int) : Bool := hasB A n && T.getLsbD n.toNat
theorem has_all (n : Int) (h1 : 1 ≤ n) (h2 : n ≤ 64) (x : Int) : hasB (allW n) x = (decide (0 ≤ x) && decide (x < n)) := by
  unfold hasB
  rw [all_bit n h1 h2]
  by_cases h : 0 ≤ x
  · have : (x.toNat < n.toNat) = (x < n) := by simp; omega
    simp only [this]
  · simp [h]

/-- The indices of the bits for which S tells true, in order. -/
theorem filter_ones (A B : BitVec 64) (S : Int → Bool) (h : ∀ i : Nat, i < 64 → B.getLsbD i = (A.getLsbD i && S (i : Int))) : (onesL A).filter S = onesL B := by
  unfold onesL onesTo
  rw [List.filter_map, List.filter_filter]
  congr 1
  refine List.filter_congr fun i hi => ?_
  rw [h i (List.mem_range.1 hi)]
  simp [Bool.and_comm]
theorem taken_list (A T : BitVec 64) (hs : T &&& A = T) : (onesL A).filter (takenB A T) = onesL T := by
  refine filter_ones A T _ fun i hi => ?_
  have h : T.getLsbD i = (T.getLsbD i && A.getLsbD i) := by rw [← BitVec.getLsbD_and, hs]
  have h0 : decide ((0 : Int) ≤ (i : Int)) = true := decide_eq_true (by omega)
  unfold takenB hasB
  rw [Int.toNat_natCast, h0]
  revert h
  generalize A.getLsbD i = a
  generalize T.getLsbD i = t
  revert a t
  decide
/-- What is free. -/
def freeW (A T : BitVec 64) : BitVec 64 := A &&& ~~~T
theorem free_bit (A T : BitVec 64) (i : Nat) (hi : i < 64) : (freeW A T).getLsbD i = (A.getLsbD i && !T.getLsbD i) := by
  unfold freeW
  rw [BitVec.getLsbD_and, BitVec.getLsbD_not]
  simp [hi]
theorem free_list (A T : BitVec 64) : (onesL A).filter (fun y => !takenB A T y) = onesL (freeW A T) := by
  refine filter_ones A (freeW A T) _ fun i hi => ?_
  have h0 : decide ((0 : Int) ≤ (i : Int)) = true := decide_eq_true (by omega)
  rw [free_bit A T i hi]
  unfold takenB hasB
  rw [Int.toNat_natCast, h0]
  generalize A.getLsbD i = a at *
  generalize T.getLsbD i = t at *
  revert a t
  decide
theorem filter_snoc (S : Int → Bool) (l : List Int) (y : Int) : (l ++ [y]).filter S = l.filter S ++ (if S y = true then [y] else []) := by
  rw [List.filter_append]
  cases h : S y <;> simp [h]
/-- The lowest bit that is 1, first in the list. -/
theorem ones_low (x : BitVec 64) (k : Nat) (hk : k < 64) (h : x.getLsbD k = true) (hl : ∀ j, j < k → x.getLsbD j = false) : ∃ l, onesL x = (k : Int) :: l := by
  have h0 : onesTo x k = [] := by
    unfold onesTo
    rw [List.map_eq_nil_iff, List.filter_eq_nil_iff]
    intro i hi
    rw [hl i (List.mem_range.1 hi)]
    simp
  obtain ⟨l, hl⟩ := onesTo_prefix x (k + 1) 64 (by omega)
  rw [onesTo_hit x k h, h0] at hl
  exact ⟨l, hl.symm⟩
theorem low_ex (x : BitVec 64) (h : x ≠ 0#64) : ∃ k : Nat, k < 64 ∧ x.getLsbD k = true ∧ ∀ j, j < k → x.getLsbD j = false := by
  have hne : ∃ k : Nat, k < 64 ∧ x.getLsbD k = true := Classical.byContradiction fun hn => h (ext64 fun i hi => by
    cases e : x.getLsbD i with
    | true => exact absurd ⟨i, hi, e⟩ hn
    | false => simp)
  have key : ∀ n : Nat, (∃ k, k < n ∧ x.getLsbD k = true) → ∃ k : Nat, k < n ∧ x.getLsbD k = true ∧ ∀ j, j < k → x.getLsbD j = false := by
    intro n
    induction n with
    | zero => rintro ⟨k, hk, _⟩; omega
    | succ n ih =>
      rintro ⟨k, hk, hb⟩
      by_cases h2 : ∃ k, k < n ∧ x.getLsbD k = true
      · obtain ⟨m, hm, h3, h4⟩ := ih h2
        exact ⟨m, by omega, h3, h4⟩
      · refine ⟨n, by omega, ?_, fun j hj => ?_⟩
        · have : k = n := Classical.byContradiction fun e => h2 ⟨k, by omega, hb⟩
          rw [← this]; exact hb
        · cases e : x.getLsbD j with
          | true => exact absurd ⟨j, hj, e⟩ h2
          | false => rfl
  exact key 64 hne
/-- Where not all are taken, one is free, and the ones below it are not. -/
theorem room_low (A T : BitVec 64) (hs : T &&& A = T) (hne : T ≠ A) : ∃ k : Nat, k < 64 ∧ A.getLsbD k = true ∧ T.getLsbD k = false ∧ (∀ j, j < k → A.getLsbD j = true → T.getLsbD j = true) ∧ ∃ l, onesL (freeW A T) = (k : Int) :: l := by
  have h0 : freeW A T ≠ 0#64 := fun e => hne (ext64 fun i hi => by
    have h1 := free_bit A T i hi
    rw [e] at h1
    have h2 : T.getLsbD i = (T.getLsbD i && A.getLsbD i) := by rw [← BitVec.getLsbD_and, hs]
    have h3 : false = (A.getLsbD i && !T.getLsbD i) := by simpa using h1
    revert h2 h3
    generalize A.getLsbD i = a
    generalize T.getLsbD i = t
    revert a t
    decide)
  obtain ⟨k, hk, h1, h2⟩ := low_ex _ h0
  rw [free_bit A T k hk] at h1
  refine ⟨k, hk, ?_, ?_, fun j hj ha => ?_, ones_low _ k hk (by rw [free_bit A T k hk]; exact h1) h2⟩
  · cases ha : A.getLsbD k <;> simp_all
  · cases ht : T.getLsbD k <;> simp_all
  · have h3 := h2 j hj
    rw [free_bit A T j (by omega), ha] at h3
    simpa using h3

/-- Number n taken, or not. -/
def setW (T : BitVec 64) (n : Int) : BitVec 64 := T ||| oneW n
def clrW (T : BitVec 64) (n : Int) : BitVec 64 := T &&& ~~~(oneW n)
theorem set_bit (T : BitVec 64) (n : Int) (i : Nat) (hi : i < 64) : (setW T n).getLsbD i = (T.getLsbD i || decide (i = n.toNat)) := by
  unfold setW
  rw [BitVec.getLsbD_or, one_bit]
  simp [hi]
theorem clr_bit (T : BitVec 64) (n : Int) (i : Nat) (hi : i < 64) : (clrW T n).getLsbD i = (T.getLsbD i && !decide (i = n.toNat)) := by
  unfold clrW
  rw [BitVec.getLsbD_and, BitVec.getLsbD_not, one_bit]
  simp [hi]
theorem sub_iff (A T : BitVec 64) : T &&& A = T ↔ ∀ i : Nat, i < 64 → T.getLsbD i = true → A.getLsbD i = true := by
  constructor
  · intro h i _ ht
    have h2 : T.getLsbD i = (T.getLsbD i && A.getLsbD i) := by rw [← BitVec.getLsbD_and, h]
    rw [ht] at h2
    simpa using h2.symm
  · intro h
    refine ext64 fun i hi => ?_
    rw [BitVec.getLsbD_and]
    cases ht : T.getLsbD i with
    | true => rw [h i hi ht]; rfl
    | false => rfl
theorem sub_set (A T : BitVec 64) (hs : T &&& A = T) (n : Nat) (ha : A.getLsbD n = true) : setW T (n : Int) &&& A = setW T (n : Int) := by
  rw [sub_iff] at hs ⊢
  intro i hi h
  rw [set_bit _ _ _ hi] at h
  by_cases e : i = n
  · rw [e]; exact ha
  · exact hs i hi (by simpa [e] using h)
theorem sub_clr (A T : BitVec 64) (hs : T &&& A = T) (n : Int) : clrW T n &&& A = clrW T n := by
  rw [sub_iff] at hs ⊢
  intro i hi h
  rw [clr_bit _ _ _ hi] at h
  exact hs i hi (by cases ht : T.getLsbD i <;> simp_all)
/-- How many are free, and how many are taken. -/
theorem count_free (A T : BitVec 64) (hs : T &&& A = T) : (onesL (freeW A T)).length + (onesL T).length = (onesL A).length := by
  rw [← free_list A T, ← taken_list A T hs]
  generalize onesL A = l
  induction l with
  | nil => rfl
  | cons y l ih =>
    simp only [List.filter_cons, List.length_cons]
    cases takenB A T y <;> simp <;> omega
theorem count_all (n : Int) (h1 : 1 ≤ n) (h2 : n ≤ 64) : ((onesL (allW n)).length : Int) = n := by
  have : onesL (allW n) = (List.range n.toNat).map (fun i : Nat => (i : Int)) := by
    unfold onesL onesTo
    congr 1
    have e : ∀ m k : Nat, k ≤ m → (List.range m).filter (fun i => decide (i < k)) = List.range k := by
      intro m
      induction m with
      | zero => intro k hk; obtain rfl : k = 0 := by omega
                rfl
      | succ m ih =>
        intro k hk
        rw [List.range_succ, List.filter_append]
        by_cases h : k ≤ m
        · rw [ih k h]
          have : ¬ m < k := by omega
          simp [this]
        · obtain rfl : k = m + 1 := by omega
          have : (List.range m).filter (fun i => decide (i < m + 1)) = List.range m := List.filter_eq_self.2 fun i hi => by
            have := List.mem_range.1 hi
            simp; omega
          rw [this, List.range_succ]
          simp
    rw [← e 64 n.toNat (by omega)]
    exact List.filter_congr fun i _ => all_bit n h1 h2 i
  rw [this]
  simp
  omega
end Go.Proofs.Ytkblpbnppkfjnaa.FrmMath
