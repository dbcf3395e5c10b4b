/-
  What the statement FramesLowest reckons with: pools that fill from below, what was given back as a word. No Go text here.
-/
import Derived.Test.YtkblpbnppkfjnaaFrmMath
namespace Go.Proofs.Ytkblpbnppkfjnaa.FrmMath
open Go Words ScaleMath

theorem bool_ext {x y : BitVec 64} (h : ∀ i : Nat, i < 64 → x.getLsbD i = y.getLsbD i) : x = y := ext64 h
theorem all_bitN (k : Nat) (hk : k ≤ 64) (i : Nat) : (allW (k : Int)).getLsbD i = decide (i < k) := by
  by_cases h : k = 0
  · subst h
    have : allW ((0 : Nat) : Int) = 0#64 := by decide
    rw [this]; simp
  · rw [all_bit (k : Int) (by omega) (by omega) i, Int.toNat_natCast]
theorem all_step (n k : Nat) (hn : n ≤ 64) (hk : k < n) : (∃ l, onesL (freeW (allW (n : Int)) (allW (k : Int))) = (k : Int) :: l) ∧ setW (allW (k : Int)) (k : Int) = allW ((k + 1 : Nat) : Int) ∧ allW (k : Int) ≠ allW (n : Int) := by
  refine ⟨ones_low _ k (by omega) ?_ (fun j hj => ?_), ext64 fun i hi => ?_, fun e => ?_⟩
  · rw [free_bit _ _ k (by omega), all_bitN n hn, all_bitN k (by omega)]; simp [hk]
  · rw [free_bit _ _ j (by omega), all_bitN n hn, all_bitN k (by omega)]; simp [hj]
  · rw [set_bit _ _ _ hi, all_bitN k (by omega), all_bitN (k + 1) (by omega), Int.toNat_natCast]
    by_cases h1 : i < k
    · simp [h1]; omega
    · by_cases h2 : i = k
      · simp [h2]
      · have : ¬ i < k + 1 := by omega
        simp [h1, h2, this]
  · have h1 := all_bitN k (by omega) k
    rw [e, all_bitN n hn] at h1
    simp [hk] at h1
theorem one_list : ∀ k : Nat, k < 64 → onesL (1#64 <<< k) = [(k : Int)] := by decide +kernel
theorem one_of (k : Nat) (hk : k < 64) : onesL (oneW (k : Int)) = [(k : Int)] := one_list k hk
theorem count_set (G : BitVec 64) (k : Nat) (hk : k < 64) : (onesL (setW G (k : Int))).length = if G.getLsbD k = true then (onesL G).length else (onesL G).length + 1 := by
  split
  · rename_i h
    have : setW G (k : Int) = G := ext64 fun i hi => by
      rw [set_bit _ _ _ hi, Int.toNat_natCast]
      by_cases e : i = k
      · rw [e, h]; rfl
      · simp [e]
    rw [this]
  · rename_i h
    have h' : G.getLsbD k = false := by simpa using h
    have e1 : freeW (setW G (k : Int)) (oneW (k : Int)) = G := ext64 fun i hi => by
      rw [free_bit _ _ _ hi, set_bit _ _ _ hi, one_bit, Int.toNat_natCast]
      by_cases e : i = k
      · rw [e, h']; simp [hk]
      · simp [e]
    have e2 : oneW (k : Int) &&& setW G (k : Int) = oneW (k : Int) := by
      rw [sub_iff]
      intro i hi h1
      rw [one_bit, Int.toNat_natCast] at h1
      rw [set_bit _ _ _ hi, Int.toNat_natCast]
      have : i = k := by simpa [hi] using h1
      simp [this]
    have h3 := count_free (setW G (k : Int)) (oneW (k : Int)) e2
    rw [e1, one_of k hk] at h3
    simpa using h3.symm
theorem ones_tail (x : BitVec 64) (k : Int) (l : List Int) (h : onesL x = k :: l) : onesL (clrW x k) = l ∧ ∀ y ∈ l, k < y := by
  have hp : (k :: l).Pairwise (· < ·) := by rw [← h]; exact ones_rise x 64
  have hk : ∀ y ∈ l, k < y := (List.pairwise_cons.1 hp).1
  refine ⟨?_, hk⟩
  have hmem : k ∈ onesL x := by rw [h]; simp
  obtain ⟨m, hm, _, rfl⟩ := (onesTo_mem x 64 k).1 hmem
  have h1 := filter_ones x (clrW x (m : Int)) (fun y => !decide (y = (m : Int))) (fun i hi => by
    rw [clr_bit _ _ _ hi, Int.toNat_natCast]
    by_cases e : i = m
    · subst e; simp
    · have : ¬ (i : Int) = (m : Int) := by omega
      simp [e, this])
  rw [h] at h1
  rw [← h1]
  have h2 : l.filter (fun y => !decide (y = (m : Int))) = l := List.filter_eq_self.2 fun y hy => by
    have := hk y hy
    have : ¬ y = (m : Int) := by omega
    simp [this]
  simp [h2]
theorem ones_mem (x : BitVec 64) (k : Nat) (l : List Int) (h : onesL x = (k : Int) :: l) : k < 64 ∧ x.getLsbD k = true := by
  have hmem : (k : Int) ∈ onesL x := by rw [h]; simp
  obtain ⟨m, hm, hb, e⟩ := (onesTo_mem x 64 (k : Int)).1 hmem
  have : k = m := by omega
  subst this
  exact ⟨hm, hb⟩
theorem ones_nat (x : BitVec 64) (y : Int) (l : List Int) (h : onesL x = y :: l) : ∃ k : Nat, y = (k : Int) := by
  have hmem : y ∈ onesL x := by rw [h]; simp
  obtain ⟨m, _, _, e⟩ := (onesTo_mem x 64 y).1 hmem
  exact ⟨m, e⟩
theorem ones_none (x : BitVec 64) (h : onesL x = []) : x = 0#64 := ext64 fun i hi => by
  cases hb : x.getLsbD i with
  | false => simp
  | true =>
    have : (i : Int) ∈ onesL x := (onesTo_mem x 64 (i : Int)).2 ⟨i, hi, hb, rfl⟩
    rw [h] at this
    cases this
/-- What was given back. -/
theorem given_taken (A G : BitVec 64) (k : Nat) (hk : k < 64) (ha : A.getLsbD k = true) : hasB A (k : Int) = true ∧ takenB A (freeW A G) (k : Int) = !G.getLsbD k := by
  have h0 : decide ((0 : Int) ≤ (k : Int)) = true := decide_eq_true (by omega)
  have h1 : hasB A (k : Int) = true := by unfold hasB; rw [h0, Int.toNat_natCast, ha]; rfl
  refine ⟨h1, ?_⟩
  unfold takenB
  rw [h1, Int.toNat_natCast, free_bit _ _ _ hk, ha]
  simp
theorem given_clr (A G : BitVec 64) (k : Int) : clrW (freeW A G) k = freeW A (setW G k) := ext64 fun i hi => by
  rw [clr_bit _ _ _ hi, free_bit _ _ _ hi, free_bit _ _ _ hi, set_bit _ _ _ hi]
  cases A.getLsbD i <;> cases G.getLsbD i <;> cases decide (i = k.toNat) <;> rfl
theorem given_again (G : BitVec 64) (k : Nat) (h : G.getLsbD k = true) : setW G (k : Int) = G := ext64 fun i hi => by
  rw [set_bit _ _ _ hi, Int.toNat_natCast]
  by_cases e : i = k
  · rw [e, h]; rfl
  · simp [e]
theorem free_free (A G : BitVec 64) (hs : G &&& A = G) : freeW A (freeW A G) = G := ext64 fun i hi => by
  rw [free_bit _ _ _ hi, free_bit _ _ _ hi]
  have := (sub_iff A G).1 hs i hi
  cases ha : A.getLsbD i <;> cases hg : G.getLsbD i <;> simp_all
theorem take_given (A G : BitVec 64) (k : Nat) (ha : A.getLsbD k = true) : setW (freeW A G) (k : Int) = freeW A (clrW G (k : Int)) := ext64 fun i hi => by
  rw [set_bit _ _ _ hi, free_bit _ _ _ hi, free_bit _ _ _ hi, clr_bit _ _ _ hi, Int.toNat_natCast]
  by_cases e : i = k
  · rw [e, ha]; simp
  · simp [e]
theorem free_zero (A : BitVec 64) : freeW A 0#64 = A := ext64 fun i hi => by
  rw [free_bit _ _ _ hi]; simp
theorem free_self (A : BitVec 64) : freeW A A = 0#64 := ext64 fun i hi => by
  rw [free_bit _ _ _ hi]; simp
theorem free_ne (A G : BitVec 64) (hs : G &&& A = G) (h : G ≠ 0#64) : freeW A G ≠ A := fun e => h (by
  have := free_free A G hs
  rw [e, free_self] at this
  exact this.symm)
end Go.Proofs.Ytkblpbnppkfjnaa.FrmMath
