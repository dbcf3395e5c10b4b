/-
  Sets of the 256 granules of a page: words, one granule put in or left out, what lies in both, how many there are, the list of them; and how many bits of a word are 1, counted as the program's library counts them. No program text here.
-/
import Derived.Test.YtnookalplejneaaDoorWords
namespace Go.Proofs.YtnookalplejneaaDoor
open Go.RowKit Words

/-- Word q of a set. -/
def wd (s : BitVec 256) (q : Nat) : BitVec 64 := s.extractLsb' (64 * q) 64
/-- The set of four words. -/
def mk4 (a b c d : BitVec 64) : BitVec 256 := d ++ c ++ b ++ a
theorem wd_bit (s : BitVec 256) (q r : Nat) (hr : r < 64) : (wd s q).getLsbD r = s.getLsbD (64 * q + r) := by
  unfold wd
  rw [BitVec.getLsbD_extractLsb']
  simp [hr]
theorem mk4_bit (a b c d : BitVec 64) (i : Nat) : (mk4 a b c d).getLsbD i = if i < 64 then a.getLsbD i else if i < 128 then b.getLsbD (i - 64) else if i < 192 then c.getLsbD (i - 128) else d.getLsbD (i - 192) := by
  unfold mk4
  simp only [BitVec.getLsbD_append]
  by_cases h1 : i < 64
  · simp [h1]
  · by_cases h2 : i < 128
    · have : i - 64 < 64 := by omega
      simp [h1, h2, this]
    · by_cases h3 : i < 192
      · have h4 : ¬ i - 64 < 64 := by omega
        have h6 : i - 64 - 64 = i - 128 := by omega
        have h5 : i - 128 < 64 := by omega
        simp [h1, h2, h3, h4, h5, h6]
      · have h4 : ¬ i - 64 < 64 := by omega
        have h5 : ¬ i - 64 - 64 < 64 := by omega
        have h6 : i - 64 - 64 - 64 = i - 192 := by omega
        simp [h1, h2, h3, h4, h5, h6]
theorem mk4_words (a b c d : BitVec 64) : wd (mk4 a b c d) 0 = a ∧ wd (mk4 a b c d) 1 = b ∧ wd (mk4 a b c d) 2 = c ∧ wd (mk4 a b c d) 3 = d := by
  refine ⟨?_, ?_, ?_, ?_⟩ <;> refine ext64 (fun i hi => ?_) <;> rw [wd_bit _ _ _ hi, mk4_bit]
  · rw [if_pos (by omega), show 64 * 0 + i = i by omega]
  · rw [if_neg (by omega), if_pos (by omega), show 64 * 1 + i - 64 = i by omega]
  · rw [if_neg (by omega), if_neg (by omega), if_pos (by omega), show 64 * 2 + i - 128 = i by omega]
  · rw [if_neg (by omega), if_neg (by omega), if_neg (by omega), show 64 * 3 + i - 192 = i by omega]
theorem ext256 {s t : BitVec 256} (h : ∀ i, i < 256 → s.getLsbD i = t.getLsbD i) : s = t := BitVec.eq_of_getLsbD_eq h
theorem wd_ext {s t : BitVec 256} (h : ∀ q, q < 4 → wd s q = wd t q) : s = t := by
  refine ext256 (fun i hi => ?_)
  have h1 := wd_bit s (i / 64) (i % 64) (by omega)
  have h2 := wd_bit t (i / 64) (i % 64) (by omega)
  rw [show 64 * (i / 64) + i % 64 = i by omega] at h1 h2
  rw [← h1, ← h2, h (i / 64) (by omega)]
theorem wd_eq_iff (s t : BitVec 256) : (((wd s 0).toNat : Int) = ((wd t 0).toNat : Int) ∧ ((wd s 1).toNat : Int) = ((wd t 1).toNat : Int) ∧ ((wd s 2).toNat : Int) = ((wd t 2).toNat : Int) ∧ ((wd s 3).toNat : Int) = ((wd t 3).toNat : Int)) ↔ s = t := by
  constructor
  · rintro ⟨h0, h1, h2, h3⟩
    refine wd_ext (fun q hq => ?_)
    have : q = 0 ∨ q = 1 ∨ q = 2 ∨ q = 3 := by omega
    rcases this with rfl | rfl | rfl | rfl <;> apply BitVec.eq_of_toNat_eq <;> omega
  · rintro rfl
    exact ⟨rfl, rfl, rfl, rfl⟩

/-! Granules. -/
def granB (i : Int) : Bool := decide (0 ≤ i) && decide (i < 256)
def getS (s : BitVec 256) (i : Int) : Bool := granB i && s.getLsbD i.toNat
def bitW (r : Nat) : BitVec 64 := 1#64 <<< r
def put1 (s : BitVec 256) (i : Nat) (tag : Bool) : BitVec 256 := if tag then s ||| BitVec.twoPow 256 i else s &&& ~~~ BitVec.twoPow 256 i
def withS (s : BitVec 256) (i : Int) (tag : Bool) : BitVec 256 := if granB i then put1 s i.toNat tag else s
def lessS (s t : BitVec 256) : BitVec 256 := s &&& ~~~ t
theorem bitW_bit (r j : Nat) (hj : j < 64) : (bitW r).getLsbD j = decide (j = r) := by
  unfold bitW
  rw [BitVec.getLsbD_shiftLeft]
  by_cases h : j = r
  · subst h; simp [hj]
  · by_cases h2 : j < r
    · simp [h, h2]
    · have : j - r ≠ 0 := by omega
      simp [h, this]
theorem put1_bit (s : BitVec 256) (i j : Nat) (tag : Bool) (hj : j < 256) : (put1 s i tag).getLsbD j = if j = i then tag else s.getLsbD j := by
  unfold put1
  cases tag <;> by_cases h : j = i
  · subst h; simp [hj]
  · simp [hj, h]
  · subst h; simp [hj]
  · simp [hj, h]
theorem less_bit (s t : BitVec 256) (j : Nat) (hj : j < 256) : (lessS s t).getLsbD j = (s.getLsbD j && !t.getLsbD j) := by
  unfold lessS
  simp [hj]
theorem wd_less (s t : BitVec 256) (q : Nat) (hq : q < 4) : wd (lessS s t) q = wd s q &&& ~~~ wd t q := by
  refine ext64 (fun r hr => ?_)
  rw [wd_bit _ _ _ hr, less_bit _ _ _ (by omega), BitVec.getLsbD_and, BitVec.getLsbD_not, wd_bit _ _ _ hr, wd_bit _ _ _ hr]
  simp [hr]
theorem wd_put_yes (s : BitVec 256) (q r : Nat) (hq : q < 4) (hr : r < 64) : wd (put1 s (64 * q + r) true) q = wd s q ||| bitW r := by
  refine ext64 (fun j hj => ?_)
  rw [wd_bit _ _ _ hj, put1_bit _ _ _ _ (by omega), BitVec.getLsbD_or, wd_bit _ _ _ hj, bitW_bit _ _ hj]
  by_cases h : j = r
  · subst h; simp
  · rw [if_neg (by omega)]; simp [h]
theorem wd_put_no (s : BitVec 256) (q r : Nat) (hq : q < 4) (hr : r < 64) : wd (put1 s (64 * q + r) false) q = wd s q &&& ~~~ bitW r := by
  refine ext64 (fun j hj => ?_)
  rw [wd_bit _ _ _ hj, put1_bit _ _ _ _ (by omega), BitVec.getLsbD_and, BitVec.getLsbD_not, wd_bit _ _ _ hj, bitW_bit _ _ hj]
  by_cases h : j = r
  · subst h; simp
  · rw [if_neg (by omega)]; simp [h, hj]
theorem wd_put_else (s : BitVec 256) (q r p : Nat) (tag : Bool) (hp : p < 4) (hr : r < 64) (h : p ≠ q) : wd (put1 s (64 * q + r) tag) p = wd s p := by
  refine ext64 (fun j hj => ?_)
  rw [wd_bit _ _ _ hj, put1_bit _ _ _ _ (by omega), wd_bit _ _ _ hj, if_neg (by omega)]
theorem word_has (s : BitVec 256) (q r : Nat) (hr : r < 64) : (wd s q &&& bitW r ≠ 0) ↔ s.getLsbD (64 * q + r) = true := by
  rw [← wd_bit s q r hr]
  constructor
  · intro h
    cases hb : (wd s q).getLsbD r with
    | true => rfl
    | false =>
      exfalso
      apply h
      refine ext64 (fun j hj => ?_)
      rw [BitVec.getLsbD_and, bitW_bit _ _ hj]
      by_cases e : j = r
      · subst e; simp [hb]
      · simp [e]
  · intro h e
    have := congrArg (fun x => x.getLsbD r) e
    simp [BitVec.getLsbD_and, bitW_bit _ _ hr, h] at this
theorem word_shr (s : BitVec 256) (q r : Nat) (hr : r < 64) : (wd s q >>> r) &&& 1#64 = if s.getLsbD (64 * q + r) then 1#64 else 0#64 := by
  rw [← wd_bit s q r hr]
  refine ext64 (fun j hj => ?_)
  rw [BitVec.getLsbD_and, BitVec.getLsbD_ushiftRight]
  by_cases e : j = 0
  · subst e; cases (wd s q).getLsbD r <;> simp
  · cases (wd s q).getLsbD r <;> simp [e]

/-! How many, and which. -/
def cnt (f : Nat → Bool) : Nat → Nat
  | 0 => 0
  | n + 1 => cnt f n + (f n).toNat
def lst (f : Nat → Bool) : Nat → List Int
  | 0 => []
  | n + 1 => if f n then lst f n ++ [(n : Int)] else lst f n
theorem lst_length (f : Nat → Bool) (n : Nat) : (lst f n).length = cnt f n := by
  induction n with
  | zero => rfl
  | succ n ih => unfold lst cnt; cases f n <;> simp [ih]
theorem lst_hit (f : Nat → Bool) (n : Nat) (h : f n = true) : lst f (n + 1) = lst f n ++ [(n : Int)] := by rw [lst, if_pos h]
theorem lst_miss (f : Nat → Bool) (n : Nat) (h : f n = false) : lst f (n + 1) = lst f n := by rw [lst, if_neg (by simp [h])]
theorem cnt_le (f : Nat → Bool) (n : Nat) : cnt f n ≤ n := by
  induction n with
  | zero => exact Nat.le_refl _
  | succ n ih => unfold cnt; cases f n <;> simp <;> omega
theorem cnt_add (f : Nat → Bool) (a b : Nat) : cnt f (a + b) = cnt f a + cnt (fun i => f (a + i)) b := by
  induction b with
  | zero => rfl
  | succ b ih => rw [← Nat.add_assoc, cnt, cnt, ih, Nat.add_assoc]
theorem cnt_congr {f g : Nat → Bool} {n : Nat} (h : ∀ i, i < n → f i = g i) : cnt f n = cnt g n := by
  induction n with
  | zero => rfl
  | succ n ih => rw [cnt, cnt, ih (fun i hi => h i (by omega)), h n (by omega)]
theorem cnt_zero {f : Nat → Bool} {n : Nat} (h : cnt f n = 0) : ∀ i, i < n → f i = false := by
  induction n with
  | zero => intro i hi; omega
  | succ n ih =>
    rw [cnt] at h
    intro i hi
    by_cases e : i = n
    · subst e; cases hf : f i <;> simp_all
    · exact ih (by omega) i (by omega)
def cntS (s : BitVec 256) : Nat := cnt (fun i => s.getLsbD i) 256
def popW (x : BitVec 64) : Nat := cnt (fun i => x.getLsbD i) 64
theorem cnt_words (s : BitVec 256) : cntS s = popW (wd s 0) + popW (wd s 1) + popW (wd s 2) + popW (wd s 3) := by
  unfold cntS popW
  refine (cnt_add (fun i => s.getLsbD i) (64 + 64 + 64) 64).trans ?_
  rw [cnt_add, cnt_add]
  congr 1
  · congr 1
    · congr 1
      · exact cnt_congr (fun i hi => by rw [wd_bit _ _ _ hi]; simp)
      · exact cnt_congr (fun i hi => by rw [wd_bit _ _ _ hi])
    · exact cnt_congr (fun i hi => by rw [wd_bit _ _ _ hi])
  · exact cnt_congr (fun i hi => by rw [wd_bit _ _ _ hi])
theorem pop_le (x : BitVec 64) : popW x ≤ 64 := cnt_le _ _
end Go.Proofs.YtnookalplejneaaDoor
