/-
  Plain mathematics of the instructions: what is encoded is decoded, what is decoded is encoded, and no word is two instructions'. No Go text here.
-/
import Derived.Test.YtlommbeokbicjaaGreatDoorInstMath
namespace Go.Proofs.YtlommbeokbicjaaGreatDoor.InstMath
open Go Words FieldMath

def matchB (k : Nat) (x : BitVec 64) : Bool := x &&& BitVec.ofNat 64 (fixN (shp k)) == BitVec.ofNat 64 (wrd k)
def rawB (k : Nat) (x : BitVec 64) (o : Nat) : BitVec 64 := readL x (partsL (shp k)) (fun _ => 0) o
def opsB (k : Nat) (x : BitVec 64) (o : Nat) : BitVec 64 := if o = 3 ∧ nS (shp k) = true then signB (rawB k x o) (nW (shp k)) else rawB k x o
def opsI (k : Nat) (x : BitVec 64) (o : Nat) : Int := (opsB k x o).toInt
def encK (k : Nat) (ops : Nat → Int) : Option (BitVec 64) := encL (shp k) ops (partsL (shp k)) (BitVec.ofNat 64 (wrd k))

theorem wrd_lt (k : Nat) (h : k ≤ 69) : wrd k < 4294967296 := by
  have : ∀ k, k < 70 → wrd k < 4294967296 := by decide +kernel
  exact this k (by omega)
theorem wrd_fix (k : Nat) (h1 : 1 ≤ k) (h : k ≤ 69) (i : Nat) (_hi : i < 32) (hb : (wrd k).testBit i = true) : (fixN (shp k)).testBit i = true := by
  have : ∀ k, k < 70 → (k = 0 ∨ wrd k &&& fixN (shp k) = wrd k) := by decide +kernel
  rcases this k (by omega) with h2 | h2
  · omega
  · rw [← h2, Nat.testBit_and] at hb
    simp at hb
    exact hb.2
theorem src_mem : ∀ {L : List Prt} {i : Nat} {q : Nat × Nat}, src L i = some q → ∃ p ∈ L, p.2.2.2 ≤ i ∧ i < p.2.2.2 + p.2.2.1 ∧ q = (p.1, p.2.1 + (i - p.2.2.2))
  | [], _, _, h => by simp [src] at h
  | p :: r, i, q, h => by
    unfold src at h
    cases e : src r i with
    | some q' =>
      rw [e] at h
      obtain rfl := Option.some.inj h
      obtain ⟨p', hp', h2⟩ := src_mem e
      exact ⟨p', List.mem_cons_of_mem _ hp', h2⟩
    | none =>
      rw [e] at h
      simp only at h
      split at h
      · rename_i c
        exact ⟨p, by simp, c.1, c.2, (Option.some.inj h).symm⟩
      · simp at h
theorem lo_of {x : BitVec 64} {n : Nat} (h : ∀ i, n ≤ i → i < 64 → x.getLsbD i = false) : x.toNat < 2 ^ n := by
  refine Nat.lt_pow_two_of_testBit _ fun i hi => ?_
  by_cases h2 : i < 64
  · exact h i hi h2
  · exact BitVec.getLsbD_of_ge x i (by omega)
theorem hi_of {x : BitVec 64} {n : Nat} (h : x.toNat < 2 ^ n) (i : Nat) (hi : n ≤ i) : x.getLsbD i = false :=
  Nat.testBit_lt_two_pow (Nat.lt_of_lt_of_le h (Nat.pow_le_pow_right (by decide) hi))
theorem ofNat_bit {n : Nat} (_h : n < 4294967296) (i : Nat) (hi : i < 64) : (BitVec.ofNat 64 n).getLsbD i = n.testBit i := by
  rw [BitVec.getLsbD_ofNat]; simp [hi]
theorem big_bit {n : Nat} (h : n < 4294967296) (i : Nat) (hi : 32 ≤ i) : n.testBit i = false :=
  Nat.testBit_lt_two_pow (Nat.lt_of_lt_of_le (show n < 2 ^ 32 from h) (Nat.pow_le_pow_right (by decide) hi))

theorem match_iff {k : Nat} (h1 : 1 ≤ k) (h2 : k ≤ 69) {x : BitVec 64} (_hx : x.toNat < 4294967296) : matchB k x = true ↔ ∀ i, i < 32 → (fixN (shp k)).testBit i = true → x.getLsbD i = (wrd k).testBit i := by
  have ok := ok_shape (shape_of h1 h2)
  have hw := wrd_lt k h2
  unfold matchB
  rw [beq_iff_eq]
  constructor
  · intro h i hi hf
    have := congrArg (fun y => y.getLsbD i) h
    simp only [BitVec.getLsbD_and] at this
    rw [ofNat_bit ok.fixl i (by omega), ofNat_bit hw i (by omega), hf, Bool.and_true] at this
    exact this
  · intro h
    refine ext64 fun i hi => ?_
    rw [BitVec.getLsbD_and, ofNat_bit ok.fixl i hi, ofNat_bit hw i hi]
    by_cases h3 : i < 32
    · cases hf : (fixN (shp k)).testBit i with
      | true => rw [Bool.and_true]; exact h i h3 hf
      | false =>
        rw [Bool.and_false]
        cases hb : (wrd k).testBit i with
        | false => rfl
        | true => rw [wrd_fix k h1 h2 i h3 hb] at hf; exact hf.symm
    · rw [big_bit ok.fixl i (by omega), big_bit hw i (by omega), Bool.and_false]
theorem src_out {k : Nat} (h1 : 1 ≤ k) (h2 : k ≤ 69) (i : Nat) (hi : 32 ≤ i) : src (partsL (shp k)) i = none := by
  have ok := ok_shape (shape_of h1 h2)
  cases e : src (partsL (shp k)) i with
  | none => rfl
  | some q =>
    obtain ⟨p, hp, _, h4, _⟩ := src_mem e
    have := ok.inw p hp
    unfold inW at this
    simp at this
    omega
theorem enc_match {k : Nat} (h1 : 1 ≤ k) (h2 : k ≤ 69) {ops : Nat → Int} {y : BitVec 64} (h : encK k ops = some y) : y.toNat < 4294967296 ∧ matchB k y = true := by
  have ok := ok_shape (shape_of h1 h2)
  have hw := wrd_lt k h2
  have hb := enc_bit ok.inw h
  have hy : y.toNat < 2 ^ 32 := lo_of fun i hi hi2 => by
    rw [hb i hi2, src_out h1 h2 i hi]
    simp only
    rw [ofNat_bit hw i hi2, big_bit hw i hi]
  refine ⟨hy, (match_iff h1 h2 hy).2 fun i hi hf => ?_⟩
  rw [hb i (by omega)]
  have := ok.fix i hi
  rw [hf, Option.isNone_iff_eq_none] at this
  rw [this]
  simp only
  rw [ofNat_bit hw i (by omega)]
theorem raw_bit {k : Nat} (h1 : 1 ≤ k) (h2 : k ≤ 69) (x : BitVec 64) (o j : Nat) (hj : j < 64) : (rawB k x o).getLsbD j = (partsL (shp k)).any (fun p => hasJ p o j && x.getLsbD (p.2.2.2 + (j - p.2.1))) := by
  have ok := ok_shape (shape_of h1 h2)
  unfold rawB
  rw [read_bit (fun p hp => ⟨ok.inw p hp, ok.top p hp⟩) o j hj]
  simp
theorem raw_here {k : Nat} (h1 : 1 ≤ k) (h2 : k ≤ 69) (x : BitVec 64) {p : Prt} (hp : p ∈ partsL (shp k)) (j : Nat) (hj : hasJ p p.1 j = true) : (rawB k x p.1).getLsbD j = x.getLsbD (p.2.2.2 + (j - p.2.1)) := by
  have ok := ok_shape (shape_of h1 h2)
  have hj2 := hj
  unfold hasJ at hj2
  simp at hj2
  have := ok.top p hp
  rw [raw_bit h1 h2 x p.1 j (by omega), Bool.eq_iff_iff, List.any_eq_true]
  constructor
  · rintro ⟨q, hq, h3⟩
    rw [Bool.and_eq_true] at h3
    rw [ok.one p hp q hq j (by omega) hj h3.1]
    exact h3.2
  · intro h3
    exact ⟨p, hp, by rw [hj, h3]; rfl⟩
theorem raw_out {k : Nat} (h1 : 1 ≤ k) (h2 : k ≤ 69) (x : BitVec 64) (o j : Nat) (hj : j < 64) (hc : covers (shp k) o j = false) : (rawB k x o).getLsbD j = false := by
  rw [raw_bit h1 h2 x o j hj]
  unfold covers at hc
  rw [List.any_eq_false] at hc ⊢
  intro p hp
  have := hc p hp
  simp only [Bool.not_eq_true] at this
  rw [this]
  simp
theorem cover_reg {k : Nat} (h1 : 1 ≤ k) (h2 : k ≤ 69) {o j : Nat} (ho : o ≠ 3) (hc : covers (shp k) o j = true) : j < 5 := by
  have ok := ok_shape (shape_of h1 h2)
  unfold covers at hc
  obtain ⟨p, hp, h3⟩ := List.any_eq_true.1 hc
  unfold hasJ at h3
  simp at h3
  have := ok.reg p hp (by omega)
  omega
theorem cover_imm {k : Nat} (h1 : 1 ≤ k) (h2 : k ≤ 69) {j : Nat} (hc : covers (shp k) 3 j = true) : j < nW (shp k) := by
  have ok := ok_shape (shape_of h1 h2)
  unfold covers at hc
  obtain ⟨p, hp, h3⟩ := List.any_eq_true.1 hc
  unfold hasJ at h3
  simp at h3
  have := ok.imm p hp (by omega)
  omega
theorem raw_reg {k : Nat} (h1 : 1 ≤ k) (h2 : k ≤ 69) (x : BitVec 64) {o : Nat} (ho : o ≠ 3) : (rawB k x o).toNat < 32 := by
  have : (rawB k x o).toNat < 2 ^ 5 := lo_of fun i hi hi2 => raw_out h1 h2 x o i hi2 (by
    cases hc : covers (shp k) o i with
    | false => rfl
    | true => have := cover_reg h1 h2 ho hc; omega)
  exact this
theorem raw_imm {k : Nat} (h1 : 1 ≤ k) (h2 : k ≤ 69) (x : BitVec 64) : (rawB k x 3).toNat < 2 ^ nW (shp k) := lo_of fun i hi hi2 => raw_out h1 h2 x 3 i hi2 (by
    cases hc : covers (shp k) 3 i with
    | false => rfl
    | true => have := cover_imm h1 h2 hc; omega)

theorem toInt_small {x : BitVec 64} (h : x.toNat < 4294967296) : x.toInt = (x.toNat : Int) := by
  rw [BitVec.toInt_eq_toNat_cond, if_pos (by omega)]
theorem ofInt_small {v : Int} (h0 : 0 ≤ v) (h : v < 4294967296) : (BitVec.ofInt 64 v).toNat = v.toNat := by
  rw [BitVec.toNat_ofInt]; simp; omega
theorem mask_toNat (n : Nat) (h : n ≤ 32) : ((maskB (n : Int)).toNat : Int) = 2 ^ n - 1 := by
  unfold maskB
  rw [BitVec.toNat_ofNat]
  have e : min (n : Int).toNat 64 = n := by omega
  have h2 : 2 ^ n ≤ 2 ^ 32 := Nat.pow_le_pow_right (by decide) h
  have h3 : 0 < 2 ^ n := Nat.two_pow_pos n
  rw [e, Nat.mod_eq_of_lt (by omega)]
  have : ((2 : Int) ^ n) = ((2 ^ n : Nat) : Int) := by simp
  rw [this]; omega
theorem fits_u (v : Int) (n : Nat) (h1 : 1 ≤ n) (h : n ≤ 32) : fitsB v n false = (decide (0 ≤ v) && decide (v < 2 ^ n)) := by
  unfold fitsB
  have : FieldMath.numW (n : Int) = true := by unfold FieldMath.numW; simp; omega
  rw [this, mask_toNat n h]
  have e : (v ≤ 2 ^ n - 1) ↔ (v < 2 ^ n) := by omega
  simp only [e]
  simp
theorem fits_s (v : Int) (n : Nat) (h1 : 1 ≤ n) (h : n ≤ 32) : fitsB v n true = (signB (BitVec.ofInt 64 v) n == BitVec.ofInt 64 v) := by
  unfold fitsB
  have : FieldMath.numW (n : Int) = true := by unfold FieldMath.numW; simp; omega
  rw [this]
  simp
theorem sign_at (x : BitVec 64) (n : Nat) (h1 : 1 ≤ n) (h : n ≤ 32) (i : Nat) (hi : i < 64) : (signB x n).getLsbD i = x.getLsbD (if i < n then i else n - 1) := by
  have : FieldMath.numW (n : Int) = true := by unfold FieldMath.numW; simp; omega
  rw [sign_bit _ _ _ hi, this, Bool.true_and]
  congr 1
  by_cases h2 : i < n
  · have : (i : Int) < (n : Int) := by omega
    rw [if_pos h2, if_pos this]
  · have : ¬ (i : Int) < (n : Int) := by omega
    rw [if_neg h2, if_neg this]
    omega
theorem pow_split (j : Nat) (h : j ≤ 64) : (18446744073709551616 : Nat) = 2 ^ j * 2 ^ (64 - j) := by
  rw [← Nat.pow_add, show j + (64 - j) = 64 by omega]
theorem dvd_bit {v : Int} {m j : Nat} (hj : j < 63) (hm : m % 2 ^ (j + 1) = 0) (h : (m : Int) ∣ v) : (BitVec.ofInt 64 v).getLsbD j = false := by
  have hd0 : ((2 ^ (j + 1) : Nat) : Int) ∣ v := Int.dvd_trans (Int.natCast_dvd_natCast.2 (Nat.dvd_of_mod_eq_zero hm)) h
  have e : ((BitVec.ofInt 64 v).toNat : Int) = v % (18446744073709551616 : Nat) := by
    rw [BitVec.toNat_ofInt]; simp; omega
  have hd : ((2 ^ (j + 1) : Nat) : Int) ∣ ((BitVec.ofInt 64 v).toNat : Int) := by
    rw [e, Int.emod_def]
    exact Int.dvd_sub hd0 (Int.dvd_trans (Int.natCast_dvd_natCast.2 ⟨2 ^ (64 - (j + 1)), pow_split (j + 1) (by omega)⟩) (Int.dvd_mul_right _ _))
  obtain ⟨c, hc⟩ := Int.natCast_dvd_natCast.1 hd
  show (BitVec.ofInt 64 v).toNat.testBit j = false
  rw [hc, Nat.testBit_eq_decide_div_mod_eq, Nat.pow_succ, Nat.mul_assoc, Nat.mul_div_cancel_left _ (Nat.two_pow_pos j)]
  simp
theorem bits_dvd {x : BitVec 64} {t : Nat} (ht : t ≤ 63) (h : ∀ j, j < t → x.getLsbD j = false) : ((2 ^ t : Nat) : Int) ∣ x.toInt := by
  have hz : x.toNat % 2 ^ t = 0 := by
    refine Nat.eq_of_testBit_eq fun i => ?_
    rw [Nat.testBit_mod_two_pow, Nat.zero_testBit]
    by_cases hi : i < t
    · have : x.toNat.testBit i = false := h i hi
      rw [this]; simp
    · simp [hi]
  have hd : ((2 ^ t : Nat) : Int) ∣ (x.toNat : Int) := Int.natCast_dvd_natCast.2 (Nat.dvd_of_mod_eq_zero hz)
  have h64 : ((2 ^ t : Nat) : Int) ∣ (18446744073709551616 : Nat) := Int.natCast_dvd_natCast.2 ⟨2 ^ (64 - t), pow_split t (by omega)⟩
  rw [BitVec.toInt_eq_toNat_cond]
  split
  · exact hd
  · exact Int.dvd_sub hd h64

def okStep (s : Nat) : Bool := nK s == 2 ^ (nK s).log2 && decide ((nK s).log2 < 32) && (List.range (nK s).log2).all (fun j => !covers s 3 j && decide (j < nW s))
theorem ok_step {s : Nat} (hs : IsShape s) : nK s = 2 ^ (nK s).log2 ∧ (nK s).log2 < 32 ∧ ∀ j, j < (nK s).log2 → covers s 3 j = false ∧ j < nW s := by
  have h : okStep s = true := each_shape (P := fun s => okStep s = true) (by decide +kernel) hs
  simp only [okStep, Bool.and_eq_true, beq_iff_eq, decide_eq_true_eq, List.all_eq_true, List.mem_range, Bool.not_eq_true'] at h
  exact ⟨h.1.1, h.1.2, h.2⟩

theorem ops_back {k : Nat} (x : BitVec 64) (o : Nat) : BitVec.ofInt 64 (opsI k x o) = opsB k x o := ofInt_toInt _
theorem ops_bit {k : Nat} (h1 : 1 ≤ k) (h2 : k ≤ 69) (x : BitVec 64) (o j : Nat) (hj : j < 64) (hn : o = 3 → j < nW (shp k)) : (opsB k x o).getLsbD j = (rawB k x o).getLsbD j := by
  have ok := ok_shape (shape_of h1 h2)
  unfold opsB
  split
  · rename_i h
    rw [sign_at _ _ ok.nw.1 ok.nw.2 j hj, if_pos (hn h.1)]
  · rfl
theorem ops_reg {k : Nat} (h1 : 1 ≤ k) (h2 : k ≤ 69) (x : BitVec 64) {o : Nat} (ho : o ≠ 3) : opsI k x o = ((rawB k x o).toNat : Int) := by
  have := raw_reg h1 h2 x ho
  unfold opsI opsB
  rw [if_neg (by simp [ho]), toInt_small (by omega)]
theorem ops_fit {k : Nat} (h1 : 1 ≤ k) (h2 : k ≤ 69) (x : BitVec 64) (o : Nat) : fitB (shp k) o (opsI k x o) = true := by
  have ok := ok_shape (shape_of h1 h2)
  obtain ⟨n1, n2⟩ := ok.nw
  unfold fitB
  by_cases ho : o = 3
  · subst ho
    rw [if_pos rfl]
    obtain ⟨s1, s2, s3⟩ := ok_step (shape_of h1 h2)
    have hst : (opsI k x 3).tmod (nK (shp k)) = 0 := by
      refine Int.tmod_eq_zero_of_dvd ?_
      rw [s1]
      refine bits_dvd (by omega) fun j hj => ?_
      obtain ⟨c1, c2⟩ := s3 j hj
      rw [ops_bit h1 h2 x 3 j (by omega) (fun _ => c2)]
      exact raw_out h1 h2 x 3 j (by omega) c1
    rw [hst]
    cases hs : nS (shp k) with
    | true =>
      rw [fits_s _ _ n1 n2, ops_back]
      have : signB (opsB k x 3) (nW (shp k)) = opsB k x 3 := by
        unfold opsB
        rw [if_pos ⟨rfl, hs⟩]
        refine ext64 fun i hi => ?_
        rw [sign_at _ _ n1 n2 i hi, sign_at _ _ n1 n2 _ (by split <;> omega), sign_at _ _ n1 n2 i hi]
        congr 1
        by_cases h : i < nW (shp k)
        · rw [if_pos h, if_pos h]
        · rw [if_neg h, if_pos (by omega)]
      rw [this]
      simp
    | false =>
      have hr := raw_imm h1 h2 x
      have h32 : 2 ^ nW (shp k) ≤ 2 ^ 32 := Nat.pow_le_pow_right (by decide) n2
      have : opsI k x 3 = ((rawB k x 3).toNat : Int) := by
        unfold opsI opsB
        rw [if_neg (by simp [hs]), toInt_small (by omega)]
      rw [fits_u _ _ n1 n2, this]
      have e : ((rawB k x 3).toNat : Int) < 2 ^ nW (shp k) := by
        have : ((2 : Int) ^ nW (shp k)) = ((2 ^ nW (shp k) : Nat) : Int) := by simp
        rw [this]; omega
      simp [e]
  · rw [if_neg ho, show (5 : Int) = ((5 : Nat) : Int) from rfl, fits_u _ _ (by decide) (by decide), ops_reg h1 h2 x ho]
    have := raw_reg h1 h2 x ho
    have e : ((rawB k x o).toNat : Int) < 2 ^ 5 := by omega
    rw [decide_eq_true e]
    simp
/-- What was decoded is encoded to the word. -/
theorem enc_read {k : Nat} (h1 : 1 ≤ k) (h2 : k ≤ 69) {x : BitVec 64} (hx : x.toNat < 4294967296) (hm : matchB k x = true) : encK k (opsI k x) = some x := by
  have ok := ok_shape (shape_of h1 h2)
  have hw := wrd_lt k h2
  obtain ⟨y, hy⟩ := enc_some (s := shp k) (ops := opsI k x) (L := partsL (shp k)) (w := BitVec.ofNat 64 (wrd k)) (fun p _ => ops_fit h1 h2 x p.1)
  have hb := enc_bit ok.inw hy
  have : y = x := by
    refine ext64 fun i hi => ?_
    rw [hb i hi]
    by_cases hi2 : i < 32
    · cases e : src (partsL (shp k)) i with
      | none =>
        have := ok.fix i hi2
        rw [e] at this
        rw [(match_iff h1 h2 hx).1 hm i hi2 this.symm]
        simp only
        rw [ofNat_bit hw i hi]
      | some q =>
        obtain ⟨p, hp, c1, c2, rfl⟩ := src_mem e
        have t := ok.top p hp
        have hj : hasJ p p.1 (p.2.1 + (i - p.2.2.2)) = true := by unfold hasJ; simp; omega
        simp only
        rw [ops_back, ops_bit h1 h2 x _ _ (by omega) (fun h3 => by have := ok.imm p hp h3; omega), raw_here h1 h2 x hp _ hj]
        congr 1
        omega
    · rw [src_out h1 h2 i (by omega)]
      simp only
      rw [ofNat_bit hw i hi, big_bit hw i (by omega), hi_of (n := 32) hx i (by omega)]
  rw [this] at hy
  exact hy
/-- What was encoded is decoded to the operands that the shape has. -/
theorem read_enc {k : Nat} (h1 : 1 ≤ k) (h2 : k ≤ 69) {ops : Nat → Int} {y : BitVec 64} (h : encK k ops = some y) (hr : ∀ o, -9223372036854775808 ≤ ops o ∧ ops o < 9223372036854775808) (o : Nat) : opsI k y o = if has (shp k) o then ops o else 0 := by
  have ok := ok_shape (shape_of h1 h2)
  obtain ⟨n1, n2⟩ := ok.nw
  have hb := enc_bit ok.inw h
  have hf := enc_fits h
  cases hh : has (shp k) o with
  | false =>
    have hz : rawB k y o = 0 := ext64 fun i hi => by
      rw [raw_out h1 h2 y o i hi]
      · simp
      · unfold has at hh
        unfold covers
        rw [List.any_eq_false] at hh ⊢
        intro p hp
        have := hh p hp
        simp only [Bool.not_eq_true] at this
        unfold hasJ
        rw [this]
        simp
    simp only [Bool.false_eq_true, if_false]
    unfold opsI opsB
    rw [hz]
    split
    · have : signB 0 (nW (shp k)) = 0 := ext64 fun i hi => by
        rw [sign_at _ _ n1 n2 i hi]; simp
      rw [this]; rfl
    · rfl
  | true =>
    simp only [if_true]
    have hh2 := hh
    unfold has at hh2
    obtain ⟨p, hp, hpo⟩ := List.any_eq_true.1 hh2
    have hpo : p.1 = o := by simpa using hpo
    have hfit := hf p hp
    rw [hpo] at hfit
    -- the bits that the word has
    have hcov : ∀ j, j < 64 → covers (shp k) o j = true → (rawB k y o).getLsbD j = (BitVec.ofInt 64 (ops o)).getLsbD j := by
      intro j hj hc
      unfold covers at hc
      obtain ⟨q, hq, hqj⟩ := List.any_eq_true.1 hc
      have hqo : q.1 = o := by unfold hasJ at hqj; simp at hqj; exact hqj.1.1
      subst hqo
      rw [raw_here h1 h2 y hq j hqj]
      unfold hasJ at hqj
      simp at hqj
      have t := ok.inw q hq
      unfold inW at t
      simp at t
      have hs := ok.here q hq (j - q.2.1) (by omega)
      rw [hb _ (by omega), hs]
      simp only
      congr 1
      omega
    have key : opsB k y o = BitVec.ofInt 64 (ops o) := by
      unfold fitB at hfit
      by_cases ho : o = 3
      · subst ho
        rw [if_pos rfl, Bool.and_eq_true, beq_iff_eq] at hfit
        obtain ⟨f1, f2⟩ := hfit
        have hd : ((nK (shp k) : Nat) : Int) ∣ ops 3 := Int.dvd_of_tmod_eq_zero f2
        have hlow : ∀ j, j < nW (shp k) → (rawB k y 3).getLsbD j = (BitVec.ofInt 64 (ops 3)).getLsbD j := by
          intro j hj
          cases hc : covers (shp k) 3 j with
          | true => exact hcov j (by omega) hc
          | false =>
            rcases ok.step hh j hj with h3 | h3
            · rw [hc] at h3; simp at h3
            · rw [raw_out h1 h2 y 3 j (by omega) hc, dvd_bit (by omega) h3 hd]
        cases hs : nS (shp k) with
        | true =>
          rw [hs, fits_s _ _ n1 n2, beq_iff_eq] at f1
          unfold opsB
          rw [if_pos ⟨rfl, hs⟩]
          refine ext64 fun i hi => ?_
          rw [sign_at _ _ n1 n2 i hi, hlow _ (by split <;> omega)]
          have f2 := congrArg (fun z => z.getLsbD i) f1
          rw [sign_at _ _ n1 n2 i hi] at f2
          exact f2
        | false =>
          rw [hs, fits_u _ _ n1 n2, Bool.and_eq_true, decide_eq_true_eq, decide_eq_true_eq] at f1
          obtain ⟨g1, g2⟩ := f1
          have h32 : 2 ^ nW (shp k) ≤ 2 ^ 32 := Nat.pow_le_pow_right (by decide) n2
          have ec : ((2 : Int) ^ nW (shp k)) = ((2 ^ nW (shp k) : Nat) : Int) := by simp
          rw [ec] at g2
          have hn : (BitVec.ofInt 64 (ops 3)).toNat < 2 ^ nW (shp k) := by
            rw [ofInt_small g1 (by omega)]; omega
          unfold opsB
          rw [if_neg (by simp [hs])]
          refine ext64 fun i hi => ?_
          by_cases hi2 : i < nW (shp k)
          · exact hlow i hi2
          · rw [hi_of hn i (by omega), hi_of (raw_imm h1 h2 y) i (by omega)]
      · rw [if_neg ho, show (5 : Int) = ((5 : Nat) : Int) from rfl, fits_u _ _ (by decide) (by decide), Bool.and_eq_true, decide_eq_true_eq, decide_eq_true_eq] at hfit
        obtain ⟨g1, g2⟩ := hfit
        have hn : (BitVec.ofInt 64 (ops o)).toNat < 2 ^ 5 := by
          rw [ofInt_small g1 (by omega)]; omega
        unfold opsB
        rw [if_neg (by simp [ho])]
        refine ext64 fun i hi => ?_
        by_cases hi2 : i < 5
        · have hreg := ok.reg p hp (by omega)
          refine hcov i hi ?_
          unfold covers
          exact List.any_eq_true.2 ⟨p, hp, by unfold hasJ; simp; omega⟩
        · rw [hi_of hn i (by omega), hi_of (n := 5) (raw_reg h1 h2 y ho) i (by omega)]
    unfold opsI
    rw [key, BitVec.toInt_ofInt]
    have := hr o
    simp only [Int.bmod]
    omega
/-- No word is two instructions'. -/
theorem match_one {j k : Nat} (hj : 1 ≤ j ∧ j ≤ 69) (hk : 1 ≤ k ∧ k ≤ 69) {x : BitVec 64} (h1 : matchB j x = true) (h2 : matchB k x = true) : j = k := by
  have all : ∀ j, j < 70 → ∀ k, k < 70 → (j = 0 ∨ k = 0 ∨ j = k ∨ wrd j &&& fixN (shp k) ≠ wrd k &&& fixN (shp j)) := by decide +kernel
  rcases all j (by omega) k (by omega) with h | h | h | h
  · omega
  · omega
  · exact h
  · exfalso
    refine h ?_
    unfold matchB at h1 h2
    rw [beq_iff_eq] at h1 h2
    have e : BitVec.ofNat 64 (wrd j) &&& BitVec.ofNat 64 (fixN (shp k)) = BitVec.ofNat 64 (wrd k) &&& BitVec.ofNat 64 (fixN (shp j)) := by
      rw [← h1, ← h2, BitVec.and_assoc, BitVec.and_assoc, BitVec.and_comm (BitVec.ofNat 64 (fixN (shp j)))]
    have e2 := congrArg BitVec.toNat e
    have oj := ok_shape (shape_of hj.1 hj.2)
    have okk := ok_shape (shape_of hk.1 hk.2)
    have l1 := oj.fixl
    have l2 := okk.fixl
    have l3 := wrd_lt j hj.2
    have l4 := wrd_lt k hk.2
    simp only [BitVec.toNat_and, BitVec.toNat_ofNat] at e2
    rw [Nat.mod_eq_of_lt (by omega), Nat.mod_eq_of_lt (by omega), Nat.mod_eq_of_lt (by omega), Nat.mod_eq_of_lt (by omega)] at e2
    exact e2
end Go.Proofs.YtlommbeokbicjaaGreatDoor.InstMath
