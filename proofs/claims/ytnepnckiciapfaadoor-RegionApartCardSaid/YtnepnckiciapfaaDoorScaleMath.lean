/-
  Plain mathematics of powers of two, for the layer 'scale': what Log, Zeros, Down, Up, Ones, Add, In answer, as functions on words of 64 bits (BitVec 64). No Go text here.
-/
import Derived.Test.YtnepnckiciapfaaDoorWords
namespace Go.Proofs.YtnepnckiciapfaaDoor.ScaleMath
open Go Words

/-! the indices of the bits that are 1 -/
def onesTo (x : BitVec 64) (k : Nat) : List Int := ((List.range k).filter (fun i => x.getLsbD i)).map (fun i : Nat => (i : Int))
def onesL (x : BitVec 64) : List Int := onesTo x 64
theorem onesTo_zero (x : BitVec 64) : onesTo x 0 = [] := rfl
theorem onesTo_hit (x : BitVec 64) (k : Nat) (h : x.getLsbD k = true) : onesTo x (k + 1) = onesTo x k ++ [(k : Int)] := by
  simp [onesTo, List.range_succ, List.filter_append, h]
theorem onesTo_miss (x : BitVec 64) (k : Nat) (h : x.getLsbD k = false) : onesTo x (k + 1) = onesTo x k := by
  simp [onesTo, List.range_succ, List.filter_append, h]
theorem onesTo_prefix (x : BitVec 64) (j k : Nat) (h : j ≤ k) : onesTo x j <+: onesTo x k := by
  induction k with
  | zero => obtain rfl : j = 0 := by omega
            exact List.prefix_refl _
  | succ k ih =>
    by_cases hj : j = k + 1
    · subst hj; exact List.prefix_refl _
    · refine (ih (by omega)).trans ?_
      cases hb : x.getLsbD k with
      | true => rw [onesTo_hit x k hb]; exact List.prefix_append _ _
      | false => rw [onesTo_miss x k hb]; exact List.prefix_refl _
theorem onesTo_mem (x : BitVec 64) (k : Nat) (y : Int) : y ∈ onesTo x k ↔ ∃ i : Nat, i < k ∧ x.getLsbD i = true ∧ y = (i : Int) := by
  simp only [onesTo, List.mem_map, List.mem_filter, List.mem_range]
  constructor
  · rintro ⟨i, ⟨h1, h2⟩, rfl⟩; exact ⟨i, h1, h2, rfl⟩
  · rintro ⟨i, h1, h2, rfl⟩; exact ⟨i, ⟨h1, h2⟩, rfl⟩
theorem onesTo_length (x : BitVec 64) (k : Nat) : (onesTo x k).length ≤ k := by
  have := List.length_filter_le (fun i => x.getLsbD i) (List.range k)
  simp only [List.length_range] at this
  simpa [onesTo] using this
theorem onesTo_lt (x : BitVec 64) (k : Nat) (hk : k < 64) (h : x.getLsbD k = true) : (onesTo x k).length < (onesL x).length := by
  have := (onesTo_prefix x (k + 1) 64 (by omega)).length_le
  rw [onesTo_hit x k h, List.length_append] at this
  exact this
/-- The greatest index, and the least. -/
def logI (x : BitVec 64) : Int := (onesL x).getLast?.getD (-1)
def zerosI (x : BitVec 64) : Int := (onesL x).head?.getD 64
theorem log_hit (x : BitVec 64) (k : Nat) (h1 : onesL x = onesTo x (k + 1)) (h : x.getLsbD k = true) : logI x = (k : Int) := by
  unfold logI; rw [h1, onesTo_hit x k h]; simp
theorem log_none (x : BitVec 64) (h1 : onesL x = onesTo x 0) : logI x = -1 := by unfold logI; rw [h1]; rfl
theorem zeros_hit (x : BitVec 64) (k : Nat) (hk : k < 64) (h1 : onesTo x k = []) (h : x.getLsbD k = true) : zerosI x = (k : Int) := by
  obtain ⟨l, hl⟩ := onesTo_prefix x (k + 1) 64 (by omega)
  unfold zerosI onesL; rw [← hl, onesTo_hit x k h, h1]; rfl
theorem zeros_none (x : BitVec 64) (h1 : onesL x = []) : zerosI x = 64 := by unfold zerosI; rw [h1]; rfl
theorem zeros_le (x : BitVec 64) (e : Nat) (he : e ≤ 64) (h : ∀ i, i < e → x.getLsbD i = false) : (e : Int) ≤ zerosI x := by
  unfold zerosI
  cases hl : onesL x with
  | nil => simp; omega
  | cons y l =>
    have hy : y ∈ onesTo x 64 := by rw [show onesTo x 64 = onesL x from rfl, hl]; simp
    obtain ⟨i, _, h2, rfl⟩ := (onesTo_mem x 64 y).1 hy
    have : ¬ i < e := fun hi => by rw [h i hi] at h2; cases h2
    simp; omega

/-! the sum of the powers -/
def sumB (l : List Int) : BitVec 64 := l.foldl (fun s y => s + 1#64 <<< y.toNat) 0#64
theorem sumB_snoc (l : List Int) (y : Int) : sumB (l ++ [y]) = sumB l + 1#64 <<< y.toNat := by simp [sumB]
theorem sumB_take (l : List Int) (k : Nat) (h : k < l.length) : sumB (l.take (k + 1)) = sumB (l.take k) + 1#64 <<< (l[k]).toNat := by
  rw [List.take_succ_eq_append_getElem h, sumB_snoc]
theorem sumB_ones (x : BitVec 64) (k : Nat) (hk : k ≤ 64) : sumB (onesTo x k) = BitVec.ofNat 64 (x.toNat % 2 ^ k) := by
  induction k with
  | zero => rw [onesTo_zero, Nat.pow_zero, Nat.mod_one]; rfl
  | succ k ih =>
    have hm : x.toNat % 2 ^ (k + 1) = x.toNat % 2 ^ k + 2 ^ k * (x.toNat.testBit k).toNat := by rw [Nat.mod_pow_succ, Nat.toNat_testBit]
    have hb : x.getLsbD k = x.toNat.testBit k := rfl
    cases h : x.getLsbD k with
    | true =>
      rw [onesTo_hit x k h, sumB_snoc, ih (by omega), hm, ← hb, h]
      apply BitVec.eq_of_toNat_eq
      rw [BitVec.toNat_add, BitVec.toNat_ofNat, BitVec.toNat_ofNat, BitVec.toNat_shiftLeft]
      simp [Nat.shiftLeft_eq]
    | false =>
      rw [onesTo_miss x k h, ih (by omega), hm, ← hb, h]
      simp
theorem sumB_all (x : BitVec 64) : sumB (onesL x) = x := by
  have := sumB_ones x 64 (Nat.le_refl _)
  rw [Nat.mod_eq_of_lt x.isLt] at this
  rw [show onesL x = onesTo x 64 from rfl, this]; simp
theorem ones_rise (x : BitVec 64) (k : Nat) : (onesTo x k).Pairwise (· < ·) := by
  unfold onesTo
  rw [List.pairwise_map]
  simpa only [Int.ofNat_lt] using List.Pairwise.filter _ List.pairwise_lt_range
theorem ones_next (x : BitVec 64) (i : Nat) (h : i + 1 < (onesL x).length) : (onesL x)[i] < (onesL x)[i + 1] :=
  List.pairwise_iff_getElem.1 (ones_rise x 64) i (i + 1) (by unfold onesL at h; omega) h (by omega)
theorem ones_range (x : BitVec 64) (i : Nat) (h : i < (onesL x).length) : 0 ≤ (onesL x)[i] ∧ (onesL x)[i] ≤ 63 := by
  obtain ⟨j, hj, _, e⟩ := (onesTo_mem x 64 (onesL x)[i]).1 (List.getElem_mem h)
  rw [e]; omega

/-! the multiple below -/
def downB (x : BitVec 64) (e : Int) : BitVec 64 := (x >>> e.toNat) <<< e.toNat
theorem down_bit (x : BitVec 64) (e : Int) (i : Nat) : (downB x e).getLsbD i = (decide (e ≤ i) && x.getLsbD i) := by
  unfold downB
  rw [BitVec.getLsbD_shiftLeft, BitVec.getLsbD_ushiftRight]
  by_cases h : e ≤ i
  · have e1 : ¬ i < e.toNat := by omega
    have e2 : e.toNat + (i - e.toNat) = i := by omega
    by_cases hi : i < 64
    · simp [h, e1, e2, hi]
    · have : x.getLsbD i = false := BitVec.getLsbD_of_ge x i (by omega)
      simp [hi, this]
  · have e1 : i < e.toNat := by omega
    simp [h, e1]
theorem down_nat (x : BitVec 64) (e : Int) : (downB x e).toNat = x.toNat / 2 ^ e.toNat * 2 ^ e.toNat := by
  unfold downB
  rw [BitVec.toNat_shiftLeft, BitVec.toNat_ushiftRight, Nat.shiftRight_eq_div_pow, Nat.shiftLeft_eq]
  exact Nat.mod_eq_of_lt (Nat.lt_of_le_of_lt (Nat.div_mul_le_self _ _) x.isLt)
theorem down_low (x : BitVec 64) (e : Int) (h : e ≤ 0) : downB x e = x := by
  unfold downB
  rw [show e.toNat = 0 by omega]; simp
theorem down_step (x : BitVec 64) (k : Nat) : downB x (k : Int) &&& ~~~(1#64 <<< k) = downB x ((k + 1 : Nat) : Int) := by
  refine ext64 fun i hi => ?_
  rw [BitVec.getLsbD_and, BitVec.getLsbD_not, BitVec.getLsbD_shiftLeft, BitVec.getLsbD_one, down_bit, down_bit]
  by_cases h1 : i < k
  · have e1 : ¬ (k : Int) ≤ i := by omega
    have e2 : ¬ ((k + 1 : Nat) : Int) ≤ i := by omega
    simp only [e1, e2, decide_false, Bool.false_and]
  · by_cases h2 : i = k
    · subst h2
      have e2 : ¬ ((i + 1 : Nat) : Int) ≤ i := by omega
      simp only [e2, decide_false, Bool.false_and]
      simp [hi]
    · have e1 : (k : Int) ≤ i := by omega
      have e2 : ((k + 1 : Nat) : Int) ≤ i := by omega
      have e3 : ¬ (i - k = 0) := by omega
      simp only [e1, e2, hi, h1, e3, decide_true, decide_false, Bool.not_false, Bool.and_false, Bool.and_true, Bool.true_and]
theorem down_high (x : BitVec 64) (e : Int) (h : 64 ≤ e) : downB x e = 0 := by
  refine ext64 fun i hi => ?_
  rw [down_bit, decide_eq_false (by omega)]; simp

theorem down_walk (x : BitVec 64) (e : Int) (k : Nat) (hk : k = min e.toNat 64) : IntKind.u64.wrap ((x.toNat : Int) / 2 ^ k * 2 ^ k) = ((downB x e).toNat : Int) := by
  rw [shr_bv, shl_bv]
  congr 2
  by_cases h : e.toNat ≤ 64
  · rw [show k = e.toNat by omega]; rfl
  · rw [down_high x e (by omega), show k = 64 by omega]
    have := down_high x 64 (by omega)
    exact this

/-! the multiple above -/
def upB (x : BitVec 64) (e : Int) : BitVec 64 × Bool :=
  if downB x e = x then (x, true)
  else if 63 < e then (0, false)
  else if (downB x e + 1#64 <<< e.toNat).toNat < (downB x e).toNat then (0, false)
  else (downB x e + 1#64 <<< e.toNat, true)
theorem pow_nat (k : Nat) (hk : k < 64) : (1#64 <<< k).toNat = 2 ^ k := by
  have h2 : 2 ^ k < 2 ^ 64 := Nat.pow_lt_pow_right (by decide) hk
  rw [BitVec.toNat_shiftLeft, Nat.shiftLeft_eq]; simp; omega
/-- A multiple of a power of two, below 2^64: another power fits still. -/
theorem mul_room (q k : Nat) (hk : k ≤ 64) (h : q * 2 ^ k < 2 ^ 64) : q * 2 ^ k + 2 ^ k ≤ 2 ^ 64 := by
  have e : (2 : Nat) ^ 64 = 2 ^ (64 - k) * 2 ^ k := by rw [← Nat.pow_add]; congr 1; omega
  rw [e] at h ⊢
  have hq : q < 2 ^ (64 - k) := Nat.lt_of_mul_lt_mul_right h
  rw [← Nat.succ_mul]
  exact Nat.mul_le_mul_right _ hq
theorem up_walk (x : BitVec 64) (e : Int) (h0 : 0 ≤ e) (h64 : e < 64) :
    upB x e = if 2 ^ 64 ≤ x.toNat + (2 ^ e.toNat - 1) then (0, false) else (downB (x + BitVec.ofNat 64 (2 ^ e.toNat - 1)) e, true) := by
  have hk : e.toNat < 64 := by omega
  have hd := down_nat x e
  have hx := x.isLt
  unfold upB
  have hp : 0 < 2 ^ e.toNat := Nat.two_pow_pos _
  have h2 : 2 ^ e.toNat < 2 ^ 64 := Nat.pow_lt_pow_right (by decide) hk
  have hdm := Nat.div_add_mod x.toNat (2 ^ e.toNat)
  have hm := Nat.mod_lt x.toNat hp
  have hroom := mul_room (x.toNat / 2 ^ e.toNat) e.toNat (by omega) (by rw [← hd]; exact (downB x e).isLt)
  have hu : (downB x e + 1#64 <<< e.toNat).toNat = (x.toNat / 2 ^ e.toNat * 2 ^ e.toNat + 2 ^ e.toNat) % 2 ^ 64 := by
    rw [BitVec.toNat_add, hd, pow_nat _ hk]
  have hs : (x + BitVec.ofNat 64 (2 ^ e.toNat - 1)).toNat = (x.toNat + (2 ^ e.toNat - 1)) % 2 ^ 64 := by
    rw [BitVec.toNat_add, BitVec.toNat_ofNat, Nat.mod_eq_of_lt (by omega : 2 ^ e.toNat - 1 < 2 ^ 64)]
  have hds := down_nat (x + BitVec.ofNat 64 (2 ^ e.toNat - 1)) e
  rw [hs] at hds
  have hne : ¬ (63 < e) := by omega
  rw [if_neg hne, hu, hd]
  have hcomm : x.toNat / 2 ^ e.toNat * 2 ^ e.toNat = 2 ^ e.toNat * (x.toNat / 2 ^ e.toNat) := Nat.mul_comm _ _
  have hfit : ∀ q', q' * 2 ^ e.toNat < 2 ^ 64 → q' * 2 ^ e.toNat + 2 ^ e.toNat ≤ 2 ^ 64 := fun q' h => mul_room q' e.toNat (by omega) h
  generalize 2 ^ e.toNat = P at *
  generalize hq : x.toNat / P = q at *
  generalize hr' : x.toNat % P = r at *
  have hquot : ∀ q' r', r' < P → (r' + P * q') / P = q' := fun q' r' h => by
    rw [Nat.add_mul_div_left _ _ hp, Nat.div_eq_of_lt h, Nat.zero_add]
  have hqP : q * P = P * q := Nat.mul_comm _ _
  have hqP1 : (q + 1) * P = P * (q + 1) := Nat.mul_comm _ _
  have hsq : (q + 1) * P = q * P + P := Nat.succ_mul _ _
  by_cases hr : r = 0
  · have e1 : downB x e = x := BitVec.eq_of_toNat_eq (by rw [hd]; omega)
    rw [if_pos e1, if_neg (by omega)]
    refine Prod.ext ?_ rfl
    apply BitVec.eq_of_toNat_eq
    show x.toNat = (downB _ e).toNat
    rw [hds, Nat.mod_eq_of_lt (by omega), show x.toNat + (P - 1) = (P - 1) + P * q by omega, hquot q (P - 1) (by omega)]; omega
  · have e1 : downB x e ≠ x := fun he => by
      have := congrArg BitVec.toNat he
      rw [hd] at this; omega
    rw [if_neg e1]
    by_cases ho : 2 ^ 64 ≤ x.toNat + (P - 1)
    · rw [if_pos ho]
      have h64 : q * P + P = 2 ^ 64 := by
        by_cases hl : q * P + P < 2 ^ 64
        · have := hfit (q + 1) (by omega)
          omega
        · omega
      rw [h64, Nat.mod_self, if_pos (by omega)]
    · rw [if_neg ho]
      have hl : q * P + P < 2 ^ 64 := by omega
      rw [Nat.mod_eq_of_lt hl, if_neg (by omega)]
      refine Prod.ext ?_ rfl
      apply BitVec.eq_of_toNat_eq
      show (downB x e + 1#64 <<< e.toNat).toNat = (downB _ e).toNat
      rw [hu, hds, Nat.mod_eq_of_lt hl, Nat.mod_eq_of_lt (by omega), show x.toNat + (P - 1) = (r - 1) + P * (q + 1) by omega, hquot (q + 1) (r - 1) (by omega)]; omega
theorem up_high (x : BitVec 64) (e : Int) (h : 64 ≤ e) : upB x e = if x = 0 then (0, true) else (0, false) := by
  unfold upB
  rw [down_high x e h]
  by_cases hx : x = 0
  · subst hx; simp
  · rw [if_neg (fun h => hx h.symm), if_pos (by omega), if_neg hx]
theorem up_low (x : BitVec 64) (e : Int) (h : e ≤ 0) : upB x e = (x, true) := by
  unfold upB; rw [down_low x e h, if_pos rfl]

theorem zeros_down (x : BitVec 64) (e : Int) (h : e ≤ 64) : e ≤ zerosI (downB x e) := by
  by_cases h0 : 0 ≤ e
  · have := zeros_le (downB x e) e.toNat (by omega) (fun i hi => by rw [down_bit, decide_eq_false (by omega)]; rfl)
    omega
  · have := zeros_le (downB x e) 0 (by omega) (fun i hi => by omega)
    omega
theorem down_le (x : BitVec 64) (e : Int) : (downB x e).toNat ≤ x.toNat := by rw [down_nat]; exact Nat.div_mul_le_self _ _
theorem down_gap (x : BitVec 64) (e : Int) (h0 : 0 ≤ e) (h : e < 64) : (x - downB x e).toNat < (1#64 <<< e.toNat).toNat := by
  have hl := down_le x e
  have hx := x.isLt
  rw [pow_nat _ (by omega), BitVec.toNat_sub]
  have : (2 ^ 64 - (downB x e).toNat + x.toNat) % 2 ^ 64 = x.toNat - (downB x e).toNat := by omega
  rw [this, down_nat, Nat.mul_comm]
  have := Nat.div_add_mod x.toNat (2 ^ e.toNat)
  have := Nat.mod_lt x.toNat (Nat.two_pow_pos e.toNat)
  omega
theorem up_not (x : BitVec 64) (e : Int) (h : (upB x e).2 = false) : (upB x e).1 = 0 ∧ downB x e ≠ x := by
  unfold upB at h ⊢
  by_cases h1 : downB x e = x
  · rw [if_pos h1] at h; cases h
  · rw [if_neg h1] at h ⊢
    by_cases h2 : 63 < e
    · rw [if_pos h2]; exact ⟨rfl, h1⟩
    · rw [if_neg h2] at h ⊢
      by_cases h3 : (downB x e + 1#64 <<< e.toNat).toNat < (downB x e).toNat
      · rw [if_pos h3]; exact ⟨rfl, h1⟩
      · rw [if_neg h3] at h; cases h
theorem up_is (x : BitVec 64) (e : Int) (h0 : 0 ≤ e) (h64 : e < 64) (h : (upB x e).2 = true) :
    x.toNat ≤ (upB x e).1.toNat ∧ ((upB x e).1 - downB x e).toNat ≤ (1#64 <<< e.toNat).toNat ∧ downB (upB x e).1 e = (upB x e).1 ∧ (downB x e = x → (upB x e).1 = x) := by
  have hgap := down_gap x e h0 h64
  have hle := down_le x e
  unfold upB at h ⊢
  by_cases h1 : downB x e = x
  · rw [if_pos h1]
    refine ⟨Nat.le_refl _, ?_, h1, fun _ => rfl⟩
    rw [h1]; simp
  · rw [if_neg h1] at h ⊢
    have h2 : ¬ 63 < e := by omega
    rw [if_neg h2] at h ⊢
    by_cases h3 : (downB x e + 1#64 <<< e.toNat).toNat < (downB x e).toNat
    · rw [if_pos h3] at h; cases h
    · rw [if_neg h3]
      have hd := down_nat x e
      have hp := pow_nat e.toNat (by omega)
      have hr := mul_room (x.toNat / 2 ^ e.toNat) e.toNat (by omega) (by rw [← hd]; exact (downB x e).isLt)
      have hx := x.isLt
      have hdl := (downB x e).isLt
      have hpos := Nat.two_pow_pos e.toNat
      have hs : (downB x e + 1#64 <<< e.toNat).toNat = (downB x e).toNat + 2 ^ e.toNat := by
        rw [BitVec.toNat_add, hp]
        rw [BitVec.toNat_add, hp] at h3
        rw [← hd] at hr
        rcases Nat.lt_or_ge ((downB x e).toNat + 2 ^ e.toNat) (2 ^ 64) with h4 | h4
        · exact Nat.mod_eq_of_lt h4
        · exfalso; apply h3
          rw [show (downB x e).toNat + 2 ^ e.toNat = 2 ^ 64 by omega, Nat.mod_self]; omega
      have hU := (downB x e + 1#64 <<< e.toNat).isLt
      refine ⟨?_, ?_, ?_, fun h => absurd h h1⟩
      · rw [BitVec.toNat_sub] at hgap
        show x.toNat ≤ (downB x e + 1#64 <<< e.toNat).toNat
        omega
      · show ((downB x e + 1#64 <<< e.toNat) - downB x e).toNat ≤ _
        rw [show downB x e + 1#64 <<< e.toNat - downB x e = 1#64 <<< e.toNat by rw [BitVec.add_comm, BitVec.add_sub_cancel]]
        exact Nat.le_refl _
      · apply BitVec.eq_of_toNat_eq
        show (downB (downB x e + 1#64 <<< e.toNat) e).toNat = (downB x e + 1#64 <<< e.toNat).toNat
        rw [down_nat, hs, hd, ← Nat.succ_mul, Nat.mul_div_cancel _ hpos]
theorem up_of_down (x : BitVec 64) (e : Int) (h : downB x e = x) : upB x e = (x, true) := by unfold upB; rw [if_pos h]

/-! sums and spans -/
def overB (x y : BitVec 64) : Bool := decide (18446744073709551616 ≤ x.toNat + y.toNat)
def inB (x y a b : BitVec 64) : Bool := decide (a.toNat ≤ x.toNat ∧ x.toNat + y.toNat ≤ b.toNat)
/-- All bits below e. -/
def stepB (e : Int) : BitVec 64 := BitVec.ofNat 64 (2 ^ min e.toNat 64 - 1)
theorem step_walk (e : Int) : IntKind.u64.wrap (IntKind.u64.wrap (2 ^ min e.toNat 64) - 1) = ((stepB e).toNat : Int) := by
  unfold stepB
  rw [BitVec.toNat_ofNat]
  have hm : min e.toNat 64 ≤ 64 := by omega
  generalize min e.toNat 64 = k at hm
  have hp : (0 : Nat) < 2 ^ k := Nat.two_pow_pos k
  have hc : ((2 : Int) ^ k) = ((2 ^ k : Nat) : Int) := by simp
  rw [hc, IntKind.wrap_u64, IntKind.wrap_u64]
  rcases Nat.lt_or_eq_of_le hm with h | h
  · have h2 : 2 ^ k < 2 ^ 64 := Nat.pow_lt_pow_right (by decide) h
    omega
  · subst h; decide
theorem up_all (x : BitVec 64) (e : Int) (h0 : 0 ≤ e) : upB x e = if overB x (stepB e) = true then (0, false) else (downB (x + stepB e) e, true) := by
  by_cases h : e < 64
  · have hm : min e.toNat 64 = e.toNat := by omega
    have h2 : 2 ^ e.toNat < 2 ^ 64 := Nat.pow_lt_pow_right (by decide) (by omega)
    have hp : (0 : Nat) < 2 ^ e.toNat := Nat.two_pow_pos _
    rw [up_walk x e h0 h]
    unfold overB stepB
    rw [hm, BitVec.toNat_ofNat, Nat.mod_eq_of_lt (by omega : 2 ^ e.toNat - 1 < 2 ^ 64)]
    simp only [decide_eq_true_eq]
  · have hs : stepB e = BitVec.ofNat 64 (2 ^ 64 - 1) := by unfold stepB; rw [show min e.toNat 64 = 64 by omega]
    have hn : (BitVec.ofNat 64 (2 ^ 64 - 1)).toNat = 18446744073709551615 := by decide
    rw [up_high x e (by omega), hs, down_high _ e (by omega)]
    unfold overB
    rw [hn]
    simp only [decide_eq_true_eq]
    by_cases hx : x = 0
    · subst hx
      rw [if_pos rfl, if_neg (by simp)]
    · have : x.toNat ≠ 0 := fun h => hx (BitVec.eq_of_toNat_eq h)
      rw [if_neg hx, if_pos (by omega)]
theorem add_bv (x y : BitVec 64) : IntKind.u64.wrap ((x.toNat : Int) + (y.toNat : Int)) = ((x + y).toNat : Int) := by
  have e : (2 : Nat) ^ 64 = 18446744073709551616 := rfl
  rw [IntKind.wrap_u64, BitVec.toNat_add, e]; omega
theorem sub_bv (x y : BitVec 64) : IntKind.u64.wrap ((x.toNat : Int) - (y.toNat : Int)) = ((x - y).toNat : Int) := by
  have := x.isLt
  have := y.isLt
  rw [IntKind.wrap_u64, BitVec.toNat_sub]; omega
theorem over_bv (x y : BitVec 64) : decide (((x + y).toNat : Int) < (x.toNat : Int)) = overB x y := by
  have := x.isLt
  have := y.isLt
  unfold overB
  rw [decide_eq_decide, BitVec.toNat_add]; omega
theorem in_yes (x y a b : BitVec 64) (h1 : a.toNat ≤ x.toNat) (h2 : ¬ overB x y = true) : decide (((x.toNat : Int) + (y.toNat : Int)) % 18446744073709551616 ≤ (b.toNat : Int)) = inB x y a b := by
  have := x.isLt
  have := y.isLt
  have := b.isLt
  simp only [overB, decide_eq_true_eq] at h2
  unfold inB
  rw [decide_eq_decide]; omega
theorem in_low (x y a b : BitVec 64) (h1 : ¬ a.toNat ≤ x.toNat) : false = inB x y a b := by
  unfold inB
  rw [eq_comm, decide_eq_false_iff_not]; omega
theorem in_over (x y a b : BitVec 64) (h2 : overB x y = true) : false = inB x y a b := by
  have := b.isLt
  simp only [overB, decide_eq_true_eq] at h2
  unfold inB
  rw [eq_comm, decide_eq_false_iff_not]; omega
theorem in_parts (x n k a b : BitVec 64) (h : k.toNat ≤ n.toNat) : inB x n a b = (!overB x k && inB x k a b && inB (x + k) (n - k) a b) := by
  have hx := x.isLt
  have hn := n.isLt
  have hb := b.isLt
  unfold inB overB
  have h2 : (n - k).toNat = n.toNat - k.toNat := by rw [BitVec.toNat_sub]; omega
  by_cases ho : 18446744073709551616 ≤ x.toNat + k.toNat
  · rw [decide_eq_true ho]
    simp only [Bool.not_true, Bool.false_and]
    rw [decide_eq_false_iff_not]; omega
  · rw [decide_eq_false ho]
    have h1 : (x + k).toNat = x.toNat + k.toNat := by rw [BitVec.toNat_add]; omega
    rw [h1, h2, Bool.not_false, Bool.true_and, ← Bool.decide_and, decide_eq_decide]
    omega
theorem in_one (x b c : BitVec 64) (h : c.toNat = (x.toNat + 1) % 18446744073709551616) : inB x 1#64 c b = false := by
  have hx := x.isLt
  have hb := b.isLt
  unfold inB
  rw [decide_eq_false_iff_not, show (1#64).toNat = 1 by decide]; omega
theorem in_end (x c : BitVec 64) : inB x 1#64 c x = false := by
  unfold inB
  rw [decide_eq_false_iff_not, show (1#64).toNat = 1 by decide]; omega
end Go.Proofs.YtnepnckiciapfaaDoor.ScaleMath
