/-
  Texts as lists of bytes: numerals, cuts at a blank, pieces between separators. No program text here.
-/
import Derived.Test.YtlommbeokbicjaaGreatDoorInstMath2
import Derived.Lib.ItoaLen
import Derived.Lib.ParseIntBTie
import Derived.Lib.ParseIntBCases
import Derived.Lib.SplitLaws
import Derived.Lib.IndexLaws
import Derived.Lib.CutLaws
import Derived.Lib.Join
namespace Go.Proofs.YtlommbeokbicjaaGreatDoor.AsmMath
open Go

/-- A text of these bytes. -/
def str (l : List UInt8) : ByteArray := ⟨l.toArray⟩
theorem str_data (l : List UInt8) : (str l).data.toList = l := by simp [str]
theorem str_toList (l : List UInt8) : (str l).toList = l := by rw [ByteArray.toList_eq]; exact str_data l
theorem str_size (l : List UInt8) : (str l).size = l.length := by simp [str, ByteArray.size]
theorem str_inj {a b : List UInt8} (h : str a = str b) : a = b := by
  have := congrArg (fun s => s.data.toList) h
  simpa [str_data] using this
theorem str_add (a b : List UInt8) : str a ++ str b = str (a ++ b) := by
  unfold str
  apply ByteArray.ext
  simp
theorem eq_str (s : ByteArray) : s = str s.data.toList := by
  cases s with | mk d => cases d with | mk x => rfl
theorem str_eq (a b : List UInt8) : ((str a).toList == (str b).toList) = (a == b) := by rw [str_toList, str_toList]

/-! numerals -/
open Go.Lib (itoa decDigits nDigits)
theorem dec_big {u : Nat} (h : ¬ u < 10) : decDigits u = decDigits (u / 10) ++ [UInt8.ofNat (48 + u % 10)] := by
  rw [decDigits, dif_neg h]
theorem dec_small {u : Nat} (h : u < 10) : decDigits u = [UInt8.ofNat (48 + u)] := by rw [decDigits, dif_pos h]
def isDig (b : UInt8) : Prop := 48 ≤ b.toNat ∧ b.toNat ≤ 57
theorem dig_of {k : Nat} (h : k < 10) : isDig (UInt8.ofNat (48 + k)) := by
  unfold isDig
  rw [UInt8.toNat_ofNat']
  omega
theorem dec_digs : ∀ (n u : Nat), u ≤ n → ∀ b ∈ decDigits u, isDig b
  | n, u, hn, b, hb => by
    by_cases h : u < 10
    · rw [dec_small h] at hb
      simp only [List.mem_singleton] at hb
      subst hb
      exact dig_of h
    · rw [dec_big h] at hb
      rcases List.mem_append.1 hb with hb | hb
      · match n, hn with
        | 0, hn => omega
        | n + 1, hn => exact dec_digs n (u / 10) (by omega) b hb
      · simp only [List.mem_singleton] at hb
        subst hb
        exact dig_of (by omega)
theorem dec_ne (u : Nat) : decDigits u ≠ [] := by
  intro e
  have h := Lib.decDigits_length u
  rw [e] at h
  have := Lib.nDigits_pos u
  simp at h
  omega
theorem itoa_nat (u : Nat) : itoa (u : Int) = decDigits u := by unfold itoa; rw [if_neg (by omega)]; simp
theorem itoa_neg {u : Nat} (h : 0 < u) : itoa (-(u : Int)) = 45 :: decDigits u := by unfold itoa; rw [if_pos (by omega)]; simp
theorem itoa_cases (n : Int) : (∃ u : Nat, n = u ∧ itoa n = decDigits u) ∨ (∃ u : Nat, 0 < u ∧ n = -(u : Int) ∧ itoa n = 45 :: decDigits u) := by
  by_cases h : 0 ≤ n
  · exact .inl ⟨n.toNat, by omega, by rw [← itoa_nat]; congr 1; omega⟩
  · exact .inr ⟨n.natAbs, by omega, by omega, by rw [← itoa_neg (by omega)]; congr 1; omega⟩
theorem itoa_bytes {n : Int} : ∀ b ∈ itoa n, b = 45 ∨ isDig b := by
  rcases itoa_cases n with ⟨u, _, e⟩ | ⟨u, _, _, e⟩
  · rw [e]; exact fun b hb => .inr (dec_digs u u (Nat.le_refl _) b hb)
  · rw [e]; intro b hb
    rcases List.mem_cons.1 hb with rfl | hb
    · exact .inl rfl
    · exact .inr (dec_digs u u (Nat.le_refl _) b hb)
theorem dec_last (u : Nat) : ∃ l b, decDigits u = l ++ [b] ∧ isDig b := by
  refine ⟨(decDigits u).dropLast, (decDigits u).getLast (dec_ne u), (List.dropLast_concat_getLast (dec_ne u)).symm, dec_digs u u (Nat.le_refl _) _ (List.getLast_mem _)⟩
theorem itoa_ne (n : Int) : itoa n ≠ [] := by
  rcases itoa_cases n with ⟨u, _, e⟩ | ⟨u, _, _, e⟩ <;> rw [e]
  · exact dec_ne u
  · simp
theorem itoa_last (n : Int) : ∃ l b, itoa n = l ++ [b] ∧ isDig b := by
  rcases itoa_cases n with ⟨u, _, e⟩ | ⟨u, _, _, e⟩
  · obtain ⟨l, b, h1, h2⟩ := dec_last u
    exact ⟨l, b, by rw [e, h1], h2⟩
  · obtain ⟨l, b, h1, h2⟩ := dec_last u
    exact ⟨45 :: l, b, by rw [e, h1]; rfl, h2⟩
theorem digits_le : ∀ (k u : Nat), u < 10 ^ (k + 1) → nDigits u ≤ k + 1
  | 0, u, h => by rw [Lib.nDigits_small (by simpa using h)]; omega
  | k + 1, u, h => by
    by_cases h1 : u < 10
    · rw [Lib.nDigits_small h1]; omega
    · rw [Lib.nDigits_big h1]
      have := digits_le k (u / 10) (by rw [Nat.pow_succ] at h; omega)
      omega
theorem dec_len {u : Nat} (h : u < 10000000000) : (decDigits u).length ≤ 10 := by
  rw [Lib.decDigits_length]
  exact digits_le 9 u h
theorem itoa_len {n : Int} (h : -10000000000 < n ∧ n < 10000000000) : (itoa n).length ≤ 11 := by
  rcases itoa_cases n with ⟨u, hu, e⟩ | ⟨u, _, hu, e⟩ <;> rw [e]
  · have := dec_len (u := u) (by omega); omega
  · have := dec_len (u := u) (by omega); simp; omega
theorem dec_45 {u : Nat} {b : UInt8} (h : b ∈ decDigits u) : b ≠ 45 := by
  have := dec_digs u u (Nat.le_refl _) b h
  rintro rfl
  exact absurd this.1 (by decide)
theorem dec_cons (u : Nat) : ∃ c r, decDigits u = c :: r ∧ isDig c := by
  cases e : decDigits u with
  | nil => exact absurd e (dec_ne u)
  | cons c r => exact ⟨c, r, rfl, dec_digs u u (Nat.le_refl _) c (by rw [e]; simp)⟩
theorem trim_itoa {n : Int} (h : -10000000000 < n ∧ n < 10000000000) : (Lib.trimPrefix (itoa n) [45]).length ≤ 10 := by
  rcases itoa_cases n with ⟨u, hu, e⟩ | ⟨u, _, hu, e⟩ <;> rw [e]
  · have := Lib.trimPrefix_le (decDigits u) [45]
    have := dec_len (u := u) (by omega)
    omega
  · unfold Lib.trimPrefix
    rw [if_pos (by simp [Lib.hasPrefix, List.isPrefixOf])]
    have := dec_len (u := u) (by omega)
    simpa using this

/-! what is parsed -/
theorem parse_snoc {M : Nat} {c : UInt8} (hc : isDig c) : ∀ (l : List UInt8) (a v : Nat), Lib.parseUintM M a l = .ok v → v < 1844674407370955162 → v * 10 + (c.toNat - 48) ≤ M → Lib.parseUintM M a (l ++ [c]) = .ok (v * 10 + (c.toNat - 48))
  | [], a, v, h, h1, h2 => by
    simp only [Lib.parseUintM] at h
    injection h with h
    subst h
    show Lib.parseUintM M a [c] = _
    have hc' : 48 ≤ c.toNat ∧ c.toNat ≤ 57 := hc
    unfold Lib.parseUintM
    rw [if_pos hc', if_neg (by omega), if_neg (by omega)]
    unfold Lib.parseUintM
    rfl
  | b :: l, a, v, h, h1, h2 => by
    show Lib.parseUintM M a (b :: (l ++ [c])) = _
    unfold Lib.parseUintM at h ⊢
    split at h
    · rename_i hb
      rw [if_pos hb]
      split at h
      · cases h
      · rename_i h3
        rw [if_neg h3]
        split at h
        · cases h
        · rename_i h4
          rw [if_neg h4]
          exact parse_snoc hc l _ v h h1 h2
    · cases h
theorem dig_val {k : Nat} (h : k < 10) : (UInt8.ofNat (48 + k)).toNat - 48 = k := by rw [UInt8.toNat_ofNat']; omega
theorem parse_dec : ∀ (n u : Nat), u ≤ n → u ≤ 18446744073709551615 → Lib.parseUintM 18446744073709551615 0 (decDigits u) = .ok u
  | n, u, hn, hM => by
    by_cases h : u < 10
    · rw [dec_small h]
      have h1 := parse_snoc (M := 18446744073709551615) (dig_of h) [] 0 0 rfl (by omega) (by rw [dig_val h]; omega)
      rw [dig_val h] at h1
      simpa using h1
    · match n, hn with
      | 0, hn => omega
      | n + 1, hn =>
        rw [dec_big h]
        have h1 := parse_dec n (u / 10) (by omega) (by omega)
        have hk : u % 10 < 10 := by omega
        have h2 := parse_snoc (M := 18446744073709551615) (dig_of hk) _ 0 _ h1 (by omega) (by rw [dig_val hk]; omega)
        rw [dig_val hk] at h2
        rw [h2]
        congr 1
        omega
theorem parseU_dec {u : Nat} (h : u ≤ 18446744073709551615) : Lib.parseUintB 64 (decDigits u) = .ok u := by
  unfold Lib.parseUintB
  rw [if_neg (dec_ne u)]
  exact parse_dec u u (Nat.le_refl _) h
theorem dig_ne {c : UInt8} (h : isDig c) : c.toNat ≠ 43 ∧ c.toNat ≠ 45 := by unfold isDig at h; omega
theorem parse_itoa {n : Int} (h : -9223372036854775808 ≤ n ∧ n < 9223372036854775808) : Lib.parseIntB 64 (itoa n) = .ok n := by
  rcases itoa_cases n with ⟨u, hu, e⟩ | ⟨u, hp, hu, e⟩ <;> rw [e]
  · obtain ⟨c, r, hc, hd⟩ := dec_cons u
    have hp := parseU_dec (u := u) (by omega)
    obtain ⟨h43, h45⟩ := dig_ne hd
    rw [hc] at hp ⊢
    unfold Lib.parseIntB
    dsimp only
    rw [if_neg (by omega), hp]
    dsimp only
    rw [if_neg (by simp; omega), if_neg (by simp; omega), if_neg (by omega), hu]
  · have hq := parseU_dec (u := u) (by omega)
    unfold Lib.parseIntB
    dsimp only
    rw [if_pos (by decide), hq]
    dsimp only
    rw [if_neg (by simp), if_neg (by simp; omega), if_pos (by decide), hu]

/-! where a separator stands -/
open Go.Lib (index indexB countB splitB occAt NoOcc)
theorem occ_not {c : UInt8} {tl : List UInt8} {r s : List UInt8} (h : c ∉ r) {j : Nat} (hj : j < r.length) : occAt (r ++ s) (c :: tl) j = false := by
  unfold occAt
  rw [List.drop_append_of_le_length (by omega), List.drop_eq_getElem_cons hj, List.cons_append]
  have : ¬ c = r[j] := fun e => h (e ▸ List.getElem_mem hj)
  simp [List.isPrefixOf, this]
theorem index_sep {c : UInt8} {tl : List UInt8} {r t : List UInt8} (h : c ∉ r) : index (r ++ (c :: tl) ++ t) (c :: tl) = r.length := by
  refine Lib.index_hit (i := r.length) (fun j hj => ?_) (by simp) ?_
  · rw [List.append_assoc]; exact occ_not h hj
  · unfold occAt
    rw [List.append_assoc, List.drop_left]
    rw [List.isPrefixOf_iff_prefix]
    exact List.prefix_append _ _
theorem index_none {c : UInt8} {tl : List UInt8} : ∀ {r : List UInt8}, c ∉ r → index r (c :: tl) = -1
  | [], _ => rfl
  | b :: r, h => by
    have hb : ¬ c = b := fun e => h (by simp [e])
    have ih := index_none (c := c) (tl := tl) (r := r) (fun e => h (by simp [e]))
    unfold index
    simp [List.isPrefixOf, hb, ih]
theorem indexB_sep {c : UInt8} {tl : List UInt8} {r t : List UInt8} (h : c ∉ r) : indexB (str (r ++ (c :: tl) ++ t)) (str (c :: tl)) = r.length := by
  unfold indexB
  rw [str_data, str_data]
  exact index_sep h
theorem indexB_none {c : UInt8} {tl : List UInt8} {r : List UInt8} (h : c ∉ r) : indexB (str r) (str (c :: tl)) = -1 := by
  unfold indexB
  rw [str_data, str_data]
  exact index_none h
theorem str_extract (l : List UInt8) (a b : Nat) : (str l).extract a b = str ((l.drop a).take (b - a)) := by
  rw [Lib.extract_eq, str_data]; rfl
theorem rest_sep (r s t : List UInt8) : (str (r ++ s ++ t)).extract (r.length + s.length) (str (r ++ s ++ t)).size = str t := by
  rw [str_extract, str_size]
  congr 1
  rw [show r.length + s.length = (r ++ s).length by simp, List.drop_left, List.take_of_length_le (by simp; omega)]
theorem head_sep (r s : List UInt8) : (str (r ++ s)).extract 0 (r.length + 0) = str r := by
  rw [str_extract]
  congr 1
  simp
/-- Pieces with a separator between. -/
def joinS (sep : List UInt8) : List (List UInt8) → List UInt8
  | [] => []
  | [x] => x
  | x :: y :: r => x ++ sep ++ joinS sep (y :: r)
theorem joinS_is (sep : List UInt8) : ∀ l, Lib.join l sep = joinS sep l
  | [] => rfl
  | [x] => Lib.join_one x sep
  | x :: y :: r => by
    have h := joinS_is sep (y :: r)
    rw [Lib.join_cons] at h ⊢
    unfold joinS
    rw [← h]
    simp [Lib.joinTail]
theorem count_pieces {c : UInt8} {tl : List UInt8} : ∀ {l : List (List UInt8)}, l ≠ [] → (∀ r ∈ l, c ∉ r) → countB (str (joinS (c :: tl) l)) (str (c :: tl)) + 1 = l.length
  | [], h, _ => absurd rfl h
  | [x], _, h => by
    show countB (str x) (str (c :: tl)) + 1 = 1
    rw [Lib.countB_miss _ _ (indexB_none (h x (by simp)))]
  | x :: y :: r, _, h => by
    have ih := count_pieces (c := c) (tl := tl) (l := y :: r) (by simp) (fun q hq => h q (by simp [hq]))
    unfold joinS
    rw [Lib.countB_hit _ _ x.length (by rw [str_size]; simp) (indexB_sep (h x (by simp))), str_size (c :: tl), rest_sep]
    simp at ih ⊢
    omega
theorem split_pieces {c : UInt8} {tl : List UInt8} : ∀ {l : List (List UInt8)} (k : Nat), l ≠ [] → (∀ r ∈ l, c ∉ r) → l.length ≤ k + 1 → splitB (str (c :: tl)) 0 k (str (joinS (c :: tl) l)) = l.map str
  | [], _, h, _, _ => absurd rfl h
  | [x], k, _, h, _ => by
    show splitB (str (c :: tl)) 0 k (str x) = [str x]
    rw [Lib.splitB_miss _ _ _ _ (indexB_none (h x (by simp)))]
  | x :: y :: r, 0, _, _, h => by simp at h
  | x :: y :: r, k + 1, _, h, hk => by
    have ih := split_pieces (c := c) (tl := tl) (l := y :: r) k (by simp) (fun q hq => h q (by simp [hq])) (by simpa using hk)
    unfold joinS
    rw [Lib.splitB_hit _ _ _ _ x.length (indexB_sep (h x (by simp))), str_size (c :: tl), rest_sep, ih, List.append_assoc, head_sep]
    rfl
theorem cut_at {c : UInt8} {r t : List UInt8} (h : c ∉ r) : Lib.cut (r ++ c :: t) [c] = (r, t, true) := by
  have e : index (r ++ c :: t) [c] = r.length := by
    have := index_sep (c := c) (tl := []) (r := r) (t := t) h
    simpa using this
  unfold Lib.cut
  rw [e, if_pos (by omega)]
  simp
theorem cut_none {c : UInt8} {r : List UInt8} (h : c ∉ r) : Lib.cut r [c] = (r, [], false) := by
  unfold Lib.cut
  rw [index_none h, if_neg (by omega)]
theorem join_min (sep : List UInt8) : ∀ (l : List (List UInt8)), (∀ r ∈ l, r ≠ []) → l.length ≤ (joinS sep l).length
  | [], _ => by simp
  | [x], h => by
    have := List.length_pos_iff.2 (h x (by simp))
    simp [joinS]; omega
  | x :: y :: r, h => by
    have h1 := List.length_pos_iff.2 (h x (by simp))
    have ih := join_min sep (y :: r) (fun q hq => h q (by simp [hq]))
    unfold joinS
    simp only [List.length_append, List.length_cons] at ih ⊢
    omega
theorem joinS_len (sep : List UInt8) : ∀ (l : List (List UInt8)) (B : Nat), (∀ r ∈ l, r.length ≤ B) → (joinS sep l).length ≤ l.length * (B + sep.length)
  | [], _, _ => by simp [joinS]
  | [x], B, h => by have := h x (by simp); simp [joinS]; omega
  | x :: y :: r, B, h => by
    have h1 := h x (by simp)
    have ih := joinS_len sep (y :: r) B (fun q hq => h q (by simp [hq]))
    unfold joinS
    simp only [List.length_append, List.length_cons, Nat.succ_mul] at ih ⊢
    omega
end Go.Proofs.YtlommbeokbicjaaGreatDoor.AsmMath
