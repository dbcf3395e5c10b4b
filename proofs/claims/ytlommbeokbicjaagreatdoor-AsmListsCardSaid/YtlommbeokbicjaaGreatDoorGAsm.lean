/-
  Texts laid one behind the other: AsmMath, AsmSmall, AsmLine.
  Texts as lists of bytes: numerals, cuts at a blank, pieces between separators. No program text here.
  What texts are to a walk; letters, digits and names of marks; the operands of a shape.
  The text of an instruction, and what its pieces are; lines of a program. No program text here.
-/
import Derived.Test.YtlommbeokbicjaaGreatDoorGIm
import Derived.Lib.ItoaLen
import Derived.Lib.ParseIntBTie
import Derived.Lib.ParseIntBCases
import Derived.Lib.SplitLaws
import Derived.Lib.IndexLaws
import Derived.Lib.CutLaws
import Derived.Lib.Join
import Derived.Test.YtlommbeokbicjaaGreatDoorGInst
import Derived.Lib.AppendIntMem
import Derived.Lib.TrimByte
namespace Go.Proofs.YtlommbeokbicjaaGreatDoor.AsmMath
open Go

/-- A text of these bytes. -/
def str (l : List UInt8) : ByteArray := ⟨l.toArray⟩
theorem str_data (l : List UInt8) : (str l).data.toList = l := by simp [str]
theorem str_toList (l : List UInt8) : (str l).toList = l := by rw [ByteArray.toList_eq]; exact str_data l
theorem str_size (l : List UInt8) : (str l).size = l.length := by simp [str, ByteArray.size]
theorem str_inj {a b : List UInt8} (h : str a = str b) : a = b := by
  have := congrArg (fun s => s.data.toList) h
  simpa [str_data] using this
theorem str_add (a b : List UInt8) : str a ++ str b = str (a ++ b) := by
  unfold str
  apply ByteArray.ext
  simp
theorem eq_str (s : ByteArray) : s = str s.data.toList := by
  cases s with | mk d => cases d with | mk x => rfl
theorem str_eq (a b : List UInt8) : ((str a).toList == (str b).toList) = (a == b) := by rw [str_toList, str_toList]

/-! numerals -/
open Go.Lib (itoa decDigits nDigits)
theorem dec_big {u : Nat} (h : ¬ u < 10) : decDigits u = decDigits (u / 10) ++ [UInt8.ofNat (48 + u % 10)] := by
  rw [decDigits, dif_neg h]
theorem dec_small {u : Nat} (h : u < 10) : decDigits u = [UInt8.ofNat (48 + u)] := by rw [decDigits, dif_pos h]
def isDig (b : UInt8) : Prop := 48 ≤ b.toNat ∧ b.toNat ≤ 57
theorem dig_of {k : Nat} (h : k < 10) : isDig (UInt8.ofNat (48 + k)) := by
  unfold isDig
  rw [UInt8.toNat_ofNat']
  omega
theorem dec_digs : ∀ (n u : Nat), u ≤ n → ∀ b ∈ decDigits u, isDig b
  | n, u, hn, b, hb => by
    by_cases h : u < 10
    · rw [dec_small h] at hb
      simp only [List.mem_singleton] at hb
      subst hb
      exact dig_of h
    · rw [dec_big h] at hb
      rcases List.mem_append.1 hb with hb | hb
      · match n, hn with
        | 0, hn => omega
        | n + 1, hn => exact dec_digs n (u / 10) (by omega) b hb
      · simp only [List.mem_singleton] at hb
        subst hb
        exact dig_of (by omega)
theorem dec_ne (u : Nat) : decDigits u ≠ [] := by
  intro e
  have h := Lib.decDigits_length u
  rw [e] at h
  have := Lib.nDigits_pos u
  simp at h
  omega
theorem itoa_nat (u : Nat) : itoa (u : Int) = decDigits u := by unfold itoa; rw [if_neg (by omega)]; simp
theorem itoa_neg {u : Nat} (h : 0 < u) : itoa (-(u : Int)) = 45 :: decDigits u := by unfold itoa; rw [if_pos (by omega)]; simp
theorem itoa_cases (n : Int) : (∃ u : Nat, n = u ∧ itoa n = decDigits u) ∨ (∃ u : Nat, 0 < u ∧ n = -(u : Int) ∧ itoa n = 45 :: decDigits u) := by
  by_cases h : 0 ≤ n
  · exact .inl ⟨n.toNat, by omega, by rw [← itoa_nat]; congr 1; omega⟩
  · exact .inr ⟨n.natAbs, by omega, by omega, by rw [← itoa_neg (by omega)]; congr 1; omega⟩
theorem itoa_bytes {n : Int} : ∀ b ∈ itoa n, b = 45 ∨ isDig b := by
  rcases itoa_cases n with ⟨u, _, e⟩ | ⟨u, _, _, e⟩
  · rw [e]; exact fun b hb => .inr (dec_digs u u (Nat.le_refl _) b hb)
  · rw [e]; intro b hb
    rcases List.mem_cons.1 hb with rfl | hb
    · exact .inl rfl
    · exact .inr (dec_digs u u (Nat.le_refl _) b hb)
theorem dec_last (u : Nat) : ∃ l b, decDigits u = l ++ [b] ∧ isDig b := by
  refine ⟨(decDigits u).dropLast, (decDigits u).getLast (dec_ne u), (List.dropLast_concat_getLast (dec_ne u)).symm, dec_digs u u (Nat.le_refl _) _ (List.getLast_mem _)⟩
theorem itoa_ne (n : Int) : itoa n ≠ [] := by
  rcases itoa_cases n with ⟨u, _, e⟩ | ⟨u, _, _, e⟩ <;> rw [e]
  · exact dec_ne u
  · simp
theorem itoa_last (n : Int) : ∃ l b, itoa n = l ++ [b] ∧ isDig b := by
  rcases itoa_cases n with ⟨u, _, e⟩ | ⟨u, _, _, e⟩
  · obtain ⟨l, b, h1, h2⟩ := dec_last u
    exact ⟨l, b, by rw [e, h1], h2⟩
  · obtain ⟨l, b, h1, h2⟩ := dec_last u
    exact ⟨45 :: l, b, by rw [e, h1]; rfl, h2⟩
theorem digits_le : ∀ (k u : Nat), u < 10 ^ (k + 1) → nDigits u ≤ k + 1
  | 0, u, h => by rw [Lib.nDigits_small (by simpa using h)]; omega
  | k + 1, u, h => by
    by_cases h1 : u < 10
    · rw [Lib.nDigits_small h1]; omega
    · rw [Lib.nDigits_big h1]
      have := digits_le k (u / 10) (by rw [Nat.pow_succ] at h; omega)
      omega
theorem dec_len {u : Nat} (h : u < 10000000000) : (decDigits u).length ≤ 10 := by
  rw [Lib.decDigits_length]
  exact digits_le 9 u h
theorem itoa_len {n : Int} (h : -10000000000 < n ∧ n < 10000000000) : (itoa n).length ≤ 11 := by
  rcases itoa_cases n with ⟨u, hu, e⟩ | ⟨u, _, hu, e⟩ <;> rw [e]
  · have := dec_len (u := u) (by omega); omega
  · have := dec_len (u := u) (by omega); simp; omega
theorem dec_45 {u : Nat} {b : UInt8} (h : b ∈ decDigits u) : b ≠ 45 := by
  have := dec_digs u u (Nat.le_refl _) b h
  rintro rfl
  exact absurd this.1 (by decide)
theorem dec_cons (u : Nat) : ∃ c r, decDigits u = c :: r ∧ isDig c := by
  cases e : decDigits u with
  | nil => exact absurd e (dec_ne u)
  | cons c r => exact ⟨c, r, rfl, dec_digs u u (Nat.le_refl _) c (by rw [e]; simp)⟩
theorem trim_itoa {n : Int} (h : -10000000000 < n ∧ n < 10000000000) : (Lib.trimPrefix (itoa n) [45]).length ≤ 10 := by
  rcases itoa_cases n with ⟨u, hu, e⟩ | ⟨u, _, hu, e⟩ <;> rw [e]
  · have := Lib.trimPrefix_le (decDigits u) [45]
    have := dec_len (u := u) (by omega)
    omega
  · unfold Lib.trimPrefix
    rw [if_pos (by simp [Lib.hasPrefix, List.isPrefixOf])]
    have := dec_len (u := u) (by omega)
    simpa using this

/-! what is parsed -/
theorem parse_snoc {M : Nat} {c : UInt8} (hc : isDig c) : ∀ (l : List UInt8) (a v : Nat), Lib.parseUintM M a l = .ok v → v < 1844674407370955162 → v * 10 + (c.toNat - 48) ≤ M → Lib.parseUintM M a (l ++ [c]) = .ok (v * 10 + (c.toNat - 48))
  | [], a, v, h, h1, h2 => by
    simp only [Lib.parseUintM] at h
    injection h with h
    subst h
    show Lib.parseUintM M a [c] = _
    have hc' : 48 ≤ c.toNat ∧ c.toNat ≤ 57 := hc
    unfold Lib.parseUintM
    rw [if_pos hc', if_neg (by omega), if_neg (by omega)]
    unfold Lib.parseUintM
    rfl
  | b :: l, a, v, h, h1, h2 => by
    show Lib.parseUintM M a (b :: (l ++ [c])) = _
    unfold Lib.parseUintM at h ⊢
    split at h
    · rename_i hb
      rw [if_pos hb]
      split at h
      · cases h
      · rename_i h3
        rw [if_neg h3]
        split at h
        · cases h
        · rename_i h4
          rw [if_neg h4]
          exact parse_snoc hc l _ v h h1 h2
    · cases h
theorem dig_val {k : Nat} (h : k < 10) : (UInt8.ofNat (48 + k)).toNat - 48 = k := by rw [UInt8.toNat_ofNat']; omega
theorem parse_dec : ∀ (n u : Nat), u ≤ n → u ≤ 18446744073709551615 → Lib.parseUintM 18446744073709551615 0 (decDigits u) = .ok u
  | n, u, hn, hM => by
    by_cases h : u < 10
    · rw [dec_small h]
      have h1 := parse_snoc (M := 18446744073709551615) (dig_of h) [] 0 0 rfl (by omega) (by rw [dig_val h]; omega)
      rw [dig_val h] at h1
      simpa using h1
    · match n, hn with
      | 0, hn => omega
      | n + 1, hn =>
        rw [dec_big h]
        have h1 := parse_dec n (u / 10) (by omega) (by omega)
        have hk : u % 10 < 10 := by omega
        have h2 := parse_snoc (M := 18446744073709551615) (dig_of hk) _ 0 _ h1 (by omega) (by rw [dig_val hk]; omega)
        rw [dig_val hk] at h2
        rw [h2]
        congr 1
        omega
theorem parseU_dec {u : Nat} (h : u ≤ 18446744073709551615) : Lib.parseUintB 64 (decDigits u) = .ok u := by
  unfold Lib.parseUintB
  rw [if_neg (dec_ne u)]
  exact parse_dec u u (Nat.le_refl _) h
theorem dig_ne {c : UInt8} (h : isDig c) : c.toNat ≠ 43 ∧ c.toNat ≠ 45 := by unfold isDig at h; omega
theorem parse_itoa {n : Int} (h : -9223372036854775808 ≤ n ∧ n < 9223372036854775808) : Lib.parseIntB 64 (itoa n) = .ok n := by
  rcases itoa_cases n with ⟨u, hu, e⟩ | ⟨u, hp, hu, e⟩ <;> rw [e]
  · obtain ⟨c, r, hc, hd⟩ := dec_cons u
    have hp := parseU_dec (u := u) (by omega)
    obtain ⟨h43, h45⟩ := dig_ne hd
    rw [hc] at hp ⊢
    unfold Lib.parseIntB
    dsimp only
    rw [if_neg (by omega), hp]
    dsimp only
    rw [if_neg (by simp; omega), if_neg (by simp; omega), if_neg (by omega), hu]
  · have hq := parseU_dec (u := u) (by omega)
    unfold Lib.parseIntB
    dsimp only
    rw [if_pos (by decide), hq]
    dsimp only
    rw [if_neg (by simp), if_neg (by simp; omega), if_pos (by decide), hu]

/-! where a separator stands -/
open Go.Lib (index indexB countB splitB occAt NoOcc)
theorem occ_not {c : UInt8} {tl : List UInt8} {r s : List UInt8} (h : c ∉ r) {j : Nat} (hj : j < r.length) : occAt (r ++ s) (c :: tl) j = false := by
  unfold occAt
  rw [List.drop_append_of_le_length (by omega), List.drop_eq_getElem_cons hj, List.cons_append]
  have : ¬ c = r[j] := fun e => h (e ▸ List.getElem_mem hj)
  simp [List.isPrefixOf, this]
theorem index_sep {c : UInt8} {tl : List UInt8} {r t : List UInt8} (h : c ∉ r) : index (r ++ (c :: tl) ++ t) (c :: tl) = r.length := by
  refine Lib.index_hit (i := r.length) (fun j hj => ?_) (by simp) ?_
  · rw [List.append_assoc]; exact occ_not h hj
  · unfold occAt
    rw [List.append_assoc, List.drop_left]
    rw [List.isPrefixOf_iff_prefix]
    exact List.prefix_append _ _
theorem index_none {c : UInt8} {tl : List UInt8} : ∀ {r : List UInt8}, c ∉ r → index r (c :: tl) = -1
  | [], _ => rfl
  | b :: r, h => by
    have hb : ¬ c = b := fun e => h (by simp [e])
    have ih := index_none (c := c) (tl := tl) (r := r) (fun e => h (by simp [e]))
    unfold index
    simp [List.isPrefixOf, hb, ih]
theorem indexB_sep {c : UInt8} {tl : List UInt8} {r t : List UInt8} (h : c ∉ r) : indexB (str (r ++ (c :: tl) ++ t)) (str (c :: tl)) = r.length := by
  unfold indexB
  rw [str_data, str_data]
  exact index_sep h
theorem indexB_none {c : UInt8} {tl : List UInt8} {r : List UInt8} (h : c ∉ r) : indexB (str r) (str (c :: tl)) = -1 := by
  unfold indexB
  rw [str_data, str_data]
  exact index_none h
theorem str_extract (l : List UInt8) (a b : Nat) : (str l).extract a b = str ((l.drop a).take (b - a)) := by
  rw [Lib.extract_eq, str_data]; rfl
theorem rest_sep (r s t : List UInt8) : (str (r ++ s ++ t)).extract (r.length + s.length) (str (r ++ s ++ t)).size = str t := by
  rw [str_extract, str_size]
  congr 1
  rw [show r.length + s.length = (r ++ s).length by simp, List.drop_left, List.take_of_length_le (by simp; omega)]
theorem head_sep (r s : List UInt8) : (str (r ++ s)).extract 0 (r.length + 0) = str r := by
  rw [str_extract]
  congr 1
  simp
/-- Pieces with a separator between. -/
def joinS (sep : List UInt8) : List (List UInt8) → List UInt8
  | [] => []
  | [x] => x
  | x :: y :: r => x ++ sep ++ joinS sep (y :: r)
theorem joinS_is (sep : List UInt8) : ∀ l, Lib.join l sep = joinS sep l
  | [] => rfl
  | [x] => Lib.join_one x sep
  | x :: y :: r => by
    have h := joinS_is sep (y :: r)
    rw [Lib.join_cons] at h ⊢
    unfold joinS
    rw [← h]
    simp [Lib.joinTail]
theorem count_pieces {c : UInt8} {tl : List UInt8} : ∀ {l : List (List UInt8)}, l ≠ [] → (∀ r ∈ l, c ∉ r) → countB (str (joinS (c :: tl) l)) (str (c :: tl)) + 1 = l.length
  | [], h, _ => absurd rfl h
  | [x], _, h => by
    show countB (str x) (str (c :: tl)) + 1 = 1
    rw [Lib.countB_miss _ _ (indexB_none (h x (by simp)))]
  | x :: y :: r, _, h => by
    have ih := count_pieces (c := c) (tl := tl) (l := y :: r) (by simp) (fun q hq => h q (by simp [hq]))
    unfold joinS
    rw [Lib.countB_hit _ _ x.length (by rw [str_size]; simp) (indexB_sep (h x (by simp))), str_size (c :: tl), rest_sep]
    simp at ih ⊢
    omega
theorem split_pieces {c : UInt8} {tl : List UInt8} : ∀ {l : List (List UInt8)} (k : Nat), l ≠ [] → (∀ r ∈ l, c ∉ r) → l.length ≤ k + 1 → splitB (str (c :: tl)) 0 k (str (joinS (c :: tl) l)) = l.map str
  | [], _, h, _, _ => absurd rfl h
  | [x], k, _, h, _ => by
    show splitB (str (c :: tl)) 0 k (str x) = [str x]
    rw [Lib.splitB_miss _ _ _ _ (indexB_none (h x (by simp)))]
  | x :: y :: r, 0, _, _, h => by simp at h
  | x :: y :: r, k + 1, _, h, hk => by
    have ih := split_pieces (c := c) (tl := tl) (l := y :: r) k (by simp) (fun q hq => h q (by simp [hq])) (by simpa using hk)
    unfold joinS
    rw [Lib.splitB_hit _ _ _ _ x.length (indexB_sep (h x (by simp))), str_size (c :: tl), rest_sep, ih, List.append_assoc, head_sep]
    rfl
theorem cut_at {c : UInt8} {r t : List UInt8} (h : c ∉ r) : Lib.cut (r ++ c :: t) [c] = (r, t, true) := by
  have e : index (r ++ c :: t) [c] = r.length := by
    have := index_sep (c := c) (tl := []) (r := r) (t := t) h
    simpa using this
  unfold Lib.cut
  rw [e, if_pos (by omega)]
  simp
theorem cut_none {c : UInt8} {r : List UInt8} (h : c ∉ r) : Lib.cut r [c] = (r, [], false) := by
  unfold Lib.cut
  rw [index_none h, if_neg (by omega)]
theorem join_min (sep : List UInt8) : ∀ (l : List (List UInt8)), (∀ r ∈ l, r ≠ []) → l.length ≤ (joinS sep l).length
  | [], _ => by simp
  | [x], h => by
    have := List.length_pos_iff.2 (h x (by simp))
    simp [joinS]; omega
  | x :: y :: r, h => by
    have h1 := List.length_pos_iff.2 (h x (by simp))
    have ih := join_min sep (y :: r) (fun q hq => h q (by simp [hq]))
    unfold joinS
    simp only [List.length_append, List.length_cons] at ih ⊢
    omega
theorem joinS_len (sep : List UInt8) : ∀ (l : List (List UInt8)) (B : Nat), (∀ r ∈ l, r.length ≤ B) → (joinS sep l).length ≤ l.length * (B + sep.length)
  | [], _, _ => by simp [joinS]
  | [x], B, h => by have := h x (by simp); simp [joinS]; omega
  | x :: y :: r, B, h => by
    have h1 := h x (by simp)
    have ih := joinS_len sep (y :: r) B (fun q hq => h q (by simp [hq]))
    unfold joinS
    simp only [List.length_append, List.length_cons, Nat.succ_mul] at ih ⊢
    omega
end Go.Proofs.YtlommbeokbicjaaGreatDoor.AsmMath

namespace Go.Proofs.YtlommbeokbicjaaGreatDoor
open Go.RowKit InstMath AsmMath

/-- What a call finds: the tables of package inst, the powers of ten, and some number where the search for a text looks. -/
structure G (W : World) : Prop where
  names : TabN W
  words : TabW W
  pow : Lib.TabIs Tryz.prog W "internal/strconv.uint64pow10" .u64 Lib.pow10Tab
  most : ∃ m, W.cell? ⟨3, 0, none⟩ = some (.int .i64 m)
theorem G.behind {W W' : World} (h : G W) (hb : Below W.heap.size W W') : G W' :=
  ⟨h.names.behind hb, h.words.behind hb, Lib.tabBelow_of_tabIs h.pow W' hb, by obtain ⟨m, hm⟩ := h.most; exact ⟨m, c_be hb hm⟩⟩

theorem text_add {a b : List UInt8} (h : a.length + b.length ≤ 1000000000) (W : World) : (Op.stringOp .add (str a) (str b)).run Tryz.prog W = .ok (.string (str (a ++ b))) W := by
  rw [run_string_add_sum _ _ _ (by rw [str_size, str_size]; omega), str_add]
theorem index_text {l : List UInt8} {i : Nat} (h : i < l.length) (W : World) : (Instr.index 9 (.string (str l)) (.int .i64 (i : Int))).run Tryz.prog W = .ok (.int .u8 ((l[i].toNat : Nat) : Int)) W := by
  rw [run_index_string W _ _ _ _ Tryz.underlying9, dif_pos ⟨by omega, by rw [str_size]; omega⟩]
  have e : (str l)[(i : Int).toNat]'(by rw [str_size]; omega) = l[i] := by
    show (str l).data[i]'_ = l[i]
    simp [str]
  rw [e]

def ltrB (c : Nat) : Bool := decide (97 ≤ c ∧ c ≤ 122)
def digB (c : Nat) : Bool := decide (48 ≤ c ∧ c ≤ 57)
def nmB (c : Nat) : Bool := ltrB c || digB c || c == 95
/-- May a mark have this name? -/
structure NameOk (l : List UInt8) : Prop where
  ne : l ≠ []
  len : l.length ≤ 64
  head : ∀ (h : 0 < l.length), ltrB l[0].toNat = true
  all : ∀ b ∈ l, nmB b.toNat = true

set_option maxHeartbeats 400000 in
theorem isLetter_any (c : Nat) (w : World) : Calls Tryz.prog 118 #[.int .u8 (c : Int)] w (Quiet (.bool (ltrB c)) w) := by
  by_cases h1 : 97 ≤ c
  · by_cases h2 : c ≤ 122
    · have hR : ltrB c = true := by unfold ltrB; simp; omega
      have HR := hide hR
      clear hR
      go_enter Tryz.func118, Tryz.ntmps118
      go_wp2
      go_ret
      exact ⟨ret_bool (by rw [HR.out]; simp; omega), 0, rfl⟩
    · have hR : ltrB c = false := by unfold ltrB; simp; omega
      have HR := hide hR
      clear hR
      go_enter Tryz.func118, Tryz.ntmps118
      go_wp2
      go_ret
      exact ⟨ret_bool (by rw [HR.out]; simp; omega), 0, rfl⟩
  · have hR : ltrB c = false := by unfold ltrB; simp; omega
    have HR := hide hR
    clear hR
    go_enter Tryz.func118, Tryz.ntmps118
    go_wp2
    go_ret
    exact ⟨ret_bool (by rw [HR.out]), 0, rfl⟩

set_option maxHeartbeats 400000 in
theorem isDigit_any (c : Nat) (w : World) : Calls Tryz.prog 119 #[.int .u8 (c : Int)] w (Quiet (.bool (digB c)) w) := by
  by_cases h1 : 48 ≤ c
  · by_cases h2 : c ≤ 57
    · have hR : digB c = true := by unfold digB; simp; omega
      have HR := hide hR
      clear hR
      go_enter Tryz.func119, Tryz.ntmps119
      go_wp2
      go_ret
      exact ⟨ret_bool (by rw [HR.out]; simp; omega), 0, rfl⟩
    · have hR : digB c = false := by unfold digB; simp; omega
      have HR := hide hR
      clear hR
      go_enter Tryz.func119, Tryz.ntmps119
      go_wp2
      go_ret
      exact ⟨ret_bool (by rw [HR.out]; simp; omega), 0, rfl⟩
  · have hR : digB c = false := by unfold digB; simp; omega
    have HR := hide hR
    clear hR
    go_enter Tryz.func119, Tryz.ntmps119
    go_wp2
    go_ret
    exact ⟨ret_bool (by rw [HR.out]), 0, rfl⟩

set_option maxHeartbeats 1000000 in
theorem isName_yes (l : List UInt8) (h : NameOk l) (w : World) : Calls Tryz.prog 87 #[.string (str l)] w (Quiet (.bool true) w) := by
  have CL : Hid (∀ (c : Nat) W, Calls Tryz.prog 118 #[.int .u8 (c : Int)] W (Quiet (.bool (ltrB c)) W)) := hide isLetter_any
  have CD : Hid (∀ (c : Nat) W, Calls Tryz.prog 119 #[.int .u8 (c : Int)] W (Quiet (.bool (digB c)) W)) := hide isDigit_any
  obtain ⟨h1, h2, h3, h4⟩ := h
  have hp : 0 < l.length := List.length_pos_iff.2 h1
  have hh := h3 hp
  have hix := index_text hp
  have hsz := str_size l
  have he : ¬ (str l).toList = [] := by rw [str_toList]; exact h1
  have he2 : (str l).toList.isEmpty = false := by rw [str_toList]; simpa using h1
  have hn2 : ¬ 64 < (l.length : Int) := by omega
  have hn3 : (l.length : Int) ≤ 64 := by omega
  have HA := hide h4
  have CL0 := hide (CL.out l[0].toNat)
  have HI : Hid (∀ (i : Nat) (h : i < l.length) (W : World), (Instr.index 9 (.string (str l)) (.int .i64 (i : Int))).run Tryz.prog W = .ok (.int .u8 ((l[i].toNat : Nat) : Int)) W) := hide (fun i h => index_text h)
  rw [hh] at CL0
  generalize l[0].toNat = c0 at *
  clear h1 h3 h4
  have hix0 : ∀ W, (Instr.index 9 (.string (str l)) (.int .i64 0)).run Tryz.prog W = .ok (.int .u8 (c0 : Int)) W := hix
  clear hix
  generalize hS : str l = S at *
  have HS := hide hS
  clear hS
  go_enter Tryz.func87, Tryz.ntmps87
  go_wp2_with (first | (go_at_call 118; (with_reducible refine (CL0.out _).mono ?_); rintro e w' ⟨rfl, n1, rfl⟩))
  go_loopw [19] (fun i wr => ∃ j n : Nat, wr = w.drewN n ∧ i = .int .i64 (j : Int) ∧ j ≤ l.length) (fun i _ => l.length - (intOf i).toNat)
  case atStart => exact ⟨0, _, rfl, rfl, by omega⟩
  case round =>
    obtain ⟨j, n, rfl, rfl, hj⟩ := hrel
    by_cases h : j < l.length
    · have hb := HA.out l[j] (List.getElem_mem h)
      have hix := HI.out j h
      generalize l[j].toNat = c at *
      have CL1 := hide (CL.out c)
      have CD1 := hide (CD.out c)
      unfold nmB at hb
      cases e1 : ltrB c with
      | true =>
        rw [e1] at CL1
        clear hb
        go_wp2_with (first | (go_at_call 118; (with_reducible refine (CL1.out _).mono ?_); rintro e w' ⟨rfl, n1, rfl⟩))
        go_roundw
        case rel => exact ⟨j + 1, _, rfl, by go_num, by omega⟩
        case measure => simp [intOf]; omega
      | false =>
        rw [e1] at CL1 hb
        cases e2 : digB c with
        | true =>
          rw [e2] at CD1
          clear hb
          go_wp2_with (first | (go_at_call 118; (with_reducible refine (CL1.out _).mono ?_); rintro e w' ⟨rfl, n1, rfl⟩) | (go_at_call 119; (with_reducible refine (CD1.out _).mono ?_); rintro e w' ⟨rfl, n2, rfl⟩))
          go_roundw
          case rel => exact ⟨j + 1, _, rfl, by go_num, by omega⟩
          case measure => simp [intOf]; omega
        | false =>
          rw [e2] at CD1 hb
          have hc : ((c : Int) == 95) = true := by simp at hb ⊢; omega
          clear hb
          go_wp2_with (first | (go_at_call 118; (with_reducible refine (CL1.out _).mono ?_); rintro e w' ⟨rfl, n1, rfl⟩) | (go_at_call 119; (with_reducible refine (CD1.out _).mono ?_); rintro e w' ⟨rfl, n2, rfl⟩))
          go_roundw
          case rel => exact ⟨j + 1, _, rfl, by go_num, by omega⟩
          case measure => simp [intOf]; omega
    · obtain rfl : j = l.length := by omega
      go_wp2
      go_ret
      exact ⟨rfl, _, rfl⟩

/-! operands -/
/-- The operands of a shape, in the order of its text. -/
def opL : Nat → List Nat
  | 82 => [0, 1, 2]
  | 71 => [0, 1]
  | 73 => [0, 1, 3]
  | 67 => [0, 1, 3]
  | 72 => [0, 1, 3]
  | 83 => [2, 1, 3]
  | 66 => [1, 2, 3]
  | 85 => [0, 3]
  | 74 => [0, 3]
  | _ => []
/-- A slice of operands: nil, or a new block. -/
def OpsV (L : List Nat) (w : World) (e : Ending) (w' : World) : Prop :=
  (L = [] ∧ e = .returned (.slice none 0 0) ∧ w' = w) ∨ (L ≠ [] ∧ e = .returned (.slice (some ⟨w.heap.size, 0, none⟩) L.length L.length) ∧ w' = w.alloc (.cells (L.map (fun (k : Nat) => Value.int .i64 (k : Int))).toArray 3))

set_option maxHeartbeats 400000 in
theorem operands_R (w : World) : Calls Tryz.prog 44 #[.int .u8 82] w (OpsV (opL 82) w) := by
  go_enter Tryz.func44, Tryz.ntmps44
  go_wp2
  go_ret
  exact .inr ⟨by decide, rfl, rfl⟩

set_option maxHeartbeats 400000 in
theorem operands_G (w : World) : Calls Tryz.prog 44 #[.int .u8 71] w (OpsV (opL 71) w) := by
  go_enter Tryz.func44, Tryz.ntmps44
  go_wp2
  go_ret
  exact .inr ⟨by decide, rfl, rfl⟩

set_option maxHeartbeats 400000 in
theorem operands_I (w : World) : Calls Tryz.prog 44 #[.int .u8 73] w (OpsV (opL 73) w) := by
  go_enter Tryz.func44, Tryz.ntmps44
  go_wp2
  go_ret
  exact .inr ⟨by decide, rfl, rfl⟩

set_option maxHeartbeats 400000 in
theorem operands_C (w : World) : Calls Tryz.prog 44 #[.int .u8 67] w (OpsV (opL 67) w) := by
  go_enter Tryz.func44, Tryz.ntmps44
  go_wp2
  go_ret
  exact .inr ⟨by decide, rfl, rfl⟩

set_option maxHeartbeats 400000 in
theorem operands_H (w : World) : Calls Tryz.prog 44 #[.int .u8 72] w (OpsV (opL 72) w) := by
  go_enter Tryz.func44, Tryz.ntmps44
  go_wp2
  go_ret
  exact .inr ⟨by decide, rfl, rfl⟩

set_option maxHeartbeats 400000 in
theorem operands_S (w : World) : Calls Tryz.prog 44 #[.int .u8 83] w (OpsV (opL 83) w) := by
  go_enter Tryz.func44, Tryz.ntmps44
  go_wp2
  go_ret
  exact .inr ⟨by decide, rfl, rfl⟩

set_option maxHeartbeats 400000 in
theorem operands_B (w : World) : Calls Tryz.prog 44 #[.int .u8 66] w (OpsV (opL 66) w) := by
  go_enter Tryz.func44, Tryz.ntmps44
  go_wp2
  go_ret
  exact .inr ⟨by decide, rfl, rfl⟩

set_option maxHeartbeats 400000 in
theorem operands_U (w : World) : Calls Tryz.prog 44 #[.int .u8 85] w (OpsV (opL 85) w) := by
  go_enter Tryz.func44, Tryz.ntmps44
  go_wp2
  go_ret
  exact .inr ⟨by decide, rfl, rfl⟩

set_option maxHeartbeats 400000 in
theorem operands_J (w : World) : Calls Tryz.prog 44 #[.int .u8 74] w (OpsV (opL 74) w) := by
  go_enter Tryz.func44, Tryz.ntmps44
  go_wp2
  go_ret
  exact .inr ⟨by decide, rfl, rfl⟩

set_option maxHeartbeats 400000 in
theorem operands_N (w : World) : Calls Tryz.prog 44 #[.int .u8 78] w (OpsV (opL 78) w) := by
  go_enter Tryz.func44, Tryz.ntmps44
  go_wp2
  go_ret
  exact .inl ⟨rfl, rfl, rfl⟩

set_option maxHeartbeats 400000 in
theorem operands_0 (w : World) : Calls Tryz.prog 44 #[.int .u8 0] w (OpsV (opL 0) w) := by
  go_enter Tryz.func44, Tryz.ntmps44
  go_wp2
  go_ret
  exact .inl ⟨rfl, rfl, rfl⟩

theorem operands_any (s : Nat) (hs : IsShape s) (w : World) : Calls Tryz.prog 44 #[.int .u8 (s : Int)] w (OpsV (opL s) w) := by
  exact each_shape (P := fun (s : Nat) => Calls Tryz.prog 44 #[.int .u8 (s : Int)] w (OpsV (opL s) w)) ⟨operands_R w, operands_G w, operands_I w, operands_C w, operands_H w, operands_S w, operands_B w, operands_U w, operands_J w, operands_N w⟩ hs
end Go.Proofs.YtlommbeokbicjaaGreatDoor

namespace Go.Proofs.YtlommbeokbicjaaGreatDoor
open InstMath AsmMath
open Go.Lib (itoa)

def nameL (k : Nat) : List UInt8 := nmL.getD k []
theorem nameB_str (k : Nat) : nameB k = str (nameL k) := rfl
theorem name_bytes : ∀ k, k < 70 → ∀ b ∈ nameL k, ltrB b.toNat = true := by decide +kernel
theorem name_long : ∀ k, k < 70 → 1 ≤ k → 2 ≤ (nameL k).length ∧ (nameL k).length ≤ 20 := by decide +kernel
theorem name_short : ∀ k, k < 70 → nameL k ≠ [110, 111, 112] ∧ nameL k ≠ [114, 101, 116] ∧ nameL k ≠ [106] ∧ nameL k ≠ [109, 118] ∧ nameL k ≠ [108, 105] := by decide +kernel
theorem ops_lt : ∀ {s : Nat}, IsShape s → ∀ o ∈ opL s, o < 4 := fun hs => each_shape (P := fun s => ∀ o ∈ opL s, o < 4) (by decide) hs
theorem ops_len : ∀ {s : Nat}, IsShape s → (opL s).length ≤ 3 := fun hs => each_shape (P := fun s => (opL s).length ≤ 3) (by decide) hs
theorem ops_once : ∀ {s : Nat}, IsShape s → (opL s).Nodup := fun hs => each_shape (P := fun s => (opL s).Nodup) (by decide) hs

/-- A byte that a number, a register or a mark's name may have. -/
def okB (b : UInt8) : Prop := nmB b.toNat = true ∨ b = 45
theorem ok_ne {b : UInt8} (h : okB b) : b ≠ 10 ∧ b ≠ 32 ∧ b ≠ 35 ∧ b ≠ 44 ∧ b ≠ 58 := by
  refine ⟨?_, ?_, ?_, ?_, ?_⟩ <;> rintro rfl <;> exact absurd h (by unfold okB nmB ltrB digB; decide)
theorem ok_ltr {b : UInt8} (h : ltrB b.toNat = true) : okB b := .inl (by unfold nmB; rw [h]; rfl)
theorem ok_dig {b : UInt8} (h : isDig b) : okB b := .inl (by unfold nmB digB; rw [decide_eq_true (show 48 ≤ b.toNat ∧ b.toNat ≤ 57 from h)]; simp)
theorem ok_itoa {n : Int} : ∀ b ∈ itoa n, okB b := fun b hb => (itoa_bytes b hb).elim .inr ok_dig
structure LastOk (s : List UInt8) : Prop where
  ne : s ≠ []
  all : ∀ b ∈ s, okB b
  len : s.length ≤ 64
theorem last_itoa {n : Int} (h : rng n) : LastOk (itoa n) := ⟨itoa_ne n, ok_itoa, by have := Lib.itoa_length_le n h.1 (by have := h.2; omega); omega⟩
theorem last_name {s : List UInt8} (h : NameOk s) : LastOk s := ⟨h.ne, fun b hb => .inl (h.all b hb), h.len⟩

/-- The text of an operand. -/
def tx (F : Nat → Int) (s : List UInt8) (o : Nat) : List UInt8 := if o = 3 then s else 99 :: itoa (F o)
def txs (k : Nat) (F : Nat → Int) (s : List UInt8) : List (List UInt8) := (opL (shp k)).map (tx F s)
/-- The text of an instruction. -/
def wr (k : Nat) (F : Nat → Int) (s : List UInt8) : List UInt8 := nameL k ++ (if opL (shp k) = [] then [] else 32 :: joinS [44, 32] (txs k F s))
theorem tx_ok {F : Nat → Int} {s : List UInt8} (h : LastOk s) (o : Nat) : ∀ b ∈ tx F s o, okB b := by
  unfold tx
  split
  · exact h.all
  · intro b hb
    rcases List.mem_cons.1 hb with rfl | hb
    · exact .inl (by decide)
    · exact ok_itoa b hb
theorem tx_ne {F : Nat → Int} {s : List UInt8} (h : LastOk s) (o : Nat) : tx F s o ≠ [] := by
  unfold tx
  split
  · exact h.ne
  · simp
theorem txs_44 {k : Nat} {F : Nat → Int} {s : List UInt8} (h : LastOk s) : ∀ r ∈ txs k F s, (44 : UInt8) ∉ r := by
  intro r hr hm
  obtain ⟨o, _, rfl⟩ := List.mem_map.1 hr
  exact (ok_ne (tx_ok h o _ hm)).2.2.2.1 rfl
theorem join_all {P : UInt8 → Prop} {sep : List UInt8} (hs : ∀ b ∈ sep, P b) : ∀ {l : List (List UInt8)}, (∀ r ∈ l, ∀ b ∈ r, P b) → ∀ b ∈ joinS sep l, P b
  | [], _, b, hb => by simp [joinS] at hb
  | [x], h, b, hb => h x (by simp) b hb
  | x :: y :: r, h, b, hb => by
    unfold joinS at hb
    rcases List.mem_append.1 hb with hb | hb
    · rcases List.mem_append.1 hb with hb | hb
      · exact h x (by simp) b hb
      · exact hs b hb
    · exact join_all hs (l := y :: r) (fun q hq => h q (by simp [hq])) b hb
theorem sep_ok : ∀ b ∈ ([44, 32] : List UInt8), okB b ∨ b = 32 ∨ b = 44 := by
  intro b hb
  simp at hb
  rcases hb with rfl | rfl
  · exact .inr (.inr rfl)
  · exact .inr (.inl rfl)
theorem wr_bytes {k : Nat} (hk : k < 70) {F : Nat → Int} {s : List UInt8} (h : LastOk s) : ∀ b ∈ wr k F s, okB b ∨ b = 32 ∨ b = 44 := by
  intro b hb
  unfold wr at hb
  rcases List.mem_append.1 hb with hb | hb
  · exact .inl (ok_ltr (name_bytes k hk b hb))
  · split at hb
    · simp at hb
    · rcases List.mem_cons.1 hb with rfl | hb
      · exact .inr (.inl rfl)
      · refine join_all (P := fun b => okB b ∨ b = 32 ∨ b = 44) sep_ok (fun r hr b hb => ?_) b hb
        obtain ⟨o, _, rfl⟩ := List.mem_map.1 hr
        exact .inl (tx_ok h o b hb)
theorem name_32 {k : Nat} (hk : k < 70) : (32 : UInt8) ∉ nameL k := fun h => (ok_ne (ok_ltr (name_bytes k hk _ h))).2.1 rfl
theorem wr_cut_no {k : Nat} (hk : k < 70) {F : Nat → Int} {s : List UInt8} (h : opL (shp k) = []) : Lib.cut (wr k F s) [32] = (nameL k, [], false) := by
  unfold wr
  rw [if_pos h, List.append_nil]
  exact cut_none (name_32 hk)
theorem wr_cut {k : Nat} (hk : k < 70) {F : Nat → Int} {s : List UInt8} (h : opL (shp k) ≠ []) : Lib.cut (wr k F s) [32] = (nameL k, joinS [44, 32] (txs k F s), true) := by
  unfold wr
  rw [if_neg h]
  exact cut_at (name_32 hk)
theorem wr_cut1 {k : Nat} (hk : k < 70) {F : Nat → Int} {s : List UInt8} : (Lib.cut (wr k F s) [32]).1 = nameL k := by
  by_cases h : opL (shp k) = []
  · rw [wr_cut_no hk h]
  · rw [wr_cut hk h]
/-- A line that is no short form, no mark, and not skipped. -/
structure Plain (t : List UInt8) : Prop where
  ne : t ≠ []
  hash : ∀ (h : 0 < t.length), t[0] ≠ 35
  colon : Lib.hasSuffix t [58] = false
  nop : t ≠ [110, 111, 112]
  ret : t ≠ [114, 101, 116]
  j : Lib.hasPrefix t [106, 32] = false
  mv : Lib.hasPrefix t [109, 118, 32] = false
  li : Lib.hasPrefix t [108, 105, 32] = false
theorem pre_no {t p : List UInt8} {x : List UInt8} (h : (Lib.cut t [32]).1 = x) (hp : (32 : UInt8) ∉ p) (hx : x ≠ p) : Lib.hasPrefix t (p ++ [32]) = false := by
  cases e : Lib.hasPrefix t (p ++ [32]) with
  | false => rfl
  | true =>
    exfalso
    unfold Lib.hasPrefix at e
    rw [List.isPrefixOf_iff_prefix] at e
    obtain ⟨r, rfl⟩ := e
    rw [List.append_assoc] at h
    have e2 : Lib.cut (p ++ ([32] ++ r)) [32] = (p, r, true) := cut_at hp
    rw [e2] at h
    exact hx h.symm
theorem wr_plain {k : Nat} (h1 : 1 ≤ k) (hk : k < 70) {F : Nat → Int} {s : List UInt8} (h : LastOk s) : Plain (wr k F s) := by
  have hc := wr_cut1 hk (F := F) (s := s)
  have hl := name_long k hk h1
  obtain ⟨n1, n2, n3, n4, n5⟩ := name_short k hk
  have hb := wr_bytes hk (F := F) h
  have hlen : 2 ≤ (wr k F s).length := by unfold wr; rw [List.length_append]; omega
  refine ⟨fun e => by rw [e] at hlen; simp at hlen, fun hp e => ?_, ?_, fun e => ?_, fun e => ?_, ?_, ?_, ?_⟩
  · have := hb _ (List.getElem_mem hp)
    rw [e] at this
    rcases this with h | h | h
    · exact (ok_ne h).2.2.1 rfl
    · exact absurd h (by decide)
    · exact absurd h (by decide)
  · cases e : Lib.hasSuffix (wr k F s) [58] with
    | false => rfl
    | true =>
      exfalso
      unfold Lib.hasSuffix at e
      rw [List.isSuffixOf_iff_suffix] at e
      have := hb 58 (e.subset (by simp))
      rcases this with h | h | h
      · exact (ok_ne h).2.2.2.2 rfl
      · exact absurd h (by decide)
      · exact absurd h (by decide)
  · rw [e, cut_none (by decide)] at hc; exact n1 hc.symm
  · rw [e, cut_none (by decide)] at hc; exact n2 hc.symm
  · exact pre_no (p := [106]) hc (by decide) n3
  · exact pre_no (p := [109, 118]) hc (by decide) n4
  · exact pre_no (p := [108, 105]) hc (by decide) n5
theorem wr_10 {k : Nat} (hk : k < 70) {F : Nat → Int} {s : List UInt8} (h : LastOk s) : (10 : UInt8) ∉ wr k F s := fun hb => by
  rcases wr_bytes hk h _ hb with h | h | h
  · exact (ok_ne h).1 rfl
  · exact absurd h (by decide)
  · exact absurd h (by decide)
theorem tx_len {F : Nat → Int} {s : List UInt8} (h : LastOk s) (hF : ∀ o, rng (F o)) (o : Nat) : (tx F s o).length ≤ 64 := by
  unfold tx
  split
  · exact h.len
  · obtain ⟨r1, r2⟩ := hF o
    have := Lib.itoa_length_le (F o) r1 (by omega)
    simp; omega
theorem txs_len {k : Nat} (h1 : 1 ≤ k) (hk : k < 70) {F : Nat → Int} {s : List UInt8} (h : LastOk s) (hF : ∀ o, rng (F o)) : (joinS [44, 32] (txs k F s)).length ≤ 200 := by
  have hl := ops_len (shape_of h1 (by omega))
  have := joinS_len [44, 32] (txs k F s) 64 (fun r hr => by
    obtain ⟨o, _, rfl⟩ := List.mem_map.1 hr
    exact tx_len h hF o)
  have e : (txs k F s).length = (opL (shp k)).length := by unfold txs; simp
  rw [e] at this
  have h2 : (opL (shp k)).length * 66 ≤ 3 * 66 := Nat.mul_le_mul_right _ hl
  simp at this
  omega
theorem wr_len {k : Nat} (h1 : 1 ≤ k) (hk : k < 70) {F : Nat → Int} {s : List UInt8} (h : LastOk s) (hF : ∀ o, rng (F o)) : (wr k F s).length ≤ 230 := by
  have hn := name_long k hk h1
  have := txs_len h1 hk h hF (F := F)
  unfold wr
  rw [List.length_append]
  split
  · simp; omega
  · simp; omega
/-- A register's text has the register's number. -/
theorem wr_trim {k : Nat} (h1 : 1 ≤ k) (hk : k < 70) {F : Nat → Int} {s : List UInt8} (n : Nat) : Lib.trimLeftB (List.replicate n 32 ++ wr k F s) 32 = wr k F s := by
  have hl := name_long k hk h1
  have hh : ∃ b r, wr k F s = b :: r ∧ b ≠ 32 := by
    unfold wr
    cases e : nameL k with
    | nil => rw [e] at hl; simp at hl
    | cons b r => exact ⟨b, _, rfl, (ok_ne (ok_ltr (name_bytes k hk b (by rw [e]; simp)))).2.1⟩
  obtain ⟨b, r, e, hb⟩ := hh
  rw [e]
  unfold Lib.trimLeftB
  rw [List.dropWhile_append_of_pos (by intro x hx; rw [List.eq_of_mem_replicate hx]; rfl), List.dropWhile_cons_of_neg (by simpa using hb)]
end Go.Proofs.YtlommbeokbicjaaGreatDoor
