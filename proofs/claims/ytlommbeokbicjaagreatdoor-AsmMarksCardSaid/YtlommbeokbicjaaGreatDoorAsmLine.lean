/-
  The text of an instruction, and what its pieces are; lines of a program. No program text here.
-/
import Derived.Test.YtlommbeokbicjaaGreatDoorAsmSmall
import Derived.Lib.TrimByte
namespace Go.Proofs.YtlommbeokbicjaaGreatDoor
open InstMath AsmMath
open Go.Lib (itoa)

def nameL (k : Nat) : List UInt8 := nmL.getD k []
theorem nameB_str (k : Nat) : nameB k = str (nameL k) := rfl
theorem name_bytes : ∀ k, k < 70 → ∀ b ∈ nameL k, ltrB b.toNat = true := by decide +kernel
theorem name_long : ∀ k, k < 70 → 1 ≤ k → 2 ≤ (nameL k).length ∧ (nameL k).length ≤ 20 := by decide +kernel
theorem name_short : ∀ k, k < 70 → nameL k ≠ [110, 111, 112] ∧ nameL k ≠ [114, 101, 116] ∧ nameL k ≠ [106] ∧ nameL k ≠ [109, 118] ∧ nameL k ≠ [108, 105] := by decide +kernel
theorem ops_lt : ∀ {s : Nat}, IsShape s → ∀ o ∈ opL s, o < 4 := fun hs => each_shape (P := fun s => ∀ o ∈ opL s, o < 4) (by decide) hs
theorem ops_len : ∀ {s : Nat}, IsShape s → (opL s).length ≤ 3 := fun hs => each_shape (P := fun s => (opL s).length ≤ 3) (by decide) hs
theorem ops_once : ∀ {s : Nat}, IsShape s → (opL s).Nodup := fun hs => each_shape (P := fun s => (opL s).Nodup) (by decide) hs

/-- A byte that a number, a register or a mark's name may have. -/
def okB (b : UInt8) : Prop := nmB b.toNat = true ∨ b = 45
theorem ok_ne {b : UInt8} (h : okB b) : b ≠ 10 ∧ b ≠ 32 ∧ b ≠ 35 ∧ b ≠ 44 ∧ b ≠ 58 := by
  refine ⟨?_, ?_, ?_, ?_, ?_⟩ <;> rintro rfl <;> exact absurd h (by unfold okB nmB ltrB digB; decide)
theorem ok_ltr {b : UInt8} (h : ltrB b.toNat = true) : okB b := .inl (by unfold nmB; rw [h]; rfl)
theorem ok_dig {b : UInt8} (h : isDig b) : okB b := .inl (by unfold nmB digB; rw [decide_eq_true (show 48 ≤ b.toNat ∧ b.toNat ≤ 57 from h)]; simp)
theorem ok_itoa {n : Int} : ∀ b ∈ itoa n, okB b := fun b hb => (itoa_bytes b hb).elim .inr ok_dig
structure LastOk (s : List UInt8) : Prop where
  ne : s ≠ []
  all : ∀ b ∈ s, okB b
  len : s.length ≤ 64
theorem last_itoa {n : Int} (h : rng n) : LastOk (itoa n) := ⟨itoa_ne n, ok_itoa, by have := Lib.itoa_length_le n h.1 (by have := h.2; omega); omega⟩
theorem last_name {s : List UInt8} (h : NameOk s) : LastOk s := ⟨h.ne, fun b hb => .inl (h.all b hb), h.len⟩

/-- The text of an operand. -/
def tx (F : Nat → Int) (s : List UInt8) (o : Nat) : List UInt8 := if o = 3 then s else 99 :: itoa (F o)
def txs (k : Nat) (F : Nat → Int) (s : List UInt8) : List (List UInt8) := (opL (shp k)).map (tx F s)
/-- The text of an instruction. -/
def wr (k : Nat) (F : Nat → Int) (s : List UInt8) : List UInt8 := nameL k ++ (if opL (shp k) = [] then [] else 32 :: joinS [44, 32] (txs k F s))
theorem tx_ok {F : Nat → Int} {s : List UInt8} (h : LastOk s) (o : Nat) : ∀ b ∈ tx F s o, okB b := by
  unfold tx
  split
  · exact h.all
  · intro b hb
    rcases List.mem_cons.1 hb with rfl | hb
    · exact .inl (by decide)
    · exact ok_itoa b hb
theorem tx_ne {F : Nat → Int} {s : List UInt8} (h : LastOk s) (o : Nat) : tx F s o ≠ [] := by
  unfold tx
  split
  · exact h.ne
  · simp
theorem txs_44 {k : Nat} {F : Nat → Int} {s : List UInt8} (h : LastOk s) : ∀ r ∈ txs k F s, (44 : UInt8) ∉ r := by
  intro r hr hm
  obtain ⟨o, _, rfl⟩ := List.mem_map.1 hr
  exact (ok_ne (tx_ok h o _ hm)).2.2.2.1 rfl
theorem join_all {P : UInt8 → Prop} {sep : List UInt8} (hs : ∀ b ∈ sep, P b) : ∀ {l : List (List UInt8)}, (∀ r ∈ l, ∀ b ∈ r, P b) → ∀ b ∈ joinS sep l, P b
  | [], _, b, hb => by simp [joinS] at hb
  | [x], h, b, hb => h x (by simp) b hb
  | x :: y :: r, h, b, hb => by
    unfold joinS at hb
    rcases List.mem_append.1 hb with hb | hb
    · rcases List.mem_append.1 hb with hb | hb
      · exact h x (by simp) b hb
      · exact hs b hb
    · exact join_all hs (l := y :: r) (fun q hq => h q (by simp [hq])) b hb
theorem sep_ok : ∀ b ∈ ([44, 32] : List UInt8), okB b ∨ b = 32 ∨ b = 44 := by
  intro b hb
  simp at hb
  rcases hb with rfl | rfl
  · exact .inr (.inr rfl)
  · exact .inr (.inl rfl)
theorem wr_bytes {k : Nat} (hk : k < 70) {F : Nat → Int} {s : List UInt8} (h : LastOk s) : ∀ b ∈ wr k F s, okB b ∨ b = 32 ∨ b = 44 := by
  intro b hb
  unfold wr at hb
  rcases List.mem_append.1 hb with hb | hb
  · exact .inl (ok_ltr (name_bytes k hk b hb))
  · split at hb
    · simp at hb
    · rcases List.mem_cons.1 hb with rfl | hb
      · exact .inr (.inl rfl)
      · refine join_all (P := fun b => okB b ∨ b = 32 ∨ b = 44) sep_ok (fun r hr b hb => ?_) b hb
        obtain ⟨o, _, rfl⟩ := List.mem_map.1 hr
        exact .inl (tx_ok h o b hb)
theorem name_32 {k : Nat} (hk : k < 70) : (32 : UInt8) ∉ nameL k := fun h => (ok_ne (ok_ltr (name_bytes k hk _ h))).2.1 rfl
theorem wr_cut_no {k : Nat} (hk : k < 70) {F : Nat → Int} {s : List UInt8} (h : opL (shp k) = []) : Lib.cut (wr k F s) [32] = (nameL k, [], false) := by
  unfold wr
  rw [if_pos h, List.append_nil]
  exact cut_none (name_32 hk)
theorem wr_cut {k : Nat} (hk : k < 70) {F : Nat → Int} {s : List UInt8} (h : opL (shp k) ≠ []) : Lib.cut (wr k F s) [32] = (nameL k, joinS [44, 32] (txs k F s), true) := by
  unfold wr
  rw [if_neg h]
  exact cut_at (name_32 hk)
theorem wr_cut1 {k : Nat} (hk : k < 70) {F : Nat → Int} {s : List UInt8} : (Lib.cut (wr k F s) [32]).1 = nameL k := by
  by_cases h : opL (shp k) = []
  · rw [wr_cut_no hk h]
  · rw [wr_cut hk h]
/-- A line that is no short form, no mark, and not skipped. -/
structure Plain (t : List UInt8) : Prop where
  ne : t ≠ []
  hash : ∀ (h : 0 < t.length), t[0] ≠ 35
  colon : Lib.hasSuffix t [58] = false
  nop : t ≠ [110, 111, 112]
  ret : t ≠ [114, 101, 116]
  j : Lib.hasPrefix t [106, 32] = false
  mv : Lib.hasPrefix t [109, 118, 32] = false
  li : Lib.hasPrefix t [108, 105, 32] = false
theorem pre_no {t p : List UInt8} {x : List UInt8} (h : (Lib.cut t [32]).1 = x) (hp : (32 : UInt8) ∉ p) (hx : x ≠ p) : Lib.hasPrefix t (p ++ [32]) = false := by
  cases e : Lib.hasPrefix t (p ++ [32]) with
  | false => rfl
  | true =>
    exfalso
    unfold Lib.hasPrefix at e
    rw [List.isPrefixOf_iff_prefix] at e
    obtain ⟨r, rfl⟩ := e
    rw [List.append_assoc] at h
    have e2 : Lib.cut (p ++ ([32] ++ r)) [32] = (p, r, true) := cut_at hp
    rw [e2] at h
    exact hx h.symm
theorem wr_plain {k : Nat} (h1 : 1 ≤ k) (hk : k < 70) {F : Nat → Int} {s : List UInt8} (h : LastOk s) : Plain (wr k F s) := by
  have hc := wr_cut1 hk (F := F) (s := s)
  have hl := name_long k hk h1
  obtain ⟨n1, n2, n3, n4, n5⟩ := name_short k hk
  have hb := wr_bytes hk (F := F) h
  have hlen : 2 ≤ (wr k F s).length := by unfold wr; rw [List.length_append]; omega
  refine ⟨fun e => by rw [e] at hlen; simp at hlen, fun hp e => ?_, ?_, fun e => ?_, fun e => ?_, ?_, ?_, ?_⟩
  · have := hb _ (List.getElem_mem hp)
    rw [e] at this
    rcases this with h | h | h
    · exact (ok_ne h).2.2.1 rfl
    · exact absurd h (by decide)
    · exact absurd h (by decide)
  · cases e : Lib.hasSuffix (wr k F s) [58] with
    | false => rfl
    | true =>
      exfalso
      unfold Lib.hasSuffix at e
      rw [List.isSuffixOf_iff_suffix] at e
      have := hb 58 (e.subset (by simp))
      rcases this with h | h | h
      · exact (ok_ne h).2.2.2.2 rfl
      · exact absurd h (by decide)
      · exact absurd h (by decide)
  · rw [e, cut_none (by decide)] at hc; exact n1 hc.symm
  · rw [e, cut_none (by decide)] at hc; exact n2 hc.symm
  · exact pre_no (p := [106]) hc (by decide) n3
  · exact pre_no (p := [109, 118]) hc (by decide) n4
  · exact pre_no (p := [108, 105]) hc (by decide) n5
theorem wr_10 {k : Nat} (hk : k < 70) {F : Nat → Int} {s : List UInt8} (h : LastOk s) : (10 : UInt8) ∉ wr k F s := fun hb => by
  rcases wr_bytes hk h _ hb with h | h | h
  · exact (ok_ne h).1 rfl
  · exact absurd h (by decide)
  · exact absurd h (by decide)
theorem tx_len {F : Nat → Int} {s : List UInt8} (h : LastOk s) (hF : ∀ o, rng (F o)) (o : Nat) : (tx F s o).length ≤ 64 := by
  unfold tx
  split
  · exact h.len
  · obtain ⟨r1, r2⟩ := hF o
    have := Lib.itoa_length_le (F o) r1 (by omega)
    simp; omega
theorem txs_len {k : Nat} (h1 : 1 ≤ k) (hk : k < 70) {F : Nat → Int} {s : List UInt8} (h : LastOk s) (hF : ∀ o, rng (F o)) : (joinS [44, 32] (txs k F s)).length ≤ 200 := by
  have hl := ops_len (shape_of h1 (by omega))
  have := joinS_len [44, 32] (txs k F s) 64 (fun r hr => by
    obtain ⟨o, _, rfl⟩ := List.mem_map.1 hr
    exact tx_len h hF o)
  have e : (txs k F s).length = (opL (shp k)).length := by unfold txs; simp
  rw [e] at this
  have h2 : (opL (shp k)).length * 66 ≤ 3 * 66 := Nat.mul_le_mul_right _ hl
  simp at this
  omega
theorem wr_len {k : Nat} (h1 : 1 ≤ k) (hk : k < 70) {F : Nat → Int} {s : List UInt8} (h : LastOk s) (hF : ∀ o, rng (F o)) : (wr k F s).length ≤ 230 := by
  have hn := name_long k hk h1
  have := txs_len h1 hk h hF (F := F)
  unfold wr
  rw [List.length_append]
  split
  · simp; omega
  · simp; omega
/-- A register's text has the register's number. -/
theorem wr_trim {k : Nat} (h1 : 1 ≤ k) (hk : k < 70) {F : Nat → Int} {s : List UInt8} (n : Nat) : Lib.trimLeftB (List.replicate n 32 ++ wr k F s) 32 = wr k F s := by
  have hl := name_long k hk h1
  have hh : ∃ b r, wr k F s = b :: r ∧ b ≠ 32 := by
    unfold wr
    cases e : nameL k with
    | nil => rw [e] at hl; simp at hl
    | cons b r => exact ⟨b, _, rfl, (ok_ne (ok_ltr (name_bytes k hk b (by rw [e]; simp)))).2.1⟩
  obtain ⟨b, r, e, hb⟩ := hh
  rw [e]
  unfold Lib.trimLeftB
  rw [List.dropWhile_append_of_pos (by intro x hx; rw [List.eq_of_mem_replicate hx]; rfl), List.dropWhile_cons_of_neg (by simpa using hb)]
end Go.Proofs.YtlommbeokbicjaaGreatDoor
