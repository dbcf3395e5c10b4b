/-
  Reservations as a list of (base, top, kind); where a span for so many bytes is found. Plain arithmetic: no program text here.
-/
import Derived.Test.YtnepnckiciapfaaDoorBoundsMath2
namespace Go.Proofs.YtnepnckiciapfaaDoor.RgnMath
open BoundsMath

/-- A reservation: its base, its top, its kind. -/
structure Rg where
  b : Nat
  t : Nat
  k : Nat
deriving DecidableEq

/-- Ascending, none empty, none overlaps another; none above 2^38. -/
structure Asc (L : List Rg) : Prop where
  ne : ∀ r ∈ L, r.b < r.t
  le : ∀ r ∈ L, r.t ≤ 274877906944
  kd : ∀ r ∈ L, r.k < 9223372036854775808
  pw : L.Pairwise (fun r s => r.t ≤ s.b)
theorem asc_nil : Asc [] := ⟨by simp, by simp, by simp, by simp⟩

/-- How many lie wholly at or below an address (the first that does not, ends it). -/
def aboveF (L : List Rg) (a : Nat) : Nat := (L.takeWhile (fun r => decide (r.t ≤ a))).length
theorem above_le (L : List Rg) (a : Nat) : aboveF L a ≤ L.length := by
  unfold aboveF
  exact (List.takeWhile_sublist _).length_le
theorem take_imp {p : Rg → Bool} : ∀ {L : List Rg} {x : Rg}, x ∈ L.takeWhile p → p x = true
  | [], _, h => by simp at h
  | y :: L, x, h => by
    rw [List.takeWhile_cons] at h
    split at h
    · rename_i hy
      rcases List.mem_cons.1 h with rfl | h2
      · exact hy
      · exact take_imp h2
    · simp at h
theorem above_low {L : List Rg} {a : Nat} {j : Nat} (hj : j < aboveF L a) {r : Rg} (hr : L[j]? = some r) : r.t ≤ a := by
  unfold aboveF at hj
  have h1 : (L.takeWhile (fun r => decide (r.t ≤ a)))[j]? = some r := by
    have hp := List.takeWhile_prefix (l := L) (fun r => decide (r.t ≤ a))
    obtain ⟨s, hs⟩ := hp
    rw [← hs, List.getElem?_append_left hj] at hr
    exact hr
  have h2 := List.mem_of_getElem? h1
  have h3 := take_imp h2
  simpa using h3
theorem above_at {L : List Rg} {a : Nat} {r : Rg} (hr : L[aboveF L a]? = some r) : a < r.t := by
  unfold aboveF at hr
  induction L with
  | nil => simp at hr
  | cons x L ih =>
    rw [List.takeWhile_cons] at hr
    by_cases hx : x.t ≤ a
    · rw [if_pos (by simpa using hx), List.length_cons, List.getElem?_cons_succ] at hr
      exact ih hr
    · rw [if_neg (by simpa using hx)] at hr
      simp at hr
      subst hr
      omega
theorem pair_at {L : List Rg} (h : L.Pairwise (fun r s => r.t ≤ s.b)) {i j : Nat} (hij : i < j) {r s : Rg} (hr : L[i]? = some r) (hs : L[j]? = some s) : r.t ≤ s.b := by
  obtain ⟨h1, rfl⟩ := List.getElem?_eq_some_iff.1 hr
  obtain ⟨h2, rfl⟩ := List.getElem?_eq_some_iff.1 hs
  exact List.pairwise_iff_getElem.1 h i j h1 h2 hij
/-- From the first one on, all are above the address. -/
theorem above_high {L : List Rg} (h : Asc L) {a : Nat} {j : Nat} (hj : aboveF L a ≤ j) {r : Rg} (hr : L[j]? = some r) : a < r.t := by
  rcases Nat.lt_or_eq_of_le hj with hlt | rfl
  · have hjl : j < L.length := (List.getElem?_eq_some_iff.1 hr).1
    obtain ⟨x, hx⟩ : ∃ x, L[aboveF L a]? = some x := ⟨L[aboveF L a]'(by omega), by simp [show aboveF L a < L.length by omega]⟩
    have h1 := above_at hx
    have h2 := pair_at h.pw hlt hx hr
    have h3 := h.ne r (List.mem_of_getElem? hr)
    omega
  · exact above_at hr
/-- The test of a place, as a search asks it, is false below and true from there on. -/
theorem above_test {L : List Rg} (h : Asc L) {a i : Nat} {r : Rg} (hr : L[i]? = some r) : decide (a < r.t) = decide (aboveF L a ≤ i) := by
  by_cases hi : aboveF L a ≤ i
  · rw [decide_eq_true hi, decide_eq_true (above_high h hi hr)]
  · rw [decide_eq_false hi, decide_eq_false (by have := above_low (a := a) (by omega) hr; omega)]

/-- No reservation shares an address with the span. -/
def apart (L : List Rg) (b t : Nat) : Prop := ∀ r ∈ L, r.t ≤ b ∨ t ≤ r.b
def putF (L : List Rg) (b t : Nat) : List Rg := L.take (aboveF L b) ++ ⟨b, t, 1⟩ :: L.drop (aboveF L b)
/-- May a span be added: what the program tests. -/
def freeF (L : List Rg) (b t : Nat) : Bool := match L[aboveF L b]? with | some r => decide (¬ r.b < t) | none => true
theorem free_of_apart {L : List Rg} {b t : Nat} (h : apart L b t) : freeF L b t = true := by
  unfold freeF
  cases hr : L[aboveF L b]? with
  | none => rfl
  | some r =>
    have h1 := above_at hr
    have h2 := h r (List.mem_of_getElem? hr)
    simp only [decide_eq_true_eq]
    omega
theorem put_len (L : List Rg) (b t : Nat) : (putF L b t).length = L.length + 1 := by
  unfold putF
  have := above_le L b
  rw [List.length_append, List.length_cons, List.length_take, List.length_drop]
  omega
theorem put_asc {L : List Rg} (h : Asc L) {b t : Nat} (hbt : b < t) (ht : t ≤ 274877906944) (hf : freeF L b t = true) : Asc (putF L b t) := by
  have hin : ∀ r, r ∈ putF L b t → r = ⟨b, t, 1⟩ ∨ r ∈ L := fun r hr => by
    unfold putF at hr
    rcases List.mem_append.1 hr with h1 | h1
    · exact .inr (List.mem_of_mem_take h1)
    · rcases List.mem_cons.1 h1 with h2 | h2
      · exact .inl h2
      · exact .inr (List.mem_of_mem_drop h2)
  refine ⟨fun r hr => ?_, fun r hr => ?_, fun r hr => ?_, ?_⟩
  · rcases hin r hr with rfl | h1
    · exact hbt
    · exact h.ne r h1
  · rcases hin r hr with rfl | h1
    · exact ht
    · exact h.le r h1
  · rcases hin r hr with rfl | h1
    · show (1 : Nat) < _
      omega
    · exact h.kd r h1
  · unfold putF
    have hhi : ∀ s ∈ L.drop (aboveF L b), t ≤ s.b := fun s hs => by
      obtain ⟨j, hj⟩ := List.getElem?_of_mem hs
      rw [List.getElem?_drop] at hj
      have hjl : aboveF L b + j < L.length := (List.getElem?_eq_some_iff.1 hj).1
      obtain ⟨x, hx⟩ : ∃ x, L[aboveF L b]? = some x := ⟨L[aboveF L b]'(by omega), by simp [show aboveF L b < L.length by omega]⟩
      unfold freeF at hf
      rw [hx] at hf
      simp only [decide_eq_true_eq] at hf
      rcases Nat.eq_zero_or_pos j with rfl | hp
      · rw [Nat.add_zero, hx] at hj
        obtain rfl := Option.some.inj hj
        omega
      · have h1 := pair_at h.pw (show aboveF L b < aboveF L b + j by omega) hx hj
        have h2 := h.ne x (List.mem_of_getElem? hx)
        omega
    have hlo : ∀ s ∈ L.take (aboveF L b), s.t ≤ b := fun s hs => by
      obtain ⟨j, hj⟩ := List.getElem?_of_mem hs
      have hjl := (List.getElem?_eq_some_iff.1 hj).1
      rw [List.length_take] at hjl
      rw [List.getElem?_take_of_lt (by omega)] at hj
      exact above_low (by omega) hj
    rw [List.pairwise_append]
    refine ⟨List.Pairwise.sublist (List.take_sublist _ _) h.pw, ?_, ?_⟩
    · rw [List.pairwise_cons]
      exact ⟨fun s hs => hhi s hs, List.Pairwise.sublist (List.drop_sublist _ _) h.pw⟩
    · intro r hr s hs
      have h1 := hlo r hr
      rcases List.mem_cons.1 hs with rfl | h2
      · exact h1
      · have := hhi s h2
        show r.t ≤ s.b
        omega

/-- The first place of a reservation. -/
def idxF : List Rg → Rg → Option Nat
  | [], _ => none
  | x :: L, r => if r = x then some 0 else (idxF L r).map (· + 1)
theorem idx_some {L : List Rg} {r : Rg} {i : Nat} (h : idxF L r = some i) : L[i]? = some r := by
  induction L generalizing i with
  | nil => simp [idxF] at h
  | cons x L ih =>
    unfold idxF at h
    split at h
    · rename_i e
      injection h with h
      subst h e
      rfl
    · cases hq : idxF L r with
      | none => rw [hq] at h; cases h
      | some j =>
        rw [hq] at h
        simp only [Option.map_some, Option.some.injEq] at h
        subst h
        rw [List.getElem?_cons_succ]
        exact ih hq
theorem idx_lt {L : List Rg} {r : Rg} {i : Nat} (h : idxF L r = some i) : i < L.length := (List.getElem?_eq_some_iff.1 (idx_some h)).1
theorem idx_before {L : List Rg} {r : Rg} {i : Nat} (h : idxF L r = some i) : ∀ j, j < i → L[j]? ≠ some r := by
  induction L generalizing i with
  | nil => simp [idxF] at h
  | cons x L ih =>
    unfold idxF at h
    split at h
    · injection h with h
      subst h
      intro j hj
      omega
    · rename_i e
      cases hq : idxF L r with
      | none => rw [hq] at h; cases h
      | some m =>
        rw [hq] at h
        simp only [Option.map_some, Option.some.injEq] at h
        subst h
        intro j hj
        match j with
        | 0 =>
          intro he
          simp at he
          exact e he.symm
        | j + 1 =>
          rw [List.getElem?_cons_succ]
          exact ih hq j (by omega)
theorem idx_none {L : List Rg} {r : Rg} (h : idxF L r = none) : ∀ j : Nat, L[j]? ≠ some r := by
  induction L with
  | nil => simp
  | cons x L ih =>
    unfold idxF at h
    split at h
    · cases h
    · rename_i e
      cases hq : idxF L r with
      | none =>
        intro j
        match j with
        | 0 =>
          intro he
          simp at he
          exact e he.symm
        | j + 1 =>
          rw [List.getElem?_cons_succ]
          exact ih hq j
      | some m => rw [hq] at h; cases h
theorem idx_is {L : List Rg} {r : Rg} {i : Nat} (h : L[i]? = some r) (hb : ∀ j, j < i → L[j]? ≠ some r) : idxF L r = some i := by
  cases hq : idxF L r with
  | none => exact absurd h (idx_none hq i)
  | some j =>
    rcases Nat.lt_trichotomy i j with h1 | h1 | h1
    · exact absurd h (idx_before hq i h1)
    · rw [h1]
    · exact absurd (idx_some hq) (hb j h1)
/-- Held at place i; dropped at place i. -/
def holdF (L : List Rg) (i : Nat) (r : Rg) : List Rg := L.set i ⟨r.b, r.t, 2⟩
def dropF (L : List Rg) (i : Nat) : List Rg := L.take i ++ L.drop (i + 1)
theorem hold_asc {L : List Rg} (h : Asc L) {i : Nat} {r : Rg} (hr : L[i]? = some r) : Asc (holdF L i r) := by
  have hm := List.mem_of_getElem? hr
  have hin : ∀ s, s ∈ holdF L i r → s = ⟨r.b, r.t, 2⟩ ∨ s ∈ L := fun s hs => by
    unfold holdF at hs
    rcases List.mem_or_eq_of_mem_set hs with h1 | h1
    · exact .inr h1
    · exact .inl h1
  refine ⟨fun s hs => ?_, fun s hs => ?_, fun s hs => ?_, ?_⟩
  · rcases hin s hs with rfl | h1
    · exact h.ne r hm
    · exact h.ne s h1
  · rcases hin s hs with rfl | h1
    · exact h.le r hm
    · exact h.le s h1
  · rcases hin s hs with rfl | h1
    · show (2 : Nat) < _
      omega
    · exact h.kd s h1
  · unfold holdF
    rw [List.pairwise_iff_getElem]
    intro p q hp hq hpq
    rw [List.length_set] at hp hq
    have h0 := List.pairwise_iff_getElem.1 h.pw p q hp hq hpq
    obtain ⟨hil, hrr⟩ := List.getElem?_eq_some_iff.1 hr
    rw [List.getElem_set, List.getElem_set]
    split
    · rename_i e
      subst e
      rw [if_neg (by omega)]
      rw [hrr] at h0
      exact h0
    · split
      · rename_i e
        subst e
        rw [hrr] at h0
        exact h0
      · exact h0
theorem hold_len (L : List Rg) (i : Nat) (r : Rg) : (holdF L i r).length = L.length := by unfold holdF; rw [List.length_set]
theorem drop_sub (L : List Rg) (i : Nat) : (dropF L i).Sublist L := by
  have h1 : (L.take i ++ L.drop (i + 1)).Sublist (L.take i ++ L.drop i) := List.Sublist.append_left (by rw [show i + 1 = i + 1 from rfl, ← List.drop_drop]; exact List.drop_sublist _ _) _
  rwa [List.take_append_drop] at h1
theorem drop_asc {L : List Rg} (h : Asc L) (i : Nat) : Asc (dropF L i) := by
  have hs := drop_sub L i
  exact ⟨fun r hr => h.ne r (hs.subset hr), fun r hr => h.le r (hs.subset hr), fun r hr => h.kd r (hs.subset hr), List.Pairwise.sublist hs h.pw⟩
theorem drop_len {L : List Rg} {i : Nat} (h : i < L.length) : (dropF L i).length = L.length - 1 := by
  unfold dropF
  rw [List.length_append, List.length_take, List.length_drop]
  omega

/-! Added, held and dropped: no trace. -/
theorem put_get (L : List Rg) (b t : Nat) : (putF L b t)[aboveF L b]? = some ⟨b, t, 1⟩ := by
  unfold putF
  have := above_le L b
  rw [List.getElem?_append_right (by rw [List.length_take]; omega), List.length_take]
  rw [show aboveF L b - min (aboveF L b) L.length = 0 by omega]
  rfl
theorem put_low {L : List Rg} {b t j : Nat} (hj : j < aboveF L b) : (putF L b t)[j]? = L[j]? := by
  unfold putF
  have := above_le L b
  rw [List.getElem?_append_left (by rw [List.length_take]; omega), List.getElem?_take_of_lt hj]
theorem put_idx {L : List Rg} {b t : Nat} (hbt : b < t) : idxF (putF L b t) ⟨b, t, 1⟩ = some (aboveF L b) := by
  refine idx_is (put_get L b t) (fun j hj he => ?_)
  rw [put_low hj] at he
  have h1 := above_low hj he
  have h2 : t ≤ b := h1
  omega
theorem hold_idx {L : List Rg} {b t : Nat} (hbt : b < t) : idxF (holdF (putF L b t) (aboveF L b) ⟨b, t, 1⟩) ⟨b, t, 2⟩ = some (aboveF L b) := by
  unfold holdF
  refine idx_is ?_ (fun j hj he => ?_)
  · have := above_le L b
    rw [List.getElem?_set_self (by rw [put_len]; omega)]
  · rw [List.getElem?_set_ne (by omega), put_low hj] at he
    have h1 := above_low hj he
    have h2 : t ≤ b := h1
    omega
theorem back (L : List Rg) (b t : Nat) (r : Rg) : dropF (holdF (putF L b t) (aboveF L b) r) (aboveF L b) = L := by
  have hle := above_le L b
  unfold dropF holdF
  rw [List.take_set_of_le (Nat.le_refl _), List.drop_set_of_lt (by omega)]
  unfold putF
  have hl : (L.take (aboveF L b)).length = aboveF L b := by rw [List.length_take]; omega
  rw [List.take_append_of_le_length (by omega), List.take_of_length_le (by omega), List.drop_append, hl, List.drop_of_length_le (by omega), show aboveF L b + 1 - aboveF L b = 1 by omega, List.nil_append]
  exact List.take_append_drop _ _

/-! What is found. -/
/-- The lowest place for a span among walls (each a base and a top), no lower than base. -/
def lowF (len x : Nat) : Nat → List (Nat × Nat) → Option Nat
  | _, [] => none
  | base, w :: ws => if base + len ≤ w.1 then some base else if base < w.2 then lowF len x (up w.2 x) ws else lowF len x base ws
def wallsF (L : List Rg) (rt : Nat) : List (Nat × Nat) := L.map (fun r => (r.b, r.t)) ++ [(rt, 18446744073709551615)]
theorem up_mod (t x : Nat) : up t x % 2 ^ x = 0 := by unfold up; exact Nat.mul_mod_left _ _
/-- What is found is at or above where the search begins, a multiple of the step, and apart from all walls that are passed or ahead. -/
theorem low_spec {len x : Nat} (hl : 0 < len) : ∀ (ws : List (Nat × Nat)) (base p : Nat), lowF len x base ws = some p → base % 2 ^ x = 0 → (∀ w ∈ ws, w.1 < w.2) → ws.Pairwise (fun r s => r.2 ≤ s.1) →
    base ≤ p ∧ p % 2 ^ x = 0 ∧ ∀ w ∈ ws, w.2 ≤ p ∨ p + len ≤ w.1
  | [], _, _, h, _, _, _ => by simp [lowF] at h
  | w :: ws, base, p, h, hb, hne, hp => by
    have hp2 := List.pairwise_cons.1 hp
    unfold lowF at h
    split at h
    · injection h with h
      subst h
      rename_i h1
      refine ⟨Nat.le_refl _, hb, fun v hv => ?_⟩
      rcases List.mem_cons.1 hv with rfl | h2
      · exact .inr h1
      · have h3 := hp2.1 v h2
        have h4 := hne w (by simp)
        exact .inr (by omega)
    · split at h
      · rename_i h1 h2
        obtain ⟨h3, h4, h5⟩ := low_spec hl ws _ _ h (up_mod _ _) (fun v hv => hne v (by simp [hv])) hp2.2
        have h6 := up_le w.2 x
        refine ⟨by omega, h4, fun v hv => ?_⟩
        rcases List.mem_cons.1 hv with rfl | h7
        · exact .inl (by omega)
        · exact h5 v h7
      · rename_i h1 h2
        obtain ⟨h3, h4, h5⟩ := low_spec hl ws _ _ h hb (fun v hv => hne v (by simp [hv])) hp2.2
        refine ⟨h3, h4, fun v hv => ?_⟩
        rcases List.mem_cons.1 hv with rfl | h7
        · exact .inl (by omega)
        · exact h5 v h7
/-- All reservations lie in the room. -/
def Inside (L : List Rg) (rb rt : Nat) : Prop := ∀ r ∈ L, rb ≤ r.b ∧ r.t ≤ rt
theorem walls_pw {L : List Rg} (h : Asc L) {rb rt : Nat} (hi : Inside L rb rt) : (wallsF L rt).Pairwise (fun r s => r.2 ≤ s.1) := by
  unfold wallsF
  rw [List.pairwise_append]
  refine ⟨List.pairwise_map.2 h.pw, by simp, ?_⟩
  intro r hr s hs
  simp only [List.mem_singleton] at hs
  subst hs
  obtain ⟨q, hq, rfl⟩ := List.mem_map.1 hr
  exact (hi q hq).2
theorem walls_ne {L : List Rg} (h : Asc L) {rt : Nat} (hr : rt ≤ 274877906944) : ∀ w ∈ wallsF L rt, w.1 < w.2 := by
  intro w hw
  unfold wallsF at hw
  rcases List.mem_append.1 hw with h1 | h1
  · obtain ⟨q, hq, rfl⟩ := List.mem_map.1 h1
    exact h.ne q hq
  · simp only [List.mem_singleton] at h1
    subst h1
    show rt < 18446744073709551615
    omega
/-- How long a span for n bytes is, and its step. -/
structure Shape (n l x : Nat) : Prop where
  len : n ≤ l
  page : l % 4096 = 0
  pos : 0 < l
  le : l ≤ 562949953421312
  x12 : 12 ≤ x
  x48 : x ≤ 48
  kept : ∃ e, Kept 0 l e ∧ e - 1 ≤ x ∧ up l (e - 1) = l
theorem shape_ex (n : Nat) (h0 : 0 < n) (hn : n ≤ 274877906944) : ∃ e, Kept 0 (up n 12) e ∧ Kept 0 (up (up n 12) (e - 1)) e ∧ up (up (up n 12) (e - 1)) 12 = up (up n 12) (e - 1) ∧ up n 12 ≤ 274877906944 ∧ up (up n 12) (e - 1) ≤ 281474976710656 ∧ e ≤ 37 ∧
    Shape n (up (up n 12) (e - 1)) (max (e - 1) 12) := by
  have pw : (2 : Nat) ^ 48 = 281474976710656 := by decide
  have h1 := up_le n 12
  have h2 : up n 12 ≤ 274877906944 := by
    have : cq n 12 ≤ 67108864 := (cq_iff n 12 _).2 (by omega)
    unfold up
    omega
  obtain ⟨e, hk⟩ := ex_kept (b := 0) (t := up n 12) (by omega)
  have he := hk.le
  have h3 := up_le (up n 12) (e - 1)
  have h4 := up_top (t := up n 12) (x := e - 1) (by omega) (by omega)
  have hm12 : up n 12 % 2 ^ 12 = 0 := up_mod n 12
  have key : up (up n 12) (e - 1) % 2 ^ 12 = 0 := by
    rcases Nat.lt_or_ge (e - 1) 12 with hl | hl
    · have : up (up n 12) (e - 1) = up n 12 := by
        have hd : up n 12 = (up n 12 / 2 ^ (e - 1)) * 2 ^ (e - 1) := by
          have h5 : 2 ^ (e - 1) ∣ up n 12 := Nat.dvd_trans (Nat.pow_dvd_pow 2 (by omega)) (Nat.dvd_of_mod_eq_zero hm12)
          rw [Nat.div_mul_cancel h5]
        rw [hd, up_mul]
      rw [this, hm12]
    · have h5 : 2 ^ 12 ∣ up (up n 12) (e - 1) := Nat.dvd_trans (Nat.pow_dvd_pow 2 hl) (Nat.dvd_of_mod_eq_zero (up_mod _ _))
      exact Nat.mod_eq_zero_of_dvd h5
  have h12 : up (up (up n 12) (e - 1)) 12 = up (up n 12) (e - 1) := by
    have hd : up (up n 12) (e - 1) = (up (up n 12) (e - 1) / 2 ^ 12) * 2 ^ 12 := by rw [Nat.div_mul_cancel (Nat.dvd_of_mod_eq_zero key)]
    rw [hd, up_mul]
  refine ⟨e, hk, hk.len, h12, h2, by omega, he, by omega, by omega, by omega, by omega, Nat.le_max_right _ _, by omega, e, hk.len, Nat.le_max_left _ _, up_up _ _⟩
/-- A span of such a length at a multiple of the step is kept as it is. -/
theorem shape_exact {n l x : Nat} (h : Shape n l x) {p : Nat} (hp : p % 2 ^ x = 0) : ∃ e, Kept p (p + l) e ∧ dn p (e - 1) = p ∧ up (p + l) (e - 1) = p + l := by
  obtain ⟨e, hk, hx, hu⟩ := h.kept
  obtain ⟨q, rfl⟩ : ∃ q, p = q * 2 ^ (e - 1) := ⟨p / 2 ^ (e - 1), by
    rw [Nat.div_mul_cancel (Nat.dvd_trans (Nat.pow_dvd_pow 2 hx) (Nat.dvd_of_mod_eq_zero hp))]⟩
  refine ⟨e, hk.shift q, dn_mul _ _, ?_⟩
  have : q * 2 ^ (e - 1) + l = (q + cq l (e - 1)) * 2 ^ (e - 1) := by
    rw [Nat.add_mul]
    congr 1
    exact hu.symm
  rw [this, up_mul]
theorem step_page {x p : Nat} (h : 12 ≤ x) (hp : p % 2 ^ x = 0) : p % 4096 = 0 := by
  have h1 : 2 ^ 12 ∣ p := Nat.dvd_trans (Nat.pow_dvd_pow 2 h) (Nat.dvd_of_mod_eq_zero hp)
  exact Nat.mod_eq_zero_of_dvd h1
end Go.Proofs.YtnepnckiciapfaaDoor.RgnMath
