/-
  A list of reservations as cells, three each; slices of it; 'copy' and 'clear' on slices whose elements have several cells. No program text here.
-/
import Derived.Test.YtnepnckiciapfaaDoorRgnMath
import Derived.Test.YtnepnckiciapfaaDoorAppRow
import Derived.Laws.IdiomCopy
namespace Go.Proofs.YtnepnckiciapfaaDoor
open Go.RowKit RgnMath

def cellR (r : Rg) : List Value := [.int .u64 (r.b : Int), .int .u64 (r.t : Int), .int .i64 (r.k : Int)]
def cellsL (L : List Rg) : List Value := L.flatMap cellR
theorem cells_len (L : List Rg) : (cellsL L).length = L.length * 3 := by
  unfold cellsL
  induction L with
  | nil => rfl
  | cons x L ih => rw [List.flatMap_cons, List.length_append, ih, List.length_cons]; show 3 + _ = _; omega
theorem cells_cons (x : Rg) (L : List Rg) : cellsL (x :: L) = cellR x ++ cellsL L := rfl
theorem cells_app (A B : List Rg) : cellsL (A ++ B) = cellsL A ++ cellsL B := by unfold cellsL; rw [List.flatMap_append]
theorem cells_take (L : List Rg) (i : Nat) : cellsL (L.take i) = (cellsL L).take (i * 3) := by
  rcases Nat.lt_or_ge L.length i with h | h
  · rw [List.take_of_length_le (by omega), List.take_of_length_le (by rw [cells_len]; omega)]
  · have h1 := cells_app (L.take i) (L.drop i)
    rw [List.take_append_drop] at h1
    have h2 : (cellsL (L.take i)).length = i * 3 := by rw [cells_len, List.length_take]; omega
    rw [h1, List.take_append_of_le_length (by omega)]
    exact (List.take_of_length_le (by omega)).symm
theorem cells_drop (L : List Rg) (i : Nat) : cellsL (L.drop i) = (cellsL L).drop (i * 3) := by
  rcases Nat.lt_or_ge L.length i with h | h
  · rw [List.drop_of_length_le (by omega), List.drop_of_length_le (by rw [cells_len]; omega)]
    rfl
  · have h1 := cells_app (L.take i) (L.drop i)
    rw [List.take_append_drop] at h1
    have h2 : (cellsL (L.take i)).length = i * 3 := by rw [cells_len, List.length_take]; omega
    have h3 : (cellsL (L.take i)).drop (i * 3) = [] := List.drop_of_length_le (by omega)
    rw [h1, List.drop_append, h2, h3, Nat.sub_self]
    rfl
theorem cells_one (L : List Rg) : ∀ v ∈ cellsL L, v.oneCell' = true := by
  intro v hv
  unfold cellsL at hv
  obtain ⟨r, _, h⟩ := List.mem_flatMap.1 hv
  unfold cellR at h
  simp at h
  rcases h with rfl | rfl | rfl <;> rfl
theorem cells_get {L : List Rg} {i : Nat} {r : Rg} (h : L[i]? = some r) (j : Nat) (hj : j < 3) : (cellsL L)[i * 3 + j]? = (cellR r)[j]? := by
  have h1 : L = L.take i ++ r :: L.drop (i + 1) := by
    obtain ⟨hl, rfl⟩ := List.getElem?_eq_some_iff.1 h
    simp
  have hl : i < L.length := (List.getElem?_eq_some_iff.1 h).1
  have h2 : (cellsL (L.take i)).length = i * 3 := by rw [cells_len, List.length_take]; omega
  rw [h1, cells_app, cells_cons, List.getElem?_append_right (by omega), h2, show i * 3 + j - i * 3 = j by omega, List.getElem?_append_left (by show j < 3; omega)]

/-- A slice of reservations as a map has it. -/
def Lst (W : World) (v : Value) (L : List Rg) : Prop :=
  (v = .slice none 0 0 ∧ L = []) ∨ ∃ g c, v = .slice (some ⟨g, 0, none⟩) L.length c ∧ L.length ≤ c ∧ c ≤ 9223372036854775807 ∧ g < W.heap.size ∧ Row W g (cellsL L)
theorem lst_be {W W' : World} {v : Value} {L : List Rg} (hb : Below W.heap.size W W') (h : Lst W v L) : Lst W' v L := by
  rcases h with h | ⟨g, c, h1, h2, h3, h4, h5⟩
  · exact .inl h
  · exact .inr ⟨g, c, h1, h2, h3, by have := hb.size; omega, k_be hb h5⟩
theorem lst_dr {W : World} {v : Value} {L : List Rg} (k : Nat) (h : Lst W v L) : Lst (W.drewN k) v L := h
theorem lst_d1 {W : World} {v : Value} {L : List Rg} (h : Lst W v L) : Lst W.drew v L := h
theorem lst_al {W : World} {v : Value} {L : List Rg} (o : Obj) (h : Lst W v L) : Lst (W.alloc o) v L := lst_be (below_alloc (Below.refl _ _) (Nat.le_refl _) o) h
theorem lst_nil (W : World) : Lst W (.slice none 0 0) [] := .inl ⟨rfl, rfl⟩
theorem lst_owns {W : World} {base n : Nat} {e : TypeId} {v : Value} {L : List Rg} (hn : n = L.length) (h : W.ownsRow base e 3 v n (cellsL L)) : Lst W v L := by
  subst hn
  rcases h.2 with ⟨h1, h2⟩ | ⟨g, cap, cur, rfl, h3, h4, h5, h6, h7, h8⟩
  · exact .inl ⟨h1, List.length_eq_zero_iff.1 h2⟩
  · refine .inr ⟨g, cap, rfl, h5, by unfold maxLen at h6; omega, (h.lt g rfl).2, fun i u hu => ?_⟩
    have := h.cells (g := g) rfl i u hu
    rwa [add_at] at this
/-- .. whose block is none of the elder ones. -/
def LstB (base : Nat) (W : World) (v : Value) (L : List Rg) : Prop := Lst W v L ∧ ∀ k, v.ownBlock = some k → base ≤ k
theorem lstb_set {W : World} {base : Nat} {p : Addr} {u v : Value} {L : List Rg} (h : LstB base W v L) (hp : p.block < base) : Lst (W.setCell p u) v L := by
  rcases h.1 with h1 | ⟨g, c, rfl, h2, h3, h4, h5⟩
  · exact .inl h1
  · have hg := h.2 g rfl
    exact .inr ⟨g, c, rfl, h2, h3, by simpa using h4, k_set (by omega) h5⟩
theorem lst_set {W : World} {p : Addr} {u v : Value} {L : List Rg} (h : Lst W v L) (hp : v.ownBlock ≠ some p.block) : Lst (W.setCell p u) v L := by
  rcases h with h1 | ⟨g, c, rfl, h2, h3, h4, h5⟩
  · exact .inl h1
  · exact .inr ⟨g, c, rfl, h2, h3, by simpa using h4, k_set (fun e => hp (by rw [e]; rfl)) h5⟩
theorem lst_block {W : World} {v : Value} {L : List Rg} (h : Lst W v L) : ∀ k, v.ownBlock = some k → k < W.heap.size := by
  rcases h with ⟨rfl, _⟩ | ⟨g, c, rfl, h2, h3, h4, h5⟩
  · intro k hk
    cases hk
  · intro k hk
    injection hk with hk
    subst hk
    exact h4
theorem lst_one {W : World} {v : Value} {L : List Rg} (h : Lst W v L) : ∃ sa n c, v = .slice sa n c ∧ n = L.length := by
  rcases h with ⟨rfl, rfl⟩ | ⟨g, c, rfl, _⟩
  · exact ⟨none, 0, 0, rfl, rfl⟩
  · exact ⟨_, _, c, rfl, rfl⟩
theorem lst_len {W : World} {v : Value} {L : List Rg} (h : Lst W v L) : L.length ≤ 9223372036854775807 := by
  rcases h with ⟨_, rfl⟩ | ⟨g, c, h1, h2, h3, h4, h5⟩
  · simp
  · omega
/-- A reservation's three cells. -/
theorem row_at {W : World} {g : Nat} {L : List Rg} (h : Row W g (cellsL L)) {i : Nat} {r : Rg} (hr : L[i]? = some r) :
    W.cell? ⟨g, i * 3, none⟩ = some (.int .u64 (r.b : Int)) ∧ W.cell? ⟨g, i * 3 + 1, none⟩ = some (.int .u64 (r.t : Int)) ∧ W.cell? ⟨g, i * 3 + 2, none⟩ = some (.int .i64 (r.k : Int)) :=
  ⟨h _ _ (cells_get hr 0 (by omega)), h _ _ (cells_get hr 1 (by omega)), h _ _ (cells_get hr 2 (by omega))⟩

section
variable {P : Program}
/-- 'copy' on slices whose elements have k cells: all is read before anything is written. -/
theorem run_copyK (w : World) (dT sT ty elem : TypeId) (b o dLen dCap : Nat) (a : Addr) (sLen sCap k : Nat) (cs : List Value)
    (hu : P.underlying dT = some (.slice elem)) (hs : (P.info? elem).map (·.size) = some k) (hn : cs.length = Nat.min sLen dLen * k)
    (hsrc : ∀ j v, cs[j]? = some v → w.cell? (a.add j) = some v) (hc : ∀ j, j < cs.length → (w.cell? ⟨b, o + j, none⟩).isSome = true) (hf : ∀ j, j < cs.length → w.frozen? ⟨b, o + j, none⟩ = false) (h1 : ∀ v ∈ cs, v.oneCell' = true) :
    (Builtin.copy_ #[dT, sT] ty #[.slice (some ⟨b, o, none⟩) dLen dCap, .slice (some a) sLen sCap]).run P w = .ok (goInt (Nat.min sLen dLen : Nat)) (w.setCells b o cs) := by
  have hl := run_loadCells_list (P := P) w a cs hsrc
  have hst := run_storeCells_cells (P := P) b o cs 0 w (by simpa using hc) (by simpa using hf) h1
  cases hq : P.info? elem with
  | none => simp [hq] at hs
  | some i =>
    have hi : i.size = k := by simpa [hq] using hs
    simp [Builtin.copy_, run_underlying hu, Builtin.lenOf, Builtin.firstCells, sizeOf, typeInfo, hq, hi, ← hn, hl, hst]
/-- 'clear' on a slice of n > 0 elements whose zero value has the cells zs: some cells are written. -/
theorem run_clearK (w : World) (t e ty : TypeId) (z : Value) (ht : P.underlying t = some (.slice e)) (hv : ∀ w, (zeroValue e).run P w = .ok z w) (b o n c : Nat) (hn : 0 < n) (zs : List Value) (hz : (Builtin.zeroCells z.cells n).toList = zs)
    (h1 : ∀ v ∈ zs, v.oneCell' = true) (hc : ∀ j, j < zs.length → (w.cell? ⟨b, o + j, none⟩).isSome = true) (hf : ∀ j, j < zs.length → w.frozen? ⟨b, o + j, none⟩ = false) :
    (Builtin.clear_ #[t] ty #[.slice (some ⟨b, o, none⟩) n c]).run P w = .ok (.tuple #[]) (w.setCells b o zs) := by
  have hst := run_storeCells_cells (P := P) b o zs 0 w (by simpa using hc) (by simpa using hf) h1
  simp only [Nat.add_zero] at hst
  obtain ⟨m, rfl⟩ : ∃ m, n = m + 1 := ⟨n - 1, by omega⟩
  simp [Builtin.clear_, run_underlying ht, hv, hz, hst]
end
end Go.Proofs.YtnepnckiciapfaaDoor
