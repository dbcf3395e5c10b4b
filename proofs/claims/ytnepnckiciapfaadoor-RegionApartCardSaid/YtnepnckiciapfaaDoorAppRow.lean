/-
  'append' onto a slice of the call's own, told by rows; a cell of a row stored anew. No program text here.
-/
import Derived.Test.YtnepnckiciapfaaDoorOwn
import Derived.Laws.AppendOwn
namespace Go.Proofs.YtnepnckiciapfaaDoor
open Go.RowKit

theorem row_set {W : World} {g k : Nat} {l : List Value} {u : Value} (h : Row W g l) : Row (W.setCell ⟨g, k, none⟩ u) g (l.set k u) := by
  intro i v hv
  rw [List.getElem?_set] at hv
  split at hv
  · rename_i e
    subst e
    split at hv
    · rename_i hl
      injection hv with hv
      subst hv
      exact cell_same _ _ _ (by rw [h k l[k] (by simp [hl])]; rfl)
    · cases hv
  · rename_i e
    exact (World.cell?_setCell_other _ _ _ _ (fun x => e (congrArg Addr.off x))).trans (h i v hv)
theorem add_at (g j : Nat) : (⟨g, 0, none⟩ : Addr).add j = ⟨g, j, none⟩ := by unfold Addr.add; split <;> simp_all
theorem own_made {W : World} {e : TypeId} {base n : Nat} (h : W.heap.size = n) (hb : base ≤ n) : (W.alloc (.cells #[] e)).ownsRow base e 1 (.slice (some ⟨n, 0, none⟩) 0 0) 0 [] := by
  subst h
  exact World.ownsRow_made _ _ 0 hb (by unfold maxLen; omega) rfl
/-- 'append' onto a slice of the call's own: behind it the slice's row is told, that it may be written, and that nothing below 'base' has turned. -/
theorem wpList_append_row {P : Program} {w : World} {ops : Array Oper} {rest : List Oper} {o : Oper} {a : Act} {Q : Exit → Act → World → Prop} (hgd : o.guard = none) (s x : Operand) (t : TypeId)
    (ho : o.op = .call { callee := .builtin .append, args := #[s, x], argTypes := #[t, t] })
    (base : Nat) (e : TypeId) (i : TypeInfo) (z : Value) (bytes : Nat) (ht : P.underlying t = some (.slice e)) (hi : P.info? e = some i) (hz : i.zero = some z)
    (hsize : i.size = 1) (hby : i.bytes = bytes) (hzs : z.cells.size = 1)
    (v : Value) (n : Nat) (xs : List Value) (hs : a.eval s = v) (hown : w.ownsRow base e 1 v n xs)
    (g m c : Nat) (news : List Value) (hx : a.eval x = .slice (some ⟨g, 0, none⟩) m c) (hl : news.length = m) (hnews : Row w g news) (h1 : ∀ u ∈ news, u.oneCell' = true)
    (hm : 1 ≤ m) (h63 : n + m ≤ maxLen) (hbytes : (n + m) * bytes ≤ 140737488355328) (hbase : base ≤ w.heap.size)
    (h : ∀ g' c' w', base ≤ g' → g' < w'.heap.size → n + m ≤ c' → Row w' g' (xs ++ news) → (∀ i, w'.frozen? ⟨g', i, none⟩ = false) → Below base w w' → wpList P ops Q rest (a.put o.dst (.slice (some ⟨g', 0, none⟩) (n + m) c')) w') : wpList P ops Q (o :: rest) a w := by
  refine wpList_append_own _ hgd s x t ho base e i z 1 bytes ht hi hz hsize hby hzs (by omega) v n xs hs hown ⟨g, 0, none⟩ m c news hx (by omega) (fun j u hj => by rw [add_at]; exact hnews j u hj) h1 h63 hbytes hbase ?_
  intro v' w' hown' hgrow _
  have hbel : Below base w w' := (Below.refl base w).grown hgrow hbase (fun k hk => (hown.lt k hk).1)
  rcases hown'.2 with ⟨_, h0⟩ | ⟨g', c', cur, rfl, hb, hg, hc, _⟩
  · omega
  · exact h g' c' w' hb (hown'.lt g' rfl).2 hc (fun j u hj => by have := hown'.cells (g := g') rfl j u hj; rwa [add_at] at this) (fun i => by simp [World.frozen?, hg]) hbel

end Go.Proofs.YtnepnckiciapfaaDoor
