/-
  Rows of one's own that grow by append: they stay behind calls; one cell more. No program text here.
-/
import Derived.Test.YtnepnckiciapfaaDoorMore
import Derived.Laws.AppendOwn
import Derived.Laws.OwnMore
namespace Go.Proofs.YtnepnckiciapfaaDoor
open Go.RowKit
theorem owns_be {W W' : World} {base n size : Nat} {e : TypeId} {v : Value} {xs : List Value} (hb : Below W.heap.size W W') (h : W.ownsRow base e size v n xs) : W'.ownsRow base e size v n xs :=
  h.kept (row := none) ⟨hb.os, hb.tape, hb.output, hb.size, fun k hk _ => hb.block k hk⟩ (by cases hv : v.ownBlock <;> simp)
theorem owns_dr {W : World} {base n size : Nat} {e : TypeId} {v : Value} {xs : List Value} (k : Nat) (h : W.ownsRow base e size v n xs) : (W.drewN k).ownsRow base e size v n xs := h
theorem owns_d1 {W : World} {base n size : Nat} {e : TypeId} {v : Value} {xs : List Value} (h : W.ownsRow base e size v n xs) : W.drew.ownsRow base e size v n xs := h
theorem owns_al {W : World} {base n size : Nat} {e : TypeId} {v : Value} {xs : List Value} (o : Obj) (h : W.ownsRow base e size v n xs) : (W.alloc o).ownsRow base e size v n xs := h.alloc o
theorem owns_set {W : World} {base n size : Nat} {e : TypeId} {v : Value} {xs : List Value} {p : Addr} {u : Value} (hne : v.ownBlock ≠ some p.block) (h : W.ownsRow base e size v n xs) : (W.setCell p u).ownsRow base e size v n xs := by
  refine ⟨h.1, ?_⟩
  rcases h.2 with h2 | ⟨g, cap, cur, rfl, h3, h4, h5⟩
  · exact .inl h2
  · exact .inr ⟨g, cap, cur, rfl, h3, (Below.heap_setCell _ _ _ _ (fun e => hne (by rw [← e]; rfl))).trans h4, h5⟩
theorem row_base {W : World} {base : Nat} {e : TypeId} {size k : Nat} {v : Value} {xs : List Value} (h : W.ownsRow base e size v k xs) (j : Nat) (ej : v.ownBlock = some j) : base ≤ j := (h.lt j ej).1
theorem own_base {W : World} {base n size : Nat} {e : TypeId} {v : Value} {xs : List Value} (h : W.ownsRow base e size v n xs) (j : Nat) (ej : some j = v.ownBlock) : base ≤ j := (h.lt j ej.symm).1
theorem cell_one (W : World) (x : Value) (t : TypeId) {b : Nat} (hb : b = W.heap.size) : ∀ j u, ([x] : List Value)[j]? = some u → (W.alloc (.cells #[x] t)).cell? ((⟨b, 0, none⟩ : Addr).add j) = some u := by
  subst hb
  intro j u hj
  match j, hj with
  | 0, hj =>
    simp at hj
    subst hj
    simp [go_sem, Addr.add]
  | j + 1, hj => simp at hj
/-- A row that is not nil has its cells. -/
theorem owns_cell {W : World} {base n size : Nat} {e : TypeId} {v : Value} {xs : List Value} (h : W.ownsRow base e size v n xs) (hn : n ≠ 0) : ∃ g cap, v = .slice (some ⟨g, 0, none⟩) n cap ∧ n ≤ cap ∧ base ≤ g ∧ g < W.heap.size ∧ ∀ j u, xs[j]? = some u → W.cell? ⟨g, j, none⟩ = some u := by
  have h0 := h
  rcases h.2 with ⟨_, h2⟩ | ⟨g, cap, cur, rfl, h3, h4, h5, _⟩
  · exact absurd h2 hn
  · refine ⟨g, cap, rfl, h5, h3, (h0.lt g rfl).2, fun j u hj => ?_⟩
    have := h0.cells (g := g) rfl j u hj
    rw [show (⟨g, 0, none⟩ : Addr).add j = ⟨g, j, none⟩ by unfold Addr.add; split <;> simp_all] at this
    exact this
/-- Nothing but block N has turned. -/
structure OutB (N : Nat) (w W : World) : Prop where
  os : W.os = w.os
  tape : W.tape = w.tape
  output : W.output = w.output
  size : w.heap.size ≤ W.heap.size
  block : ∀ k, k < w.heap.size → k ≠ N → W.heap[k]? = w.heap[k]?
theorem OutB.refl (N : Nat) (w : World) : OutB N w w := ⟨rfl, rfl, rfl, Nat.le_refl _, fun _ _ _ => rfl⟩
theorem OutB.trans {N : Nat} {a b c : World} (h : OutB N a b) (k : OutB N b c) : OutB N a c := by
  have hs := h.size
  exact ⟨k.os.trans h.os, k.tape.trans h.tape, k.output.trans h.output, Nat.le_trans hs k.size, fun i hi hn => (k.block i (by omega) hn).trans (h.block i hi hn)⟩
theorem OutB.of_below {N : Nat} {a b : World} (h : Below a.heap.size a b) : OutB N a b := ⟨h.os, h.tape, h.output, h.size, fun i hi _ => h.block i hi⟩
theorem outB_grown {b : Nat} {W W' : World} (h : W.grownBy W' (some b)) : OutB b W W' := ⟨h.os, h.tape, h.output, h.size, fun k hk hne => h.block k hk (fun e => hne (by injection e))⟩
/-- What was below n stays, if the block that turns is not. -/
theorem OutB.below {N n : Nat} {a w w' : World} (hb : Below n a w) (hn : n ≤ N) (hs : n ≤ w.heap.size) (h : OutB N w w') : Below n a w' :=
  ⟨h.os.trans hb.os, h.tape.trans hb.tape, h.output.trans hb.output, Nat.le_trans hb.size h.size, fun i hi => (h.block i (by omega) (by omega)).trans (hb.block i hi)⟩
theorem ob_cell {N : Nat} {w w' : World} {a : Addr} {v : Value} (h : OutB N w w') (hne : a.block ≠ N) (hc : w.cell? a = some v) : w'.cell? a = some v := by
  have hlt := World.block_lt_of_cell? _ _ hc
  unfold World.cell? at hc ⊢
  rw [h.block _ hlt hne]
  exact hc
theorem ob_own {N b k : Nat} {w w' : World} (h : OutB N w w') (hne : b ≠ N) (ho : Own w b k) : Own w' b k := fun i hi => by
  obtain ⟨v, hv⟩ := ho.val i hi
  have hlt : b < w.heap.size := World.block_lt_of_cell? _ _ hv
  refine ⟨by rw [ob_cell h hne hv]; rfl, ?_⟩
  have hf := ho.free i hi
  unfold World.frozen? at hf ⊢
  dsimp only at hf ⊢
  rw [h.block _ hlt hne]
  exact hf
theorem ob_owns {N : Nat} {W W' : World} {base n size : Nat} {e : TypeId} {v : Value} {xs : List Value} (ho : OutB N W W') (hne : v.ownBlock ≠ some N) (h : W.ownsRow base e size v n xs) : W'.ownsRow base e size v n xs := by
  refine ⟨h.1, ?_⟩
  rcases h.2 with h2 | ⟨g, cap, cur, rfl, h3, h4, h5⟩
  · exact .inl h2
  · have hlt : g < W.heap.size := (Array.getElem?_eq_some_iff.1 h4).1
    exact .inr ⟨g, cap, cur, rfl, h3, (ho.block g hlt (fun e => hne (by rw [← e]; rfl))).trans h4, h5⟩
end Go.Proofs.YtnepnckiciapfaaDoor
