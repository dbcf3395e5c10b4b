/-
  Runs of cells stored into a block of one's own; an operation of the language whose run is known. No program text here.
-/
import Derived.Test.YtnepnckiciapfaaDoorRgnLib
import Derived.Laws.Externs
import Derived.Lib.Overlaps
import Derived.Lib.AppendZerosOnto
import Derived.Deep.RegionLaw
namespace Go.Proofs.YtnepnckiciapfaaDoor
open Go.RowKit RgnMath

theorem bel_sets {base b : Nat} {a : World} (hb : base ≤ b) : ∀ (vs : List Value) (o : Nat) (W : World), Below base a W → Below base a (W.setCells b o vs)
  | [], _, _, h => h
  | v :: vs, o, _, h => bel_sets hb vs (o + 1) _ (h.setCell (p := ⟨b, o, none⟩) hb v)
theorem own_sets {b k : Nat} : ∀ (vs : List Value) (o : Nat) (W : World), Own W b k → Own (W.setCells b o vs) b k
  | [], _, _, h => h
  | _ :: vs, o, _, h => own_sets vs (o + 1) _ (o_set h)
/-- A row behind a run of stores. -/
theorem row_sets {W : World} {b o : Nat} {vs l : List Value} (ho : Own W b (o + vs.length)) (h : ∀ j v, l[j]? = some v → if o ≤ j ∧ j < o + vs.length then vs[j - o]? = some v else W.cell? ⟨b, j, none⟩ = some v) : Row (W.setCells b o vs) b l := by
  intro j v hj
  have h1 := h j v hj
  split at h1
  · rename_i h2
    have h3 := World.cell?_setCells_in b vs o W (fun i hi => (ho (o + i) (by omega)).1) (j - o) (by omega)
    rw [show o + (j - o) = j by omega] at h3
    rw [h3, ← h1, List.getElem?_eq_getElem]
  · rename_i h2
    rw [World.cell?_setCells_out b vs o W ⟨b, j, none⟩ (fun _ _ => by show j < o ∨ o + vs.length ≤ j; omega)]
    exact h1
/-- .. at a row's end. -/
theorem row_app {W : World} {b o : Nat} {vs l : List Value} (hl : l.length = o) (ho : Own W b (o + vs.length)) (h : Row W b l) : Row (W.setCells b o vs) b (l ++ vs) := by
  refine row_sets ho (fun j v hj => ?_)
  have hj0 := (List.getElem?_eq_some_iff.1 hj).1
  rw [List.length_append] at hj0
  rcases Nat.lt_or_ge j o with h2 | h2
  · rw [if_neg (by omega)]
    rw [List.getElem?_append_left (by omega)] at hj
    exact h j v hj
  · rw [if_pos ⟨h2, by omega⟩]
    rw [List.getElem?_append_right (by omega), hl] at hj
    exact hj
theorem own_le {W : World} {b k m : Nat} (h : Own W b k) (hm : m ≤ k) : Own W b m := fun i hi => h i (by omega)
theorem owns_low {W : World} {base b2 n size : Nat} {e : TypeId} {v : Value} {xs : List Value} (h : W.ownsRow base e size v n xs) (hb : b2 ≤ base) : W.ownsRow b2 e size v n xs := by
  refine ⟨h.1, ?_⟩
  rcases h.2 with h2 | ⟨g, cap, cur, h1, h3, h4⟩
  · exact .inl h2
  · exact .inr ⟨g, cap, cur, h1, by omega, h4⟩
theorem heap_new {W : World} {o : Obj} : (W.alloc o).heap[W.heap.size]? = some o := by
  show (W.heap.push o)[W.heap.size]? = some o
  simp
theorem c_low {base : Nat} {W W' : World} {a : Addr} {v : Value} (hb : Below base W W') (hlt : a.block < base) (h : W.cell? a = some v) : W'.cell? a = some v := (hb.cell hlt).trans h
theorem o_low {base b k : Nat} {W W' : World} (hb : Below base W W') (hlt : b < base) (h : Own W b k) : Own W' b k := fun i hi =>
  ⟨by rw [hb.cell (p := ⟨b, i, none⟩) hlt]; exact (h i hi).1, by rw [hb.frozen (p := ⟨b, i, none⟩) hlt]; exact (h i hi).2⟩
theorem own_of_heap {W : World} {g k : Nat} {cur : Array Value} {e : TypeId} (h : W.heap[g]? = some (.cells cur e (0, 0))) (hk : k ≤ cur.size) : Own W g k := fun i hi => by
  constructor
  · unfold World.cell?
    simp only [h]
    simp
    omega
  · unfold World.frozen?
    simp only [h]
    simp
theorem shape_of_heap {W : World} {g : Nat} {cur : Array Value} {e : TypeId} {z : Nat × Nat} (h : W.heap[g]? = some (.cells cur e z)) : W.shape? g = some (e, cur.size) := by
  unfold World.shape?
  simp only [h]
theorem row_of_heap {W : World} {g : Nat} {cur : Array Value} {e : TypeId} {z : Nat × Nat} {l : List Value} (h : W.heap[g]? = some (.cells cur e z)) (hl : cur.toList = l) : Row W g l := fun i v hv => by
  subst hl
  unfold World.cell?
  simp only [h]
  simpa using hv
theorem frozen_of_heap {W : World} {g i : Nat} {cur : Array Value} {e : TypeId} (h : W.heap[g]? = some (.cells cur e (0, 0))) : W.frozen? ⟨g, i, none⟩ = false := by
  unfold World.frozen?
  simp only [h]
  simp

section
variable {P : Program}
/-- A builtin of two arguments whose run is known: one step of a walk. -/
theorem wpList_built {ops : Array Oper} {rest : List Oper} {o : Oper} {a : Act} {w : World} {Q : Exit → Act → World → Prop} (hgd : o.guard = none) (x y : Operand) (t u : TypeId)
    (ho : o.op = .call { callee := .builtin .copy, args := #[x, y], argTypes := #[t, u] }) (vx vy : Value) (hx : a.eval x = vx) (hy : a.eval y = vy) {v' : Value} {w' : World}
    (hr : (Builtin.copy_ #[t, u] o.type #[vx, vy]).run P w = .ok v' w') (h : wpList P ops Q rest (a.put o.dst v') w') : wpList P ops Q (o :: rest) a w :=
  wpList_plain hgd fun _ hK => by
    unfold Oper.wp execOp
    simp only [ho, resolve, invoke, builtin, Sem.run_bind, Sem.run_pure, Result.andThen_ok, List.map_toArray, List.map_cons, List.map_nil, hx, hy, hr]
    exact hK _ _ h
theorem wpList_built1 {ops : Array Oper} {rest : List Oper} {o : Oper} {a : Act} {w : World} {Q : Exit → Act → World → Prop} (hgd : o.guard = none) (x : Operand) (t : TypeId)
    (ho : o.op = .call { callee := .builtin .clear, args := #[x], argTypes := #[t] }) (vx : Value) (hx : a.eval x = vx) {v' : Value} {w' : World}
    (hr : (Builtin.clear_ #[t] o.type #[vx]).run P w = .ok v' w') (h : wpList P ops Q rest (a.put o.dst v') w') : wpList P ops Q (o :: rest) a w :=
  wpList_plain hgd fun _ hK => by
    unfold Oper.wp execOp
    simp only [ho, resolve, invoke, builtin, Sem.run_bind, Sem.run_pure, Result.andThen_ok, List.map_toArray, List.map_cons, List.map_nil, hx, hr]
    exact hK _ _ h
/-- The same inside a region that draws its order. -/
theorem step_built {ops : Array Oper} {o : Oper} {a : Act} {w : World} {K : Act → World → Prop} {Q : Exit → Act → World → Prop} {E : Prop} (hgd : o.guard = none) (x y : Operand) (t u : TypeId)
    (ho : o.op = .call { callee := .builtin .copy, args := #[x, y], argTypes := #[t, u] }) (vx vy : Value) (hx : a.eval x = vx) (hy : a.eval y = vy) {v' : Value} {w' : World}
    (hr : (Builtin.copy_ #[t, u] o.type #[vx, vy]).run P w = .ok v' w') (h : K (a.put o.dst v') w') : if Region.wanted o (yielded ops a.tmps) = true then Oper.wp P o a w K Q else E := by
  rw [if_pos (show Region.wanted o (yielded ops a.tmps) = true by simp [Region.wanted, hgd])]
  unfold Oper.wp execOp
  simp only [ho, resolve, invoke, builtin, Sem.run_bind, Sem.run_pure, Result.andThen_ok, List.map_toArray, List.map_cons, List.map_nil, hx, hy, hr]
  exact h
end
end Go.Proofs.YtnepnckiciapfaaDoor
