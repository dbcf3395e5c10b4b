/-
  Contracts of functions that make memory of their own: what was there stays; and the facts that a walk needs behind such a call, as rules. No program text here.
-/
import Derived.Test.YtnepnckiciapfaaDoorQuiet
namespace Go.Proofs.YtnepnckiciapfaaDoor
open Go.RowKit

/-- The call answers v; what was there stays; it may make memory. -/
def Makes (v : Value) (w : World) (e : Ending) (w' : World) : Prop := e = .returned v ∧ Below w.heap.size w w'

theorem below_grew {n : Nat} {w w' : World} (h : Below n w w') : ∃ m, w'.heap.size = w.heap.size + m := ⟨w'.heap.size - w.heap.size, by have := h.size; omega⟩
/-- 'a < b', in a form that a walk reckons addend by addend. -/
def ltB (a b : Nat) : Bool := decide (a < b)
theorem ltB_add : ∀ a b c : Nat, ltB a (b + c) = (ltB a b || decide (a < b + c)) := fun a b c => by
  unfold ltB
  by_cases h : a < b
  · have h2 : a < b + c := by omega
    simp [h, h2]
  · simp [h]
theorem ltB_self : ∀ a : Nat, ltB a a = false := fun a => by unfold ltB; simp
theorem below_reads {n : Nat} {w w' : World} (h : Below n w w') : ∀ b i, ltB b n = true → w'.cell? ⟨b, i, none⟩ = w.cell? ⟨b, i, none⟩ := fun _ _ hb => h.cell (of_decide_eq_true hb)
theorem below_holds {n : Nat} {w w' : World} (h : Below n w w') : ∀ b i, ltB b n = true → w'.frozen? ⟨b, i, none⟩ = w.frozen? ⟨b, i, none⟩ := fun _ _ hb => h.frozen (of_decide_eq_true hb)
theorem alloc_reads : ∀ (w : World) (o : Obj) (b i : Nat), ltB b w.heap.size = true → (w.alloc o).cell? ⟨b, i, none⟩ = w.cell? ⟨b, i, none⟩ := fun w o _ _ hb => World.cell?_alloc_lt w o _ (of_decide_eq_true hb)
theorem alloc_holds : ∀ (w : World) (o : Obj) (b i : Nat), ltB b w.heap.size = true → (w.alloc o).frozen? ⟨b, i, none⟩ = w.frozen? ⟨b, i, none⟩ := fun w o _ _ hb => World.frozen?_alloc_old w o _ (by have := of_decide_eq_true hb; simp; omega)
/-- A cell that is there reads what was stored. -/
theorem cell_same : ∀ (w : World) (a : Addr) (v : Value), (w.cell? a).isSome = true → (w.setCell a v).cell? a = some v := fun w a v h => by
  obtain ⟨u, hu⟩ := Option.isSome_iff_exists.1 h
  exact World.cell?_setCell_same _ _ _ hu
theorem quiet_makes {v : Value} {w : World} {e : Ending} {w' : World} (h : Quiet v w e w') : Makes v w e w' := by
  obtain ⟨he, n, rfl⟩ := h
  exact ⟨he, below_drewN (Below.refl _ _) n⟩
theorem below_alloc {n : Nat} {a w : World} (h : Below n a w) (hn : n ≤ a.heap.size) (o : Obj) : Below n a (w.alloc o) := h.alloc (Nat.le_trans hn h.size) o
theorem below_behind {n : Nat} {w a b : World} (h : Below n w a) (hn : n ≤ w.heap.size) (k : Below a.heap.size a b) : Below n w b := h.trans (k.mono (Nat.le_trans hn h.size))
/-! What was there when the call began lies as it lay: step by step, no side goal but what a walk pays. -/
theorem bw_alloc {w a : World} (h : Below w.heap.size w a) (o : Obj) : Below w.heap.size w (a.alloc o) := below_alloc h (Nat.le_refl _) o
theorem bw_set {w a : World} {p : Addr} (hp : w.heap.size ≤ p.block) (h : Below w.heap.size w a) (v : Value) : Below w.heap.size w (a.setCell p v) := h.setCell hp v
theorem bw_behind {w a b : World} (k : Below a.heap.size a b) (h : Below w.heap.size w a) : Below w.heap.size w b := below_behind h (Nat.le_refl _) k
end Go.Proofs.YtnepnckiciapfaaDoor
