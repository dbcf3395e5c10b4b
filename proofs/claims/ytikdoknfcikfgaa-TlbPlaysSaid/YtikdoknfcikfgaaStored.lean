/-
  A value of many cells stored into a variable of its own: behind it the world is a letter, of which its cells are told, and that nothing else has turned. No program text here.
-/
import Derived.Test.YtikdoknfcikfgaaLong
import Derived.Deep.MidRow
namespace Go.Proofs.Ytikdoknfcikfgaa
open Go.RowKit

theorem below_sc {b : Nat} : ∀ {a : World} {o : Nat} (l : List Value), Below b a (a.setCells b o l)
  | _, _, [] => Below.refl _ _
  | a, o, v :: l => by
    rw [World.setCells]
    exact ((Below.refl b a).setCell (p := ⟨b, o, none⟩) (Nat.le_refl _) v).trans (below_sc l)
theorem wpList_store_row {P : Program} {ops : Array Oper} {rest : List Oper} {op : Oper} {a : Act} {w : World} {Q : Exit → Act → World → Prop} (hgd : op.guard = none) (ty : TypeId) (x y : Operand) (ho : op.op = .store ty x y)
    (b n : Nat) (cells : Array Value) (hx : a.eval x = .pointer (some ⟨b, 0, none⟩)) (hy : a.eval y = .agg cells) (hn : cells.size = n)
    (ht : Own w b n) (hi : (P.info? ty).map (·.size) = some n) (h1 : cells.all (·.oneCell') = true)
    (h : ∀ W', Row W' b cells.toList → Below b w W' → Own W' b n → W'.heap.size = w.heap.size → (∀ a v, a.block ≠ b → w.cell? a = some v → W'.cell? a = some v) → wpList P ops Q rest (a.put op.dst undef) W') : wpList P ops Q (op :: rest) a w := by
  subst hn
  exact wpList_store_mid hgd ty x y ho b 0 cells hx hy (th_own ht) hi h1 (h _ (row_sc (by simpa using th_own ht)) (below_sc _) (o_sc ht) (setCells_size _ _ _ _) (fun a v hne hv => c_sc (fun e => hne e.symm) hv))
end Go.Proofs.Ytikdoknfcikfgaa
