/-
  WalkApart holds: for every l, at and e the law returns true and turns nothing that was there, where the table of places holds what the program's text lays.
-/
import Derived.Test.YtnookalplejneaaDoorWalkPlace
import Derived.Test.YtnookalplejneaaDoorWalkOne
import Derived.Test.YtnookalplejneaaDoorPteLaid
import Derived.Test.YtnookalplejneaaDoorPteEq
import Derived.Laws.StructEq
import Derived.RangeFuncBox
import Derived.Laws.AppendOwn
import Derived.Deep.QuietTactic
import Derived.BigQuiet
import Derived.Deep.DeepCutAuto
import Derived.Deep.CutBlock
namespace Go.Proofs.YtnookalplejneaaDoor.WalkApart
open Go.RowKit Words FieldMath PteMath

theorem owns_be {W W' : World} {base n size : Nat} {e : TypeId} {v : Value} {xs : List Value} (hb : Below W.heap.size W W') (h : W.ownsRow base e size v n xs) : W'.ownsRow base e size v n xs :=
  h.kept (row := none) ⟨hb.os, hb.tape, hb.output, hb.size, fun k hk _ => hb.block k hk⟩ (by cases hv : v.ownBlock <;> simp)
theorem info_lay : (Tryd.prog.info? 54).map (fun i => (i.zero, i.size, i.bytes)) = some (some (.agg #[.int .i64 0, .int .i64 0, .bool false, .bool false, .bool false, .bool false, .bool false, .bool false, .bool false, .bool false, .bool false, .bool false, .bool false, .bool false, .int .u64 0]), 15, 40) := by kernel_rfl
/-- An entry of the lowest table. -/
def to2 (d : LayD) : LayD := { d with f := 2 }
def cells2 (l : List LayD) : List Value := (l.map to2).flatMap LayD.cells
theorem cells2_add (l : List LayD) (d : LayD) : cells2 (l ++ [d]) = cells2 l ++ (to2 d).cells := by
  unfold cells2
  rw [List.map_append, List.flatMap_append]
  simp
theorem own_base {W : World} {base n size : Nat} {e : TypeId} {v : Value} {xs : List Value} (h : W.ownsRow base e size v n xs) (j : Nat) (ej : some j = v.ownBlock) : base ≤ j := (h.lt j ej.symm).1
theorem row_one {W : World} {b : Nat} {c news : List Value} (h : Row W b c) (hc : c = news) : ∀ j u, news[j]? = some u → W.cell? ((⟨b, 0, none⟩ : Addr).add j) = some u := fun j u hj => by
  rw [add_at]
  subst hc
  exact h j u hj
set_option maxRecDepth 100000 in
set_option maxHeartbeats 4000000 in
theorem eqi_found (d0 d1 d2 d3 d4 d5 d6 d7 d8 d9 d10 d11 : Bool) (F A : Int) : ∀ W, (Op.equalIn 10000 34 (.agg #[.bool d0, .bool d1, .bool d2, .bool d3, .bool d4, .bool d5, .bool d6, .bool d7, .bool d8, .bool d9, .bool d10, .bool d11, .int .u64 F, .int .u64 A]) (.agg #[.bool d0, .bool d1, .bool d2, .bool d3, .bool d4, .bool d5, .bool d6, .bool d7, .bool d8, .bool d9, .bool d10, .bool d11, .int .u64 F, .int .u64 A])).run Tryd.prog W = .ok true W := by
  intro W
  simp [go_sem]
end Go.Proofs.YtnookalplejneaaDoor.WalkApart
