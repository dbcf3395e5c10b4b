/-
  The table of the flags' places, as a walk reads it; an entry's cells.
-/
import Derived.Test.YtnookalplejneaaDoorPteMath
import Derived.Test.YtnookalplejneaaDoorMore
namespace Go.Proofs.YtnookalplejneaaDoor
open Go.RowKit Words FieldMath PteMath

/-- The place of flag k in a word. -/
def plc (k : Nat) : Nat := if k < 8 then k else k + 50
/-- The table's cells. -/
def Tab (W : World) : Prop := ∀ k, k < 12 → W.cell? ⟨0, k, none⟩ = some (.int .i64 (plc k : Int))
theorem Tab.behind {W W' : World} (h : Tab W) (hb : Below W.heap.size W W') : Tab W' := fun k hk => c_be hb (h k hk)
theorem Tab.pos {W : World} (h : Tab W) : 0 < W.heap.size := World.block_lt_of_cell? W _ (h 0 (by decide))
/-- Flag k of twelve. -/
def bs (b0 b1 b2 b3 b4 b5 b6 b7 b8 b9 b10 b11 : Bool) (k : Nat) : Bool := [b0, b1, b2, b3, b4, b5, b6, b7, b8, b9, b10, b11].getD k false
/-- The cells of an entry. -/
def entL (b0 b1 b2 b3 b4 b5 b6 b7 b8 b9 b10 b11 : Bool) (F : BitVec 64) : List Value := [.bool b0, .bool b1, .bool b2, .bool b3, .bool b4, .bool b5, .bool b6, .bool b7, .bool b8, .bool b9, .bool b10, .bool b11, .int .u64 (F.toNat : Int)]
set_option maxRecDepth 100000 in
theorem entL_at (b0 b1 b2 b3 b4 b5 b6 b7 b8 b9 b10 b11 : Bool) (F : BitVec 64) (k : Nat) (h : k < 12) : (entL b0 b1 b2 b3 b4 b5 b6 b7 b8 b9 b10 b11 F)[k]? = some (.bool (bs b0 b1 b2 b3 b4 b5 b6 b7 b8 b9 b10 b11 k)) :=
  match k, h with
  | 0, _ => rfl
  | 1, _ => rfl
  | 2, _ => rfl
  | 3, _ => rfl
  | 4, _ => rfl
  | 5, _ => rfl
  | 6, _ => rfl
  | 7, _ => rfl
  | 8, _ => rfl
  | 9, _ => rfl
  | 10, _ => rfl
  | 11, _ => rfl
set_option maxRecDepth 100000 in
theorem index_ptr (b k : Nat) (h : k < 12) (W : World) : (Instr.index 87 (.agg #[.pointer (some ⟨b, 0, none⟩), .pointer (some ⟨b, 1, none⟩), .pointer (some ⟨b, 2, none⟩), .pointer (some ⟨b, 3, none⟩), .pointer (some ⟨b, 4, none⟩), .pointer (some ⟨b, 5, none⟩), .pointer (some ⟨b, 6, none⟩), .pointer (some ⟨b, 7, none⟩), .pointer (some ⟨b, 8, none⟩), .pointer (some ⟨b, 9, none⟩), .pointer (some ⟨b, 10, none⟩), .pointer (some ⟨b, 11, none⟩)]) (.int .i64 (k : Int))).run Tryd.prog W = .ok (.pointer (some ⟨b, k, none⟩)) W :=
  match k, h with
  | 0, _ => rfl
  | 1, _ => rfl
  | 2, _ => rfl
  | 3, _ => rfl
  | 4, _ => rfl
  | 5, _ => rfl
  | 6, _ => rfl
  | 7, _ => rfl
  | 8, _ => rfl
  | 9, _ => rfl
  | 10, _ => rfl
  | 11, _ => rfl
end Go.Proofs.YtnookalplejneaaDoor
