/-
  What Leaf answers (the program's and the document's), and the document's Right.
-/
import Derived.Test.YtnookalplejneaaDoorPteMath
import Derived.Test.YtnookalplejneaaDoorGrows
namespace Go.Proofs.YtnookalplejneaaDoor
open Go.RowKit Words FieldMath PteMath

set_option maxHeartbeats 2000000 in
theorem leaf_any (b0 b1 b2 b3 b4 b5 b6 b7 b8 b9 b10 b11 : Bool) (F : BitVec 64) (w : World) : Calls Tryd.prog 22 #[.agg #[.bool b0, .bool b1, .bool b2, .bool b3, .bool b4, .bool b5, .bool b6, .bool b7, .bool b8, .bool b9, .bool b10, .bool b11, .int .u64 (F.toNat : Int)]] w (Makes (.bool (b0 && (b1 || b2 || b3))) w) := by
  have SS := cell_same
  have LB' := ltB_add
  have LS := ltB_self
  have LA' := alloc_reads
  have LH := alloc_holds
  cases b0 <;> cases b1 <;> cases b2
  all_goals
    go_enter Tryd.func22, Tryd.ntmps22
    go_wp2
    go_ret
    refine ⟨rfl, ?_⟩
    repeat (first | with_reducible assumption | with_reducible exact Below.refl _ _ | with_reducible refine Below.drew ?_ | with_reducible refine below_drewN ?_ _ | with_reducible refine bw_alloc ?_ _ | (with_reducible refine bw_set ?_ ?_ _; focus (dsimp only; omega)) | (with_reducible apply bw_behind; with_reducible assumption))

set_option maxHeartbeats 2000000 in
theorem rleaf_any (b0 b1 b2 b3 b4 b5 b6 b7 b8 b9 b10 b11 : Bool) (F : BitVec 64) (w : World) : Calls Tryd.prog 36 #[.agg #[.bool b0, .bool b1, .bool b2, .bool b3, .bool b4, .bool b5, .bool b6, .bool b7, .bool b8, .bool b9, .bool b10, .bool b11, .int .u64 (F.toNat : Int)]] w (Makes (.bool (b0 && (b1 || b2 || b3))) w) := by
  have SS := cell_same
  have LB' := ltB_add
  have LS := ltB_self
  have LA' := alloc_reads
  have LH := alloc_holds
  cases b0 <;> cases b1 <;> cases b2
  all_goals
    go_enter Tryd.func36, Tryd.ntmps36
    go_wp2
    go_ret
    refine ⟨rfl, ?_⟩
    repeat (first | with_reducible assumption | with_reducible exact Below.refl _ _ | with_reducible refine Below.drew ?_ | with_reducible refine below_drewN ?_ _ | with_reducible refine bw_alloc ?_ _ | (with_reducible refine bw_set ?_ ?_ _; focus (dsimp only; omega)) | (with_reducible apply bw_behind; with_reducible assumption))
end Go.Proofs.YtnookalplejneaaDoor
