/-
  What bounds.Encode, Decode and Near answer.
-/
import Derived.Test.YtnbfjaocakghkaaDoorTab03
namespace Go.Proofs.YtnbfjaocakghkaaDoor
open Go.RowKit Words FieldMath BoundsMath

theorem eq_span (D U B T : Int) : ∀ W, (binOp .eql 66 (.agg #[.int .u64 D, .int .u64 U]) (.agg #[.int .u64 B, .int .u64 T])).run Tryd.prog W = .ok (.bool (decide (D = B ∧ U = T))) W := by
  intro W
  by_cases h1 : D = B <;> by_cases h2 : U = T <;> simp [go_sem, h1, h2]

end Go.Proofs.YtnbfjaocakghkaaDoor
