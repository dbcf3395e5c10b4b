/-
  When two instructions are the same; and the law's own instance (one).
-/
import Derived.Test.YtlommbeokbicjaaGreatDoorInst6
import Derived.Laws.StructEq
import Derived.DeepKeys
namespace Go.Proofs.YtlommbeokbicjaaGreatDoor
open Go.RowKit Words FieldMath InstMath

def same5 (a b c d e a2 b2 c2 d2 e2 : Int) : Bool := decide (a = a2) && decide (b = b2) && decide (c = c2) && decide (d = d2) && decide (e = e2)

set_option maxHeartbeats 4000000 in
theorem eqi_i (a b c d e a2 b2 c2 d2 e2 : Int) : ∀ W, (Op.equalIn 10000 28 (.agg #[.int .i64 a, .int .i64 b, .int .i64 c, .int .i64 d, .int .i64 e]) (.agg #[.int .i64 a2, .int .i64 b2, .int .i64 c2, .int .i64 d2, .int .i64 e2])).run Tryz.prog W = .ok (same5 a b c d e a2 b2 c2 d2 e2) W := by
  intro W
  unfold same5
  by_cases h1 : a = a2 <;> by_cases h2 : b = b2 <;> by_cases h3 : c = c2 <;> by_cases h4 : d = d2 <;> by_cases h5 : e = e2 <;> simp [go_sem, h1, h2, h3, h4, h5]
theorem eq_i (a b c d e a2 b2 c2 d2 e2 : Int) : ∀ W, (binOp .eql 28 (.agg #[.int .i64 a, .int .i64 b, .int .i64 c, .int .i64 d, .int .i64 e]) (.agg #[.int .i64 a2, .int .i64 b2, .int .i64 c2, .int .i64 d2, .int .i64 e2])).run Tryz.prog W = .ok (.bool (same5 a b c d e a2 b2 c2 d2 e2)) W := fun W => by
  rw [run_eql_struct, eqi_i]
  rfl
theorem ne_i (a b c d e a2 b2 c2 d2 e2 : Int) : ∀ W, (binOp .neq 28 (.agg #[.int .i64 a, .int .i64 b, .int .i64 c, .int .i64 d, .int .i64 e]) (.agg #[.int .i64 a2, .int .i64 b2, .int .i64 c2, .int .i64 d2, .int .i64 e2])).run Tryz.prog W = .ok (.bool (!same5 a b c d e a2 b2 c2 d2 e2)) W := fun W => by
  rw [run_neq_struct, eqi_i]
  rfl

set_option maxHeartbeats 4000000 in
theorem eqi_r (a b c d e a2 b2 c2 d2 e2 : Int) : ∀ W, (Op.equalIn 10000 83 (.agg #[.int .i64 a, .int .i64 b, .int .i64 c, .int .i64 d, .int .i64 e]) (.agg #[.int .i64 a2, .int .i64 b2, .int .i64 c2, .int .i64 d2, .int .i64 e2])).run Tryz.prog W = .ok (same5 a b c d e a2 b2 c2 d2 e2) W := by
  intro W
  unfold same5
  by_cases h1 : a = a2 <;> by_cases h2 : b = b2 <;> by_cases h3 : c = c2 <;> by_cases h4 : d = d2 <;> by_cases h5 : e = e2 <;> simp [go_sem, h1, h2, h3, h4, h5]
theorem eq_r (a b c d e a2 b2 c2 d2 e2 : Int) : ∀ W, (binOp .eql 83 (.agg #[.int .i64 a, .int .i64 b, .int .i64 c, .int .i64 d, .int .i64 e]) (.agg #[.int .i64 a2, .int .i64 b2, .int .i64 c2, .int .i64 d2, .int .i64 e2])).run Tryz.prog W = .ok (.bool (same5 a b c d e a2 b2 c2 d2 e2)) W := fun W => by
  rw [run_eql_struct, eqi_r]
  rfl
theorem ne_r (a b c d e a2 b2 c2 d2 e2 : Int) : ∀ W, (binOp .neq 83 (.agg #[.int .i64 a, .int .i64 b, .int .i64 c, .int .i64 d, .int .i64 e]) (.agg #[.int .i64 a2, .int .i64 b2, .int .i64 c2, .int .i64 d2, .int .i64 e2])).run Tryz.prog W = .ok (.bool (!same5 a b c d e a2 b2 c2 d2 e2)) W := fun W => by
  rw [run_neq_struct, eqi_r]
  rfl

end Go.Proofs.YtlommbeokbicjaaGreatDoor