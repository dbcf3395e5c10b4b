/-
  When two entries are the same.
-/
import Derived.Test.YtnookalplejneaaDoorPteTab
import Derived.Laws.StructEq
import Derived.DeepKeys
namespace Go.Proofs.YtnookalplejneaaDoor
open Go.RowKit Words FieldMath PteMath

set_option maxRecDepth 100000 in
set_option maxHeartbeats 4000000 in
theorem eqi_e (b0 b1 b2 b3 b4 b5 b6 b7 b8 b9 b10 b11 : Bool) (N M : Int) : ∀ W, (Op.equalIn 10000 32 (.agg #[.bool b0, .bool b1, .bool b2, .bool b3, .bool b4, .bool b5, .bool b6, .bool b7, .bool b8, .bool b9, .bool b10, .bool b11, .int .u64 N]) (.agg #[.bool b0, .bool b1, .bool b2, .bool b3, .bool b4, .bool b5, .bool b6, .bool b7, .bool b8, .bool b9, .bool b10, .bool b11, .int .u64 M])).run Tryd.prog W = .ok (decide (N = M)) W := by
  intro W
  by_cases h : N = M <;> simp [go_sem, h]
set_option maxRecDepth 100000 in
theorem eq_e (b0 b1 b2 b3 b4 b5 b6 b7 b8 b9 b10 b11 : Bool) (N M : Int) : ∀ W, (binOp .eql 32 (.agg #[.bool b0, .bool b1, .bool b2, .bool b3, .bool b4, .bool b5, .bool b6, .bool b7, .bool b8, .bool b9, .bool b10, .bool b11, .int .u64 N]) (.agg #[.bool b0, .bool b1, .bool b2, .bool b3, .bool b4, .bool b5, .bool b6, .bool b7, .bool b8, .bool b9, .bool b10, .bool b11, .int .u64 M])).run Tryd.prog W = .ok (.bool (decide (N = M))) W := fun W => by
  rw [run_eql_struct, eqi_e]
  rfl
set_option maxRecDepth 100000 in
theorem ne_e (b0 b1 b2 b3 b4 b5 b6 b7 b8 b9 b10 b11 : Bool) (N M : Int) : ∀ W, (binOp .neq 32 (.agg #[.bool b0, .bool b1, .bool b2, .bool b3, .bool b4, .bool b5, .bool b6, .bool b7, .bool b8, .bool b9, .bool b10, .bool b11, .int .u64 N]) (.agg #[.bool b0, .bool b1, .bool b2, .bool b3, .bool b4, .bool b5, .bool b6, .bool b7, .bool b8, .bool b9, .bool b10, .bool b11, .int .u64 M])).run Tryd.prog W = .ok (.bool (!decide (N = M))) W := fun W => by
  rw [run_neq_struct, eqi_e]
  rfl

set_option maxRecDepth 100000 in
set_option maxHeartbeats 4000000 in
theorem eqi_r (b0 b1 b2 b3 b4 b5 b6 b7 b8 b9 b10 b11 : Bool) (N M : Int) : ∀ W, (Op.equalIn 10000 37 (.agg #[.bool b0, .bool b1, .bool b2, .bool b3, .bool b4, .bool b5, .bool b6, .bool b7, .bool b8, .bool b9, .bool b10, .bool b11, .int .u64 N]) (.agg #[.bool b0, .bool b1, .bool b2, .bool b3, .bool b4, .bool b5, .bool b6, .bool b7, .bool b8, .bool b9, .bool b10, .bool b11, .int .u64 M])).run Tryd.prog W = .ok (decide (N = M)) W := by
  intro W
  by_cases h : N = M <;> simp [go_sem, h]
set_option maxRecDepth 100000 in
theorem eq_r (b0 b1 b2 b3 b4 b5 b6 b7 b8 b9 b10 b11 : Bool) (N M : Int) : ∀ W, (binOp .eql 37 (.agg #[.bool b0, .bool b1, .bool b2, .bool b3, .bool b4, .bool b5, .bool b6, .bool b7, .bool b8, .bool b9, .bool b10, .bool b11, .int .u64 N]) (.agg #[.bool b0, .bool b1, .bool b2, .bool b3, .bool b4, .bool b5, .bool b6, .bool b7, .bool b8, .bool b9, .bool b10, .bool b11, .int .u64 M])).run Tryd.prog W = .ok (.bool (decide (N = M))) W := fun W => by
  rw [run_eql_struct, eqi_r]
  rfl
set_option maxRecDepth 100000 in
theorem ne_r (b0 b1 b2 b3 b4 b5 b6 b7 b8 b9 b10 b11 : Bool) (N M : Int) : ∀ W, (binOp .neq 37 (.agg #[.bool b0, .bool b1, .bool b2, .bool b3, .bool b4, .bool b5, .bool b6, .bool b7, .bool b8, .bool b9, .bool b10, .bool b11, .int .u64 N]) (.agg #[.bool b0, .bool b1, .bool b2, .bool b3, .bool b4, .bool b5, .bool b6, .bool b7, .bool b8, .bool b9, .bool b10, .bool b11, .int .u64 M])).run Tryd.prog W = .ok (.bool (!decide (N = M))) W := fun W => by
  rw [run_neq_struct, eqi_r]
  rfl

set_option maxRecDepth 100000 in
set_option maxHeartbeats 4000000 in
theorem eqi_table (b4 b5 b6 b7 b8 b9 b10 b11 : Bool) (N : Int) : ∀ W, (Op.equalIn 10000 32 (.agg #[.bool true, .bool false, .bool false, .bool false, .bool b4, .bool b5, .bool b6, .bool b7, .bool b8, .bool b9, .bool b10, .bool b11, .int .u64 N]) (.agg #[.bool true, .bool false, .bool false, .bool false, .bool false, .bool b5, .bool false, .bool false, .bool false, .bool false, .bool false, .bool false, .int .u64 N])).run Tryd.prog W = .ok (!b4 && !b6 && !b7 && !b8 && !b9 && !b10 && !b11) W := by
  intro W
  cases b4 with
  | false =>
    cases b6 with
    | false =>
      cases b7 with
      | false =>
        cases b8 with
        | false =>
          cases b9 with
          | false =>
            cases b10 with
            | false =>
              cases b11 with
              | false =>
                simp [go_sem]
              | true =>
                simp [go_sem]
            | true =>
              simp [go_sem]
          | true =>
            simp [go_sem]
        | true =>
          simp [go_sem]
      | true =>
        simp [go_sem]
    | true =>
      simp [go_sem]
  | true =>
    simp [go_sem]

set_option maxRecDepth 100000 in
theorem eq_table (b4 b5 b6 b7 b8 b9 b10 b11 : Bool) (N : Int) : ∀ W, (binOp .eql 32 (.agg #[.bool true, .bool false, .bool false, .bool false, .bool b4, .bool b5, .bool b6, .bool b7, .bool b8, .bool b9, .bool b10, .bool b11, .int .u64 N]) (.agg #[.bool true, .bool false, .bool false, .bool false, .bool false, .bool b5, .bool false, .bool false, .bool false, .bool false, .bool false, .bool false, .int .u64 N])).run Tryd.prog W = .ok (.bool (!b4 && !b6 && !b7 && !b8 && !b9 && !b10 && !b11)) W := fun W => by
  rw [run_eql_struct, eqi_table]
  rfl
end Go.Proofs.YtnookalplejneaaDoor
