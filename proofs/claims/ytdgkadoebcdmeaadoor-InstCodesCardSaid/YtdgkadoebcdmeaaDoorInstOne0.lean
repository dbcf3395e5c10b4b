/-
  When two instructions are the same; and the law's own instance (one).
-/
import Derived.Test.YtdgkadoebcdmeaaDoorInst6
import Derived.Laws.StructEq
import Derived.DeepKeys
namespace Go.Proofs.YtdgkadoebcdmeaaDoor
open Go.RowKit Words FieldMath InstMath

def same5 (a b c d e a2 b2 c2 d2 e2 : Int) : Bool := decide (a = a2) && decide (b = b2) && decide (c = c2) && decide (d = d2) && decide (e = e2)

set_option maxHeartbeats 4000000 in
theorem eqi_i (a b c d e a2 b2 c2 d2 e2 : Int) : ∀ W, (Op.equalIn 10000 23 (.agg #[.int .i64 a, .int .i64 b, .int .i64 c, .int .i64 d, .int .i64 e]) (.agg #[.int .i64 a2, .int .i64 b2, .int .i64 c2, .int .i64 d2, .int .i64 e2])).run Tryd.prog W = .ok (same5 a b c d e a2 b2 c2 d2 e2) W := by
  intro W
  unfold same5
  by_cases h1 : a = a2 <;> by_cases h2 : b = b2 <;> by_cases h3 : c = c2 <;> by_cases h4 : d = d2 <;> by_cases h5 : e = e2 <;> simp [go_sem, h1, h2, h3, h4, h5]
theorem eq_i (a b c d e a2 b2 c2 d2 e2 : Int) : ∀ W, (binOp .eql 23 (.agg #[.int .i64 a, .int .i64 b, .int .i64 c, .int .i64 d, .int .i64 e]) (.agg #[.int .i64 a2, .int .i64 b2, .int .i64 c2, .int .i64 d2, .int .i64 e2])).run Tryd.prog W = .ok (.bool (same5 a b c d e a2 b2 c2 d2 e2)) W := fun W => by
  rw [run_eql_struct, eqi_i]
  rfl
theorem ne_i (a b c d e a2 b2 c2 d2 e2 : Int) : ∀ W, (binOp .neq 23 (.agg #[.int .i64 a, .int .i64 b, .int .i64 c, .int .i64 d, .int .i64 e]) (.agg #[.int .i64 a2, .int .i64 b2, .int .i64 c2, .int .i64 d2, .int .i64 e2])).run Tryd.prog W = .ok (.bool (!same5 a b c d e a2 b2 c2 d2 e2)) W := fun W => by
  rw [run_neq_struct, eqi_i]
  rfl

set_option maxHeartbeats 4000000 in
theorem eqi_r (a b c d e a2 b2 c2 d2 e2 : Int) : ∀ W, (Op.equalIn 10000 28 (.agg #[.int .i64 a, .int .i64 b, .int .i64 c, .int .i64 d, .int .i64 e]) (.agg #[.int .i64 a2, .int .i64 b2, .int .i64 c2, .int .i64 d2, .int .i64 e2])).run Tryd.prog W = .ok (same5 a b c d e a2 b2 c2 d2 e2) W := by
  intro W
  unfold same5
  by_cases h1 : a = a2 <;> by_cases h2 : b = b2 <;> by_cases h3 : c = c2 <;> by_cases h4 : d = d2 <;> by_cases h5 : e = e2 <;> simp [go_sem, h1, h2, h3, h4, h5]
theorem eq_r (a b c d e a2 b2 c2 d2 e2 : Int) : ∀ W, (binOp .eql 28 (.agg #[.int .i64 a, .int .i64 b, .int .i64 c, .int .i64 d, .int .i64 e]) (.agg #[.int .i64 a2, .int .i64 b2, .int .i64 c2, .int .i64 d2, .int .i64 e2])).run Tryd.prog W = .ok (.bool (same5 a b c d e a2 b2 c2 d2 e2)) W := fun W => by
  rw [run_eql_struct, eqi_r]
  rfl
theorem ne_r (a b c d e a2 b2 c2 d2 e2 : Int) : ∀ W, (binOp .neq 28 (.agg #[.int .i64 a, .int .i64 b, .int .i64 c, .int .i64 d, .int .i64 e]) (.agg #[.int .i64 a2, .int .i64 b2, .int .i64 c2, .int .i64 d2, .int .i64 e2])).run Tryd.prog W = .ok (.bool (!same5 a b c d e a2 b2 c2 d2 e2)) W := fun W => by
  rw [run_neq_struct, eqi_r]
  rfl

theorem one_word : IsDec 11863347#64 (some 31) := by unfold IsDec; decide +kernel
theorem one_ops : opsI 31 11863347#64 0 = 10 ∧ opsI 31 11863347#64 1 = 10 ∧ opsI 31 11863347#64 2 = 11 ∧ opsI 31 11863347#64 3 = 0 := by decide +kernel
theorem decV_some (k : Nat) (x : BitVec 64) : decV (some k) x = .tuple #[instV k (opsI k x 0) (opsI k x 1) (opsI k x 2) (opsI k x 3), .bool true] := rfl
theorem one_decV : decV (some 31) 11863347#64 = .tuple #[.agg #[.int .i64 31, .int .i64 10, .int .i64 10, .int .i64 11, .int .i64 0], .bool true] := by
  obtain ⟨h0, h1, h2, h3⟩ := one_ops
  rw [decV_some, h0, h1, h2, h3]
  rfl
set_option maxHeartbeats 4000000 in
theorem one_any (w : World) (hT : TabW w) : Calls Tryd.prog 11 #[] w (Makes (.bool true) w) := by
  have CD : Hid (∀ W, TabW W → Calls Tryd.prog 9 #[.int .u32 11863347] W (Makes (.tuple #[.agg #[.int .i64 31, .int .i64 10, .int .i64 10, .int .i64 11, .int .i64 0], .bool true]) W)) := hide (fun W hW => by
    have := dec_any 11863347#64 (by decide) _ one_word W hW
    rwa [one_decV] at this)
  have E1 : ∀ W, (binOp .eql 23 (.agg #[.int .i64 31, .int .i64 10, .int .i64 10, .int .i64 11, .int .i64 0]) (.agg #[.int .i64 31, .int .i64 10, .int .i64 10, .int .i64 11, .int .i64 0])).run Tryd.prog W = .ok (.bool true) W := fun W => by
    rw [eq_i]; rfl
  have E2 : ∀ W, (Op.equalIn 10000 23 (.agg #[.int .i64 31, .int .i64 10, .int .i64 10, .int .i64 11, .int .i64 0]) (.agg #[.int .i64 31, .int .i64 10, .int .i64 10, .int .i64 11, .int .i64 0])).run Tryd.prog W = .ok true W := fun W => by
    rw [eqi_i]; rfl
  have SS := cell_same
  have LB' := ltB_add
  have LS := ltB_self
  have LA' := alloc_reads
  have LH := alloc_holds
  go_enter Tryd.func11, Tryd.ntmps11
  go_wp2_with (go_at_call 9; (with_reducible refine (CD.out _ ?_).mono ?_); (refine hT.behind ?_; repeat (first | with_reducible assumption | with_reducible exact Below.refl _ _ | with_reducible refine Below.drew ?_ | with_reducible refine below_drewN ?_ _ | with_reducible refine bw_alloc ?_ _ | (with_reducible refine bw_set ?_ ?_ _; focus (dsimp only; omega)) | (with_reducible apply bw_behind; with_reducible assumption))); rintro e w1 ⟨rfl, hb1⟩; have hr1 := below_reads hb1; have hh1 := below_holds hb1; obtain ⟨m1, hs1⟩ := below_grew hb1)
  go_ret
  refine ⟨rfl, ?_⟩
  repeat (first | with_reducible assumption | with_reducible exact Below.refl _ _ | with_reducible refine Below.drew ?_ | with_reducible refine below_drewN ?_ _ | with_reducible refine bw_alloc ?_ _ | (with_reducible refine bw_set ?_ ?_ _; focus (dsimp only; omega)) | (with_reducible apply bw_behind; with_reducible assumption))
end Go.Proofs.YtdgkadoebcdmeaaDoor
