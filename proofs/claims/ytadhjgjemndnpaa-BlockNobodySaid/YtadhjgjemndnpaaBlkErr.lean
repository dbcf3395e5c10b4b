/-
  errors.Is of numbered errors against that of a device, and nil; Failed.
-/
import Derived.Test.YtadhjgjemndnpaaQuiet
import Derived.LaidEql
import Derived.Stop.Asserts
import Derived.RowKitTokens
import Derived.Lib.IfaceEq
import Derived.Defers
import Derived.Recover
namespace Go.Proofs.Ytadhjgjemndnpaa
open Go.RowKit Go.Extern.Stop Go.Stop Go.Extern

theorem err_type (v : Value) (w : World) : (Extern.ReflectliteType.typeOf #[.iface 24 v]).run Try.prog w = .ok (.iface 65 (.agg #[.pointer (some ⟨0, 24, none⟩)])) w := by kernel_rfl
/-- How a type is asked whether its values can be compared. -/
def cmpM : TypeId → Sem Value := fun t => do Rtype.noPackHeld "Comparable" t; pure (.bool (← typeInfo t).comparable)
theorem err_compares (w : World) : (Extern.ReflectliteType.method cmpM #[.agg #[.pointer (some ⟨0, 24, none⟩)]]).run Try.prog w = .ok (.bool true) w := by kernel_rfl
theorem err_method (v : Value) (w : World) : (Go.method 207 65 v "Comparable").run Try.prog w = .ok (42, v) w := by kernel_rfl
theorem err_comp : (Try.prog.info? 24).map (·.comparable) = some true := by kernel_rfl
theorem err_noIs (v : Value) (xT : TypeId) (w : World) : (Instr.typeAssert (.iface 24 v) xT 67 true).run Try.prog w = .ok (.tuple #[.nilIface, .bool false]) w := run_typeAssert_lacksB Try.underlying67 (by kernel_rfl) (by kernel_rfl) v xT w
theorem err_noUnwrap (v : Value) (xT : TypeId) (w : World) : (Instr.typeAssert (.iface 24 v) xT 69 true).run Try.prog w = .ok (.tuple #[.nilIface, .bool false]) w := run_typeAssert_lacksB Try.underlying69 (by kernel_rfl) (by kernel_rfl) v xT w
theorem err_noUnwraps (v : Value) (xT : TypeId) (w : World) : (Instr.typeAssert (.iface 24 v) xT 71 true).run Try.prog w = .ok (.tuple #[.nilIface, .bool false]) w := run_typeAssert_lacksB Try.underlying71 (by kernel_rfl) (by kernel_rfl) v xT w
theorem err_eq (a b : Int) (w : World) : (binOp .eql 58 (.iface 24 (.int .i64 a)) (.iface 24 (.int .i64 b))).run Try.prog w = .ok (.bool (a == b)) w := Lib.run_eql_iface_int w a b Try.underlying58 err_comp Try.underlying24

set_option maxHeartbeats 1000000 in
theorem is_same (w : World) : Calls Try.prog 20 #[.iface 24 (.int .i64 17), .iface 24 (.int .i64 17)] w (Quiet (.bool true) w) := by
  have h8 := @run_callFunc_extern Try.prog 21 _ Extern.ReflectliteType.typeOf Try.func21 (by kernel_rfl) (by kernel_rfl) (by kernel_rfl) (by kernel_rfl)
  have h32 := @run_callFunc_extern Try.prog 42 _ (Extern.ReflectliteType.method cmpM) Try.func42 (by kernel_rfl) (by kernel_rfl) (by kernel_rfl) (by kernel_rfl)
  have tT := err_type
  have cT := err_compares
  have mR := err_method
  have heq : ∀ w, (binOp .eql 58 (.iface 24 (.int .i64 17)) (.iface 24 (.int .i64 17))).run Try.prog w = .ok (.bool true) w := fun w => err_eq 17 17 w
  go_enter Try.func20, Try.ntmps20
  go_wp2
  refine wp_loop_rounds 1 ?_
  rw [rounds_succ]
  go_wp2
  go_ret
  exact ⟨rfl, 0, rfl⟩

set_option maxHeartbeats 1000000 in
theorem is_other (x : Int) (hx : x ≠ 17) (w : World) : Calls Try.prog 20 #[.iface 24 (.int .i64 x), .iface 24 (.int .i64 17)] w (Quiet (.bool false) w) := by
  have h8 := @run_callFunc_extern Try.prog 21 _ Extern.ReflectliteType.typeOf Try.func21 (by kernel_rfl) (by kernel_rfl) (by kernel_rfl) (by kernel_rfl)
  have h32 := @run_callFunc_extern Try.prog 42 _ (Extern.ReflectliteType.method cmpM) Try.func42 (by kernel_rfl) (by kernel_rfl) (by kernel_rfl) (by kernel_rfl)
  have tT := err_type
  have cT := err_compares
  have mR := err_method
  have nE := err_noIs
  have uE := err_noUnwrap
  have vE := err_noUnwraps
  have heq : ∀ w, (binOp .eql 58 (.iface 24 (.int .i64 x)) (.iface 24 (.int .i64 17))).run Try.prog w = .ok (.bool false) w := fun w => by
    have := err_eq x 17 w
    rwa [show (x == 17) = false by simpa using hx] at this
  clear hx
  go_enter Try.func20, Try.ntmps20
  go_wp2
  refine wp_loop_rounds 1 ?_
  rw [rounds_succ]
  go_wp2
  go_ret
  exact ⟨rfl, 0, rfl⟩

set_option maxHeartbeats 1000000 in
theorem is_nil (w : World) : Calls Try.prog 20 #[.nilIface, .iface 24 (.int .i64 17)] w (Quiet (.bool false) w) := by
  have hn := fun w => run_eql_iface_nil_left (P := Try.prog) w 24 (.int .i64 17) Try.underlying58
  go_enter Try.func20, Try.ntmps20
  go_wp2
  go_ret
  exact ⟨rfl, 0, rfl⟩

theorem is_any (x : Int) (w : World) : Calls Try.prog 20 #[.iface 24 (.int .i64 x), .iface 24 (.int .i64 17)] w (Quiet (.bool (x == 17)) w) := by
  by_cases hx : x = 17
  · subst hx
    exact is_same w
  · rw [show (x == 17) = false by simpa using hx]
    exact is_other x hx w

/-- The deferred closure, of a frame that returns. -/
theorem idle (w : World) : CallsD Try.prog 19 #[] .returning w fun e u' w' => e = .returned (.tuple #[]) ∧ u' = .returning ∧ w' = w := by
  refine callsD_of_wpS Try.func19 rfl fun c₀ cs hu => ?_
  apply wpS_region
  cases c₀
  simp_all [wpOpsS, go_sem, recoverD, Try.ntmps19, bodyPostS, results, Try.results19]

set_option maxHeartbeats 1000000 in
theorem failed_let (v : Value) (x : Bool) (w : World) (c : Calls Try.prog 20 #[v, .iface 24 (.int .i64 17)] w (Quiet (.bool x) w)) : Calls Try.prog 15 #[v] w (Quiet (.bool x) w) := by
  have C1 := hide c
  clear c
  go_enter_defers Try.func15, Try.ntmps15
  go_wp2_with (go_at_call 20; refine C1.out.mono ?_; rintro e w1 ⟨rfl, k, rfl⟩)
  refine leaves_cons (f := 19) (args := #[]) (by simp) (by simp [go_sem]) ?_
  refine (idle _).mono ?_
  rintro e u' w'' ⟨rfl, rfl, rfl⟩
  exact ⟨_, results_tmp rfl _ _ _, rfl, _, rfl⟩
theorem failed_any (x : Int) (w : World) : Calls Try.prog 15 #[.iface 24 (.int .i64 x)] w (Quiet (.bool (x == 17)) w) := failed_let _ _ w (is_any x w)
theorem failed_nil (w : World) : Calls Try.prog 15 #[.nilIface] w (Quiet (.bool false) w) := failed_let _ _ w (is_nil w)
end Go.Proofs.Ytadhjgjemndnpaa
