/-
  What the document's small functions of layer 13 (package mintmarkref13: get, bits, reg, signed) answer.
-/
import Derived.Test.YtdgkadoebcdmeaaDoorRef01Walks
import Derived.Test.YtdgkadoebcdmeaaDoorInstMath2
namespace Go.Proofs.YtdgkadoebcdmeaaDoor
open Go.RowKit Words FieldMath InstMath

def regB (n : Int) : Bool := decide (0 ≤ n) && decide (n ≤ 31)
set_option maxHeartbeats 400000 in
theorem rreg_any (n : Int) (w : World) : Calls Tryd.prog 19 #[.int .i64 n] w (Quiet (.bool (regB n)) w) := by
  unfold regB
  by_cases h : 0 ≤ n
  · by_cases h2 : n ≤ 31
    · rw [decide_eq_true h, decide_eq_true h2]
      go_enter Tryd.func19, Tryd.ntmps19
      go_wp2
      go_ret
      exact ⟨rfl, 0, rfl⟩
    · rw [decide_eq_true h, decide_eq_false h2]
      have h3 : 31 < n := by omega
      clear h2
      go_enter Tryd.func19, Tryd.ntmps19
      go_wp2
      go_ret
      exact ⟨ret_bool (decide_eq_false (by omega)), 0, rfl⟩
  · rw [decide_eq_false h]
    have h3 : n < 0 := by omega
    clear h
    go_enter Tryd.func19, Tryd.ntmps19
    go_wp2
    go_ret
    exact ⟨rfl, 0, rfl⟩
set_option maxHeartbeats 400000 in
theorem rget13 (x : BitVec 64) (hx : x.toNat < 4294967296) (a n : Int) (w : World) : Calls Tryd.prog 25 #[.int .u32 (x.toNat : Int), .int .i64 a, .int .i64 n] w (Quiet (.int .u64 ((getB x a n).toNat : Int)) w) := by
  have hu : IntKind.u64.wrap (x.toNat : Int) = (x.toNat : Int) := by rw [IntKind.wrap_u64]; omega
  have C := hide (fun W => rget_any x a n W)
  generalize getB x a n = G at *
  clear hx
  go_enter Tryd.func25, Tryd.ntmps25
  go_wp2_with (go_at_call 31; (with_reducible refine (C.out _).mono ?_); rintro e w' ⟨rfl, n1, rfl⟩)
  go_ret
  exact ⟨rfl, _, rfl⟩
set_option maxHeartbeats 400000 in
theorem rsigned_any (x : BitVec 64) (n : Int) (w : World) : Calls Tryd.prog 35 #[.int .u64 (x.toNat : Int), .int .i64 n] w (Quiet (.int .i64 (signB x n).toInt) w) := by
  have hu := wrap64_bv (signB x n)
  have C := hide (fun W => rsign_any x n W)
  generalize signB x n = G at *
  rw [← hu]
  clear hu
  go_enter Tryd.func35, Tryd.ntmps35
  go_wp2_with (go_at_call 32; (with_reducible refine (C.out _).mono ?_); rintro e w' ⟨rfl, n1, rfl⟩)
  go_ret
  exact ⟨rfl, _, rfl⟩
set_option maxHeartbeats 400000 in
theorem rbits_any (m : Int) (f n : Int) (a : Nat) (ha : a ≤ 64) (w : World) : Calls Tryd.prog 20 #[.int .i64 m, .int .i64 f, .int .i64 n, .int .i64 (a : Int)] w (Quiet (.int .u32 (IntKind.u32.wrap ((getB (BitVec.ofInt 64 m) f n <<< a).toNat : Int))) w) := by
  have hu := wrap_u64_bv m
  have hs := shl_bv (getB (BitVec.ofInt 64 m) f n) a
  have C := hide (fun W => rget_any (BitVec.ofInt 64 m) f n W)
  generalize getB (BitVec.ofInt 64 m) f n <<< a = G2 at *
  generalize getB (BitVec.ofInt 64 m) f n = G at *
  generalize BitVec.ofInt 64 m = M at *
  obtain ⟨V, hV⟩ : ∃ V, IntKind.u32.wrap (G2.toNat : Int) = V := ⟨_, rfl⟩
  rw [hV]
  have ha2 : (a : Int) ≤ 64 := by omega
  go_enter Tryd.func20, Tryd.ntmps20
  go_wp2_with (go_at_call 31; (with_reducible refine (C.out _).mono ?_); rintro e w' ⟨rfl, n1, rfl⟩)
  go_ret
  exact ⟨rfl, _, rfl⟩
end Go.Proofs.YtdgkadoebcdmeaaDoor
