/-
  What the functions of package field answer, called with any arguments: each is the plain function of XFieldMath on words of 64 bits, and turns nothing in memory (it draws orders only).
-/
import Derived.Test.YtnepnckiciapfaaDoorQuiet
import Derived.Test.YtnepnckiciapfaaDoorFieldMath
namespace Go.Proofs.YtnepnckiciapfaaDoor
open Go.RowKit Words FieldMath

set_option maxHeartbeats 400000 in
theorem mask_any (a : Int) (w : World) : Calls Tryd.prog 30 #[.int .i64 a] w (Quiet (.int .u64 ((maskB a).toNat : Int)) w) := by
  by_cases h : a < 1
  · go_enter Tryd.func30, Tryd.ntmps30
    go_wp2
    go_ret
    exact ⟨ret_int (by rw [mask_low a h]; rfl), 0, rfl⟩
  · have h1 : 1 ≤ a := by omega
    have h0 : 0 ≤ a := by omega
    go_enter Tryd.func30, Tryd.ntmps30
    go_wp2
    go_ret
    exact ⟨ret_int (mask_walk a h1), 0, rfl⟩

end Go.Proofs.YtnepnckiciapfaaDoor
