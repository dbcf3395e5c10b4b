/-
  What the small play of layer 15's laws answers.
-/
import Derived.Test.YtholamocbkfcmaaDoorAlu2
namespace Go.Proofs.YtholamocbkfcmaaDoor
open Go.RowKit Words

set_option maxHeartbeats 1000000 in
theorem one_any : ∀ w, Calls Tryd.prog 17 #[] w (Makes (.bool true) w) := fun w => by
  have c1 : ∀ W, Calls Tryd.prog 5 #[.int .i64 38, .int .u64 18446744073709551608, .int .u64 1] W (Makes (.tuple #[.int .u64 18446744073709551612, .bool true]) W) := do_38 18446744073709551608#64 1#64
  have C1 := hide c1
  clear c1
  go_enter Tryd.func17, Tryd.ntmps17
  go_wp2_with (go_at_call 5; (with_reducible first | refine (C1.out _).mono ?_); rintro e w1 ⟨rfl, hb1⟩)
  refine bodyPost_ret (v := .bool true) (by simp (maxDischargeDepth := 4) [results, Tryd.results17, go_sem, *]) rfl ?_
  refine ⟨rfl, ?_⟩
  repeat (first | with_reducible assumption | with_reducible exact Below.refl _ _ | with_reducible refine Below.drew ?_ | with_reducible refine below_drewN ?_ _ | with_reducible refine bw_alloc ?_ _ | (with_reducible refine bw_set ?_ ?_ _; focus (dsimp only; omega)) | (with_reducible apply bw_behind; with_reducible assumption))
end Go.Proofs.YtholamocbkfcmaaDoor
