/-
  What capab.Bytes answers, and the document's own.
-/
import Derived.Test.YtpdadlbdloeijaaDoorCapMath
import Derived.Test.YtpdadlbdloeijaaDoorKeep
namespace Go.Proofs.YtpdadlbdloeijaaDoor
open Go.RowKit Words FieldMath BoundsMath

set_option maxHeartbeats 4000000 in
theorem bytes_any (q : Bool) (M A : Int) (w : World) :
    Calls Tryd.prog 11 #[.agg #[.bool q, .int .u64 M, .int .u64 A]] w (Makes (.agg #[.int .u8 (A % 256), .int .u8 (A / 256 % 256), .int .u8 (A / 65536 % 256), .int .u8 (A / 16777216 % 256), .int .u8 (A / 4294967296 % 256), .int .u8 (A / 1099511627776 % 256), .int .u8 (A / 281474976710656 % 256), .int .u8 (A / 72057594037927936 % 256), .int .u8 (M % 256), .int .u8 (M / 256 % 256), .int .u8 (M / 65536 % 256), .int .u8 (M / 16777216 % 256), .int .u8 (M / 4294967296 % 256), .int .u8 (M / 1099511627776 % 256), .int .u8 (M / 281474976710656 % 256), .int .u8 (M / 72057594037927936 % 256)]) w) := by
  have SS := cell_same
  have LB' := ltB_add
  have LS := ltB_self
  have LA' := alloc_reads
  have LH := alloc_holds
  go_enter Tryd.func11, Tryd.ntmps11
  go_wp2
  refine wp_loop_rounds 9 ?_
  rw [rounds_succ]
  go_wp2
  rw [rounds_succ]
  go_wp2
  rw [rounds_succ]
  go_wp2
  rw [rounds_succ]
  go_wp2
  rw [rounds_succ]
  go_wp2
  rw [rounds_succ]
  go_wp2
  rw [rounds_succ]
  go_wp2
  rw [rounds_succ]
  go_wp2
  rw [rounds_succ]
  go_wp2
  refine bodyPost_ret (v := .agg #[.int .u8 (A % 256), .int .u8 (A / 256 % 256), .int .u8 (A / 65536 % 256), .int .u8 (A / 16777216 % 256), .int .u8 (A / 4294967296 % 256), .int .u8 (A / 1099511627776 % 256), .int .u8 (A / 281474976710656 % 256), .int .u8 (A / 72057594037927936 % 256), .int .u8 (M % 256), .int .u8 (M / 256 % 256), .int .u8 (M / 65536 % 256), .int .u8 (M / 16777216 % 256), .int .u8 (M / 4294967296 % 256), .int .u8 (M / 1099511627776 % 256), .int .u8 (M / 281474976710656 % 256), .int .u8 (M / 72057594037927936 % 256)]) (by simp (maxDischargeDepth := 4) [results, Tryd.results11, go_sem, *]) rfl ?_
  refine ⟨rfl, ?_⟩
  repeat (first | with_reducible assumption | with_reducible exact Below.refl _ _ | with_reducible refine Below.drew ?_ | with_reducible refine below_drewN ?_ _ | with_reducible refine bw_alloc ?_ _ | (with_reducible refine bw_set ?_ ?_ _; focus (dsimp only; omega)) | (with_reducible apply bw_behind; with_reducible assumption))

set_option maxHeartbeats 4000000 in
theorem rbytes_any (q : Bool) (M A : Int) (w : World) :
    Calls Tryd.prog 17 #[.agg #[.bool q, .int .u64 M, .int .u64 A]] w (Makes (.agg #[.int .u8 (A % 256), .int .u8 (A / 256 % 256), .int .u8 (A / 65536 % 256), .int .u8 (A / 16777216 % 256), .int .u8 (A / 4294967296 % 256), .int .u8 (A / 1099511627776 % 256), .int .u8 (A / 281474976710656 % 256), .int .u8 (A / 72057594037927936 % 256), .int .u8 (M % 256), .int .u8 (M / 256 % 256), .int .u8 (M / 65536 % 256), .int .u8 (M / 16777216 % 256), .int .u8 (M / 4294967296 % 256), .int .u8 (M / 1099511627776 % 256), .int .u8 (M / 281474976710656 % 256), .int .u8 (M / 72057594037927936 % 256)]) w) := by
  have SS := cell_same
  have LB' := ltB_add
  have LS := ltB_self
  have LA' := alloc_reads
  have LH := alloc_holds
  go_enter Tryd.func17, Tryd.ntmps17
  go_wp2
  refine wp_loop_rounds 9 ?_
  rw [rounds_succ]
  go_wp2
  rw [rounds_succ]
  go_wp2
  rw [rounds_succ]
  go_wp2
  rw [rounds_succ]
  go_wp2
  rw [rounds_succ]
  go_wp2
  rw [rounds_succ]
  go_wp2
  rw [rounds_succ]
  go_wp2
  rw [rounds_succ]
  go_wp2
  rw [rounds_succ]
  go_wp2
  refine bodyPost_ret (v := .agg #[.int .u8 (A % 256), .int .u8 (A / 256 % 256), .int .u8 (A / 65536 % 256), .int .u8 (A / 16777216 % 256), .int .u8 (A / 4294967296 % 256), .int .u8 (A / 1099511627776 % 256), .int .u8 (A / 281474976710656 % 256), .int .u8 (A / 72057594037927936 % 256), .int .u8 (M % 256), .int .u8 (M / 256 % 256), .int .u8 (M / 65536 % 256), .int .u8 (M / 16777216 % 256), .int .u8 (M / 4294967296 % 256), .int .u8 (M / 1099511627776 % 256), .int .u8 (M / 281474976710656 % 256), .int .u8 (M / 72057594037927936 % 256)]) (by simp (maxDischargeDepth := 4) [results, Tryd.results17, go_sem, *]) rfl ?_
  refine ⟨rfl, ?_⟩
  repeat (first | with_reducible assumption | with_reducible exact Below.refl _ _ | with_reducible refine Below.drew ?_ | with_reducible refine below_drewN ?_ _ | with_reducible refine bw_alloc ?_ _ | (with_reducible refine bw_set ?_ ?_ _; focus (dsimp only; omega)) | (with_reducible apply bw_behind; with_reducible assumption))
end Go.Proofs.YtpdadlbdloeijaaDoor
