/-
  What Marked answers, the program's and the document's.
-/
import Derived.Test.YtkajndonefkegaaDoorWalkMark
import Derived.Test.YtkajndonefkegaaDoorPteRef
namespace Go.Proofs.YtkajndonefkegaaDoor
open Go.RowKit Words FieldMath PteMath

def markD (b7 : Bool) (k : Int) : Bool := b7 || k == 2 || k == 4
def markC (b10 : Bool) (k : Int) (tagged : Bool) : Bool := b10 || (k == 4 && tagged)

set_option maxRecDepth 100000 in
set_option maxHeartbeats 8000000 in
theorem marked_let (b0 b1 b2 b3 b4 b5 b6 b7 b8 b9 b10 b11 tagged D X : Bool) (N k : Int) (hD : D = markD b7 k) (hX : X = markC b10 k tagged) (w : World) : Calls Tryd.prog 34 #[.agg #[.bool b0, .bool b1, .bool b2, .bool b3, .bool b4, .bool b5, .bool b6, .bool b7, .bool b8, .bool b9, .bool b10, .bool b11, .int .u64 N], .int .i64 k, .bool tagged] w (Makes (.agg #[.bool b0, .bool b1, .bool b2, .bool b3, .bool b4, .bool b5, .bool true, .bool D, .bool b8, .bool b9, .bool X, .bool b11, .int .u64 N]) w) := by
  have SS := cell_same
  have LB' := ltB_add
  have LS := ltB_self
  have LA' := alloc_reads
  have LH := alloc_holds
  have HD := hide hD
  have HX := hide hX
  clear hD hX
  rcases kinds k with rfl | rfl | rfl | rfl | rfl | ⟨h0, h1, h2, h3, h4⟩
  all_goals
    cases b10
  all_goals
    go_enter Tryd.func34, Tryd.ntmps34
    go_wp2
    have hD := HD.out
    have hX := HX.out
    clear HD HX
    simp only [markD, markC] at hD hX
    first | simp [h2, h4] at hD hX | simp at hD hX
    refine bodyPost_ret (v := .agg #[.bool b0, .bool b1, .bool b2, .bool b3, .bool b4, .bool b5, .bool true, .bool D, .bool b8, .bool b9, .bool X, .bool b11, .int .u64 N]) (by simp (maxDischargeDepth := 4) [results, Tryd.results34, go_sem, *]) rfl ?_
    refine ⟨rfl, ?_⟩
    repeat (first | with_reducible assumption | with_reducible exact Below.refl _ _ | with_reducible refine Below.drew ?_ | with_reducible refine below_drewN ?_ _ | with_reducible refine bw_alloc ?_ _ | (with_reducible refine bw_set ?_ ?_ _; focus (dsimp only; omega)) | (with_reducible apply bw_behind; with_reducible assumption))
theorem marked_any (b0 b1 b2 b3 b4 b5 b6 b7 b8 b9 b10 b11 tagged : Bool) (N k : Int) (w : World) : Calls Tryd.prog 34 #[.agg #[.bool b0, .bool b1, .bool b2, .bool b3, .bool b4, .bool b5, .bool b6, .bool b7, .bool b8, .bool b9, .bool b10, .bool b11, .int .u64 N], .int .i64 k, .bool tagged] w (Makes (.agg #[.bool b0, .bool b1, .bool b2, .bool b3, .bool b4, .bool b5, .bool true, .bool (markD b7 k), .bool b8, .bool b9, .bool (markC b10 k tagged), .bool b11, .int .u64 N]) w) := marked_let b0 b1 b2 b3 b4 b5 b6 b7 b8 b9 b10 b11 tagged _ _ N k rfl rfl w

set_option maxRecDepth 100000 in
set_option maxHeartbeats 8000000 in
theorem rmarked_let (b0 b1 b2 b3 b4 b5 b6 b7 b8 b9 b10 b11 tagged D X : Bool) (N k : Int) (hD : D = markD b7 k) (hX : X = markC b10 k tagged) (w : World) : Calls Tryd.prog 37 #[.agg #[.bool b0, .bool b1, .bool b2, .bool b3, .bool b4, .bool b5, .bool b6, .bool b7, .bool b8, .bool b9, .bool b10, .bool b11, .int .u64 N], .int .i64 k, .bool tagged] w (Makes (.agg #[.bool b0, .bool b1, .bool b2, .bool b3, .bool b4, .bool b5, .bool true, .bool D, .bool b8, .bool b9, .bool X, .bool b11, .int .u64 N]) w) := by
  have SS := cell_same
  have LB' := ltB_add
  have LS := ltB_self
  have LA' := alloc_reads
  have LH := alloc_holds
  have HD := hide hD
  have HX := hide hX
  clear hD hX
  rcases kinds k with rfl | rfl | rfl | rfl | rfl | ⟨h0, h1, h2, h3, h4⟩
  all_goals
    cases b7 <;> cases b10
  all_goals
    go_enter Tryd.func37, Tryd.ntmps37
    go_wp2
    have hD := HD.out
    have hX := HX.out
    clear HD HX
    simp only [markD, markC] at hD hX
    first | simp [h2, h4] at hD hX | simp at hD hX
    refine bodyPost_ret (v := .agg #[.bool b0, .bool b1, .bool b2, .bool b3, .bool b4, .bool b5, .bool true, .bool D, .bool b8, .bool b9, .bool X, .bool b11, .int .u64 N]) (by simp (maxDischargeDepth := 4) [results, Tryd.results37, go_sem, *]) rfl ?_
    refine ⟨rfl, ?_⟩
    repeat (first | with_reducible assumption | with_reducible exact Below.refl _ _ | with_reducible refine Below.drew ?_ | with_reducible refine below_drewN ?_ _ | with_reducible refine bw_alloc ?_ _ | (with_reducible refine bw_set ?_ ?_ _; focus (dsimp only; omega)) | (with_reducible apply bw_behind; with_reducible assumption))
theorem rmarked_any (b0 b1 b2 b3 b4 b5 b6 b7 b8 b9 b10 b11 tagged : Bool) (N k : Int) (w : World) : Calls Tryd.prog 37 #[.agg #[.bool b0, .bool b1, .bool b2, .bool b3, .bool b4, .bool b5, .bool b6, .bool b7, .bool b8, .bool b9, .bool b10, .bool b11, .int .u64 N], .int .i64 k, .bool tagged] w (Makes (.agg #[.bool b0, .bool b1, .bool b2, .bool b3, .bool b4, .bool b5, .bool true, .bool (markD b7 k), .bool b8, .bool b9, .bool (markC b10 k tagged), .bool b11, .int .u64 N]) w) := rmarked_let b0 b1 b2 b3 b4 b5 b6 b7 b8 b9 b10 b11 tagged _ _ N k rfl rfl w
end Go.Proofs.YtkajndonefkegaaDoor
