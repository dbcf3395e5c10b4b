/-
  Numbers of layer 15 as words: sums and differences, comparisons, 0 or 1 for an answer. No program text here.
-/
import Derived.Test.YtholamocbkfcmaaDoorWords
namespace Go.Proofs.YtholamocbkfcmaaDoor
open Go.RowKit Words
theorem add_w (x y : BitVec 64) : IntKind.u64.wrap ((x.toNat : Int) + (y.toNat : Int)) = ((x + y).toNat : Int) := by
  rw [IntKind.wrap_u64, BitVec.toNat_add]
  omega
theorem sub_w (x y : BitVec 64) : IntKind.u64.wrap ((x.toNat : Int) - (y.toNat : Int)) = ((x - y).toNat : Int) := by
  rw [IntKind.wrap_u64, BitVec.toNat_sub]
  have := x.isLt
  have := y.isLt
  omega
theorem slt_w (x y : BitVec 64) : decide (RowKit.wrap64 (x.toNat : Int) < RowKit.wrap64 (y.toNat : Int)) = x.slt y := by
  rw [wrap64_bv, wrap64_bv]; rfl
theorem ult_w (x y : BitVec 64) : decide (x.toNat < y.toNat) = x.ult y := rfl
theorem eq_w (x y : BitVec 64) : ((x.toNat : Int) == (y.toNat : Int)) = (x == y) := bv_eq_iff x y
theorem ne_w (x y : BitVec 64) : ((x.toNat : Int) != (y.toNat : Int)) = !(x == y) := by
  rw [← eq_w]; rfl
/-- 1 for yes, 0 for no. -/
def oneB (t : Bool) : BitVec 64 := if t then 1 else 0
theorem one_yes : ((oneB true).toNat : Int) = 1 := rfl
theorem one_no : ((oneB false).toNat : Int) = 0 := rfl
end Go.Proofs.YtholamocbkfcmaaDoor
