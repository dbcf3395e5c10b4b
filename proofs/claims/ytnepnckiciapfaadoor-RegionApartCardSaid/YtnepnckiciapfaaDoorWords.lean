/-
  Words of 64 bits (BitVec 64) as the numbers of the model: each operation of Go on uint64, int64 and int, told as the one on words. No Go text here.
-/
import Derived.Laws.BitsAllLaws
import Derived.Laws.BitsLemmas
import Derived.WalkKit
namespace Go.Proofs.YtnepnckiciapfaaDoor.Words
open Go

/-! words as numbers -/
theorem toNat_lt (x : BitVec 64) : x.toNat < 18446744073709551616 := x.isLt
theorem ofInt_toNat (x : BitVec 64) : BitVec.ofInt 64 (x.toNat : Int) = x := by
  rw [BitVec.ofInt_natCast]; simp
theorem ofInt_toInt (x : BitVec 64) : BitVec.ofInt 64 x.toInt = x := BitVec.ofInt_toInt ..
theorem wrap_u64_bv (n : Int) : IntKind.u64.wrap n = ((BitVec.ofInt 64 n).toNat : Int) := by
  rw [IntKind.wrap_u64, BitVec.toNat_ofInt]
  simp
  omega
theorem wrap_i64_bv (n : Int) : IntKind.i64.wrap n = (BitVec.ofInt 64 n).toInt := by
  rw [BitVec.toInt_ofInt]
  simp only [IntKind.wrap_i64, Int.bmod]
  simp
  split <;> omega
theorem and_bv (x y : BitVec 64) : bits .and .u64 (x.toNat : Int) (y.toNat : Int) = ((x &&& y).toNat : Int) := by
  rw [u64_and_nat _ _ (toNat_lt x) (toNat_lt y), BitVec.toNat_and]
theorem or_bv (x y : BitVec 64) : bits .or .u64 (x.toNat : Int) (y.toNat : Int) = ((x ||| y).toNat : Int) := by
  rw [u64_or_nat _ _ (toNat_lt x) (toNat_lt y), BitVec.toNat_or]
theorem xor_bv (x y : BitVec 64) : bits .xor .u64 (x.toNat : Int) (y.toNat : Int) = ((x ^^^ y).toNat : Int) := by
  rw [u64_xor_nat _ _ (toNat_lt x) (toNat_lt y), BitVec.toNat_xor]
theorem andNot_bv (x y : BitVec 64) : bits .andNot .u64 (x.toNat : Int) (y.toNat : Int) = ((x &&& ~~~y).toNat : Int) := by
  rw [u64_andNot_nat _ _ (toNat_lt x) (toNat_lt y), BitVec.toNat_and, BitVec.toNat_not]
theorem shr_bv (x : BitVec 64) (n : Nat) : ((x.toNat : Int) / 2 ^ n) = ((x >>> n).toNat : Int) := by
  rw [BitVec.toNat_ushiftRight, Nat.shiftRight_eq_div_pow]
  simp
theorem shl_bv (x : BitVec 64) (n : Nat) : IntKind.u64.wrap ((x.toNat : Int) * 2 ^ n) = ((x <<< n).toNat : Int) := by
  rw [IntKind.wrap_u64, BitVec.toNat_shiftLeft, Nat.shiftLeft_eq]
  simp
theorem wrap64_bv (x : BitVec 64) : RowKit.wrap64 (x.toNat : Int) = x.toInt := by
  have := toNat_lt x
  rw [BitVec.toInt_eq_toNat_cond]
  simp only [RowKit.wrap64]
  split <;> omega
theorem sar_bv (x : BitVec 64) (n : Nat) : x.toInt / 2 ^ n = (x.sshiftRight n).toInt := by
  rw [BitVec.toInt_sshiftRight, Int.shiftRight_eq_div_pow]; simp
theorem wrap_toInt (x : BitVec 64) : IntKind.u64.wrap x.toInt = (x.toNat : Int) := by rw [wrap_u64_bv, ofInt_toInt]
theorem ext64 {x y : BitVec 64} (h : ∀ i, i < 64 → x.getLsbD i = y.getLsbD i) : x = y := BitVec.eq_of_getLsbD_eq h
theorem bv_eq_iff (x y : BitVec 64) : ((x.toNat : Int) == (y.toNat : Int)) = (x == y) := by
  rw [Bool.eq_iff_iff]; simp; norm_cast; exact BitVec.toNat_inj
theorem low63 (a : Int) : 0 ≤ bits .and .i64 a 63 ∧ bits .and .i64 a 63 ≤ 63 := by
  have h : bits .and .i64 a 63 = IntKind.i64.wrap ((BitVec.ofInt 64 a &&& BitVec.ofInt 64 63).toNat : Int) := rfl
  have hl : (BitVec.ofInt 64 a &&& BitVec.ofInt 64 63).toNat ≤ 63 := by
    rw [BitVec.toNat_and]
    exact Nat.le_trans Nat.and_le_right (by decide)
  rw [h, IntKind.wrap_i64]
  omega

end Go.Proofs.YtnepnckiciapfaaDoor.Words
