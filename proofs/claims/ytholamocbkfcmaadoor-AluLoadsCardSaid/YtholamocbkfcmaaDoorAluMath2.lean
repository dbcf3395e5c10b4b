/-
  What the instructions of layer 15 do, as functions of their numbers. No program text here.
-/
import Derived.Test.YtholamocbkfcmaaDoorAluMath
import Derived.Test.YtholamocbkfcmaaDoorFieldMath
namespace Go.Proofs.YtholamocbkfcmaaDoor
open Go.RowKit Words FieldMath
/-- Does an instruction make a number of two? -/
def isDo (op : Int) : Bool := decide (22 ≤ op ∧ op ≤ 40)
/-- What it makes of them. -/
def doV (op : Int) (a b : BitVec 64) : BitVec 64 :=
  match op.toNat with
  | 22 => a + b
  | 23 => oneB (a.slt b)
  | 24 => oneB (a.ult b)
  | 25 => a ^^^ b
  | 26 => a ||| b
  | 27 => a &&& b
  | 28 => a <<< (b.toNat % 64)
  | 29 => a >>> (b.toNat % 64)
  | 30 => a.sshiftRight (b.toNat % 64)
  | 31 => a + b
  | 32 => a - b
  | 33 => a <<< (b.toNat % 64)
  | 34 => oneB (a.slt b)
  | 35 => oneB (a.ult b)
  | 36 => a ^^^ b
  | 37 => a >>> (b.toNat % 64)
  | 38 => a.sshiftRight (b.toNat % 64)
  | 39 => a ||| b
  | 40 => a &&& b
  | _ => 0
/-- Is it a branch? -/
def isTk (op : Int) : Bool := decide (5 ≤ op ∧ op ≤ 10)
/-- Is it taken? -/
def tkV (op : Int) (a b : BitVec 64) : Bool :=
  match op.toNat with
  | 5 => a == b
  | 6 => !(a == b)
  | 7 => a.slt b
  | 8 => !(a.slt b)
  | 9 => a.ult b
  | 10 => !(a.ult b)
  | _ => false
/-- How many bytes are loaded, or stored. -/
def widL : List Nat := [0, 0, 0, 0, 0, 0, 0, 0, 0, 0, 0, 1, 2, 4, 8, 1, 2, 4, 1, 2, 4, 8, 0, 0, 0, 0, 0, 0, 0, 0, 0, 0, 0, 0, 0, 0, 0, 0, 0, 0, 0, 0, 0, 16, 16]
def wid (k : Nat) : Nat := widL.getD k 0
def widI (op : Int) : Int := if op < 0 then 0 else (wid op.toNat : Int)
theorem wid_hi (k : Nat) (h : 45 ≤ k) : wid k = 0 := by
  unfold wid
  rw [List.getD_eq_getElem?_getD, List.getElem?_eq_none (by simpa [widL] using h)]
  rfl
/-- What a load makes of the bytes. -/
def extV (op : Int) (v : BitVec 64) : BitVec 64 :=
  match op.toNat with
  | 11 => signB v 8
  | 12 => signB v 16
  | 13 => signB v 32
  | 14 => v
  | 15 => getB v 0 8
  | 16 => getB v 0 16
  | 17 => getB v 0 32
  | _ => 0
theorem get_all (v : BitVec 64) : getB v 0 64 = v := by
  refine ext64 fun i hi => ?_
  rw [get_bit _ _ _ _ hi]
  have : (i : Int) < 64 := by omega
  simp [okF, this]
theorem sign_full (v : BitVec 64) : signB v 64 = v := by
  refine ext64 fun i hi => ?_
  have e : (i : Int) < 64 := by omega
  rw [sign_bit _ _ _ hi, if_pos e]
  simp [numW]
/-- Shifted right with the sign is shifted right, and the sign of what is left. -/
theorem sar_sign (a : BitVec 64) (n : Nat) (h : n < 64) : signB (a >>> n) (64 - (n : Int)) = a.sshiftRight n := by
  refine ext64 fun i hi => ?_
  have e0 : ¬ 64 ≤ i := by omega
  have e1 : numW (64 - (n : Int)) = true := decide_eq_true (by omega)
  rw [sign_bit _ _ _ hi, e1, BitVec.getLsbD_ushiftRight, BitVec.getLsbD_sshiftRight, BitVec.msb_eq_getLsbD_last]
  simp only [e0, decide_false, Bool.not_false, Bool.true_and]
  by_cases h1 : n + i < 64
  · rw [if_pos (by omega), if_pos h1]
  · rw [if_neg (by omega), if_neg h1]
    congr 1
    omega
theorem add_top (x : BitVec 64) : x ^^^ 9223372036854775808#64 = x + 9223372036854775808#64 := by
  refine ext64 fun i hi => ?_
  have h1 : (9223372036854775808#64) = BitVec.twoPow 64 63 := by decide
  rw [BitVec.getLsbD_xor]
  have h2 : (x + 9223372036854775808#64).getLsbD i = (2 ^ 63 + x.toNat).testBit i := by
    unfold BitVec.getLsbD
    rw [BitVec.toNat_add, Nat.testBit_mod_two_pow, decide_eq_true hi, Bool.true_and, Nat.add_comm]
    rfl
  rw [h2, h1, BitVec.getLsbD_twoPow]
  by_cases h : i = 63
  · subst h
    rw [Nat.testBit_two_pow_add_eq]
    simp [BitVec.getLsbD]
  · rw [Nat.testBit_two_pow_add_gt (by omega)]
    have h3 : ¬ 63 = i := by omega
    simp [BitVec.getLsbD, h3]
/-- The document's comparison with a sign. -/
theorem below_w (x y : BitVec 64) : decide ((x ^^^ 9223372036854775808#64).toNat < (y ^^^ 9223372036854775808#64).toNat) = x.slt y := by
  rw [add_top, add_top]
  unfold BitVec.slt
  rw [decide_eq_decide, BitVec.toInt_eq_toNat_cond, BitVec.toInt_eq_toNat_cond, BitVec.toNat_add, BitVec.toNat_add]
  have h1 := x.isLt
  have h2 := y.isLt
  have h3 : (9223372036854775808#64).toNat = 9223372036854775808 := rfl
  rw [h3]
  split <;> split <;> omega
end Go.Proofs.YtholamocbkfcmaaDoor
