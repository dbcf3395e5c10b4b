/-
  Plain mathematics of the entries of page tables: fields of words as quotients and remainders; which page and which indices an address has. No Go text here.
-/
import Derived.Test.YtnookalplejneaaDoorFieldMath
namespace Go.Proofs.YtnookalplejneaaDoor.PteMath
open Go Words FieldMath

theorem get_nat (x : BitVec 64) (a w : Nat) (h : a + w ≤ 64) : (getB x (a : Int) (w : Int)).toNat = x.toNat / 2 ^ a % 2 ^ w := by
  have hp : 2 ^ w ≤ 2 ^ 64 := Nat.pow_le_pow_right (by decide) (by omega)
  have h0 := Nat.two_pow_pos w
  unfold getB maskB
  rw [if_pos (show okF a w = true from decide_eq_true (by omega)), BitVec.toNat_and, BitVec.toNat_ushiftRight, Nat.shiftRight_eq_div_pow, BitVec.toNat_ofNat, show min ((w : Int)).toNat 64 = w by omega,
    Nat.mod_eq_of_lt (show 2 ^ w - 1 < 2 ^ 64 by omega), Nat.and_two_pow_sub_one_eq_mod, show ((a : Int)).toNat = a by omega]
theorem mask_nat (x : BitVec 64) (k : Nat) (hk : k ≤ 64) : (x &&& maskB (k : Int)).toNat = x.toNat % 2 ^ k := by
  have hp : 2 ^ k ≤ 2 ^ 64 := Nat.pow_le_pow_right (by decide) hk
  have h0 := Nat.two_pow_pos k
  unfold maskB
  rw [BitVec.toNat_and, BitVec.toNat_ofNat, show min ((k : Int)).toNat 64 = k by omega, Nat.mod_eq_of_lt (show 2 ^ k - 1 < 2 ^ 64 by omega), Nat.and_two_pow_sub_one_eq_mod]
/-- The index of an address in a table of the level. -/
def idx (v : Nat) (l : Int) : Nat := if l = 0 then v / 4096 % 512 else if l = 1 then v / 2097152 % 512 else if l = 2 then v / 1073741824 % 512 else 0
theorem idx_lt (v : Nat) (l : Int) : idx v l < 512 := by
  unfold idx
  split
  · omega
  split
  · omega
  split <;> omega
theorem get0 (x : BitVec 64) : ((getB x 12 9).toNat : Int) = (idx x.toNat 0 : Int) := by
  rw [show getB x 12 9 = getB x ((12 : Nat) : Int) ((9 : Nat) : Int) from rfl, get_nat _ _ _ (by omega)]; rfl
theorem get1 (x : BitVec 64) : ((getB x 21 9).toNat : Int) = (idx x.toNat 1 : Int) := by
  rw [show getB x 21 9 = getB x ((21 : Nat) : Int) ((9 : Nat) : Int) from rfl, get_nat _ _ _ (by omega)]; rfl
theorem get2 (x : BitVec 64) : ((getB x 30 9).toNat : Int) = (idx x.toNat 2 : Int) := by
  rw [show getB x 30 9 = getB x ((30 : Nat) : Int) ((9 : Nat) : Int) from rfl, get_nat _ _ _ (by omega)]; rfl
theorem small_wrap (n : Nat) (h : n < 512) : RowKit.wrap64 (n : Int) = (n : Int) := by
  simp only [RowKit.wrap64]; omega
theorem may_nat (v k : Nat) (hk : 0 < k) : ((v : Int) == ((v % k : Nat) : Int)) = decide ((v : Int) < (k : Int)) := by
  rw [Bool.eq_iff_iff, beq_iff_eq, decide_eq_true_eq]
  norm_cast
  constructor
  · intro h; rw [h]; exact Nat.mod_lt _ hk
  · intro h; exact (Nat.mod_eq_of_lt h).symm
theorem may_bv (x : BitVec 64) : ((x.toNat : Int) == (((x &&& maskB 38).toNat : Nat) : Int)) = decide ((x.toNat : Int) < 274877906944) := by
  rw [show maskB 38 = maskB ((38 : Nat) : Int) from rfl, mask_nat _ _ (by omega)]
  exact may_nat _ _ (by decide)
end Go.Proofs.YtnookalplejneaaDoor.PteMath
