/-
  What the document's own answers of layer 2 (package mintmarkref02) are, called with any arguments: each is the plain function of XScaleMath, though reckoned bit by bit in a loop.
-/
import Derived.Test.YtkblpbnppkfjnaaScaleWalks
namespace Go.Proofs.Ytkblpbnppkfjnaa
open Go.RowKit Words ScaleMath

/-- Bit k of x, as the walk asks for it. -/
theorem bit_walk (x : BitVec 64) (k : Nat) : bits .and .u64 ((x.toNat : Int) / 2 ^ k) 1 = if x.getLsbD k = true then 1 else 0 := by
  rw [shr_bv, show (1 : Int) = ((1#64).toNat : Int) by decide, and_bv]
  have : (x >>> k &&& 1#64) = if x.getLsbD k = true then 1#64 else 0#64 := by
    refine ext64 fun i hi => ?_
    rw [BitVec.getLsbD_and, BitVec.getLsbD_ushiftRight, BitVec.getLsbD_one]
    by_cases h : i = 0
    · subst h; cases hb : x.getLsbD k <;> simp
    · cases hb : x.getLsbD k <;> simp [h]
  rw [this]
  cases x.getLsbD k <;> rfl
theorem bit_yes (x : BitVec 64) (k : Nat) (h : x.getLsbD k = true) : bits .and .u64 ((x.toNat : Int) / 2 ^ k) 1 = 1 := by rw [bit_walk, if_pos h]
theorem bit_no (x : BitVec 64) (k : Nat) (h : x.getLsbD k = false) : bits .and .u64 ((x.toNat : Int) / 2 ^ k) 1 = 0 := by rw [bit_walk, h]; rfl

end Go.Proofs.Ytkblpbnppkfjnaa