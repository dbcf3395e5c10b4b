/-
  What field.Lay answers for any list of parts: each is put, one after the other, into the word 0; nothing that was there turns.
-/
import Derived.Test.YtnepnckiciapfaaDoorFieldWalks
import Derived.OneCell
import Derived.Test.YtnepnckiciapfaaDoorLawFrame
namespace Go.Proofs.YtnepnckiciapfaaDoor
open Go.RowKit Words FieldMath

abbrev Part3 := Int × Int × BitVec 64
def layB (l : List Part3) : BitVec 64 := l.foldl (fun w p => putB w p.1 p.2.1 p.2.2) 0
theorem layB_snoc (l : List Part3) (p : Part3) : layB (l ++ [p]) = putB (layB l) p.1 p.2.1 p.2.2 := by simp [layB]
theorem layB_take (l : List Part3) (k : Nat) (h : k < l.length) : layB (l.take (k + 1)) = putB (layB (l.take k)) l[k].1 l[k].2.1 l[k].2.2 := by
  rw [List.take_succ_eq_append_getElem h, layB_snoc]

end Go.Proofs.YtnepnckiciapfaaDoor