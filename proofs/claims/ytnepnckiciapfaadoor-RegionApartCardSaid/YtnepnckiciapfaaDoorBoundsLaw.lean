/-
  What mintmarklaw03.span answers: the smaller and the greater one of two numbers modulo 2^48 + 1.
-/
import Derived.Test.YtnepnckiciapfaaDoorBoundsWalks
namespace Go.Proofs.YtnepnckiciapfaaDoor
open Go.RowKit Words BoundsMath

theorem ret_pair {k l : IntKind} {a b c d : Int} (h : a = c) (h2 : b = d) : Ending.returned (.agg #[.int k a, .int l b]) = .returned (.agg #[.int k c, .int l d]) := by rw [h, h2]

end Go.Proofs.YtnepnckiciapfaaDoor