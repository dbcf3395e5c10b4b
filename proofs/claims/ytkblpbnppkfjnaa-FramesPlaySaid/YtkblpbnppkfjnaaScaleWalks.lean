/-
  What the functions of package scale that only reckon (Add, In, Down, Up) answer, called with any arguments: each is the plain function of XScaleMath on words of 64 bits, and turns nothing in memory.
-/
import Derived.Test.YtkblpbnppkfjnaaQuiet
import Derived.Test.YtkblpbnppkfjnaaScaleMath
namespace Go.Proofs.Ytkblpbnppkfjnaa
open Go.RowKit Words ScaleMath

theorem ret_two {k : IntKind} {a b : Int} {c d : Bool} (h : a = b) (h2 : c = d) : Ending.returned (.tuple #[.int k a, .bool c]) = .returned (.tuple #[.int k b, .bool d]) := by rw [h, h2]

end Go.Proofs.Ytkblpbnppkfjnaa