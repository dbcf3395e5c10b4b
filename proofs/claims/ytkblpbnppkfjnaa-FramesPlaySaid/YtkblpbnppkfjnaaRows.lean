/-
  No cell of these rows narrows 'for every input' (looked for: loops, veiled, ifaces, maps, wideKeys, modest, calm, conditions, laid).
  DERIVED. THE GIVEN ROWS OF THIS SEAT. 3 by the template 'for every input the law returns true; each argument reads behind the call as it read before'; 0 by the template 'total and deterministic' (their statements: YtkblpbnppkfjnaaTotals.lean).
  GIVEN WITH THE SEED: the statements are not yours to turn. If you find one false, say at which input.
  Laid BY PROGRAM, IN A SANDBOX (cutbox-rows.mjs): the forced cells as the released guide's own fill.sh prints them over the translation 71f9dfdafa53bb0e… (all of the seat's roots in one cut). By AI agents, Wed Nov 11 2026. No macro, syntax, notation, axiom, sorry.
-/
import Derived.Test.YtkblpbnppkfjnaaChecked
import GoSem.Claim
import GoSem.ClaimJoined
import GoSem.ClaimMapViews
import Derived.JoinedTies
import Derived.KernelRfl
namespace Go.Proofs.Ytkblpbnppkfjnaa
/- THE CELL 'sum', in the pinned program and in every row, IS THE sha256 OF THE DUMP (.gsa) THAT YtkblpbnppkfjnaaProg.lean LOADS. Nothing in Lean hashes anything: it is a label: what it is worth is what the hold of that sum in a sandbox is worth. -/
noncomputable def Try.pinned : Pinned := { name := "ytkblpbnppkfjnaa", sum := "71f9dfdafa53bb0e2896edd329dd125cfdf1330b11a250ab3c47219ac44b7da7", checked := Try.checked }
namespace Rows
def none {H : Type} : Left H := { results := [], args := [] }

/-- 'mintmarklaw18.FramesPlay': WHATEVER THE INPUT: true; the input reads as it did. -/
def framesPlaySpec : ChangeSpec := { name := "framesPlay", fn := fun _ => fun
  | [d1, d2] => { results := [.lit (.bool true)], args := [d1, d2] }
  | _ => none }
def framesPlayRow : OpenClaim := { program := "ytkblpbnppkfjnaa", sum := "71f9dfdafa53bb0e2896edd329dd125cfdf1330b11a250ab3c47219ac44b7da7", func := "mintmark/mintmarklaw18.FramesPlay", spec := "framesPlay", unfollowed := true, recurses := true, apart := false }
def FramesPlaySaid : Prop := framesPlayRow.holds Try.pinned (OpenSpec.ofChange framesPlaySpec)

/-- ITS FALSE NEIGHBOUR: 'it returns false'. Refute it at one input. -/
def framesPlayWrong : ChangeSpec := { name := "framesPlay", fn := fun _ => fun
  | [d1, d2] => { results := [.lit (.bool false)], args := [d1, d2] }
  | _ => none }
def FramesPlayWrongFalsely : Prop := framesPlayRow.holds Try.pinned (OpenSpec.ofChange framesPlayWrong)

/-- 'mintmarklaw18.FramesNobody': WHATEVER THE INPUT: true; the input reads as it did. -/
def framesNobodySpec : ChangeSpec := { name := "framesNobody", fn := fun _ => fun
  | [d] => { results := [.lit (.bool true)], args := [d] }
  | _ => none }
def framesNobodyRow : OpenClaim := { program := "ytkblpbnppkfjnaa", sum := "71f9dfdafa53bb0e2896edd329dd125cfdf1330b11a250ab3c47219ac44b7da7", func := "mintmark/mintmarklaw18.FramesNobody", spec := "framesNobody", unfollowed := true, recurses := true, apart := false }
def FramesNobodySaid : Prop := framesNobodyRow.holds Try.pinned (OpenSpec.ofChange framesNobodySpec)

/-- ITS FALSE NEIGHBOUR: 'it returns false'. Refute it at one input. -/
def framesNobodyWrong : ChangeSpec := { name := "framesNobody", fn := fun _ => fun
  | [d] => { results := [.lit (.bool false)], args := [d] }
  | _ => none }
def FramesNobodyWrongFalsely : Prop := framesNobodyRow.holds Try.pinned (OpenSpec.ofChange framesNobodyWrong)

/-- 'mintmarklaw18.FramesLowest': WHATEVER THE INPUT: true; the input reads as it did. -/
def framesLowestSpec : ChangeSpec := { name := "framesLowest", fn := fun _ => fun
  | [d1, d2] => { results := [.lit (.bool true)], args := [d1, d2] }
  | _ => none }
def framesLowestRow : OpenClaim := { program := "ytkblpbnppkfjnaa", sum := "71f9dfdafa53bb0e2896edd329dd125cfdf1330b11a250ab3c47219ac44b7da7", func := "mintmark/mintmarklaw18.FramesLowest", spec := "framesLowest", unfollowed := true, recurses := true, apart := false }
def FramesLowestSaid : Prop := framesLowestRow.holds Try.pinned (OpenSpec.ofChange framesLowestSpec)

/-- ITS FALSE NEIGHBOUR: 'it returns false'. Refute it at one input. -/
def framesLowestWrong : ChangeSpec := { name := "framesLowest", fn := fun _ => fun
  | [d1, d2] => { results := [.lit (.bool false)], args := [d1, d2] }
  | _ => none }
def FramesLowestWrongFalsely : Prop := framesLowestRow.holds Try.pinned (OpenSpec.ofChange framesLowestWrong)

/- THE SECOND FORM. 'bulk': how many values and letters a reading holds, each counted each time it is reached (what is shared counts as often as it is met; a slice's spare places count too). A statement '..UptoSaid' is the law's where the arguments, and the package variables that the reading takes, are together of bulk at most 1048576: NARROWER than '..Said'. Prove '..Said' where nothing that the law and all that it calls make is longer than what came in: it says more and counts as full. Else prove '..UptoSaid'. A law counts once. -/
mutual
def uptoBulk {H : Type} : DataW H → Nat
  | .lit (.string bytes) => bytes.length + 1
  | .lit _ => 1
  | .nil => 1
  | .ptr d => uptoBulk d + 1
  | .slice elems spare => uptoBulkAll elems + uptoBulkAll spare + 1
  | .agg parts => uptoBulkAll parts + 1
  | .iface _ d => uptoBulk d + 1
  | .map entries => uptoBulkEntries entries + 1
  | .held _ => 1
def uptoBulkAll {H : Type} : List (DataW H) → Nat
  | [] => 0
  | d :: r => uptoBulk d + uptoBulkAll r
def uptoBulkEntries {H : Type} : List (Lit × DataW H) → Nat
  | [] => 0
  | x :: r => uptoBulkEntry x + uptoBulkEntries r
def uptoBulkEntry {H : Type} : Lit × DataW H → Nat
  | (.string bytes, d) => bytes.length + uptoBulk d + 1
  | (_, d) => uptoBulk d + 1
 end
def uptoSmall : (H : Type) → List (DataW H) → Bool := fun _ ds => decide (uptoBulkAll ds ≤ 1048576)
def OpenSpec.upto (s : _root_.Go.ChangeSpec) : _root_.Go.OpenSpec := { _root_.Go.OpenSpec.ofChange s with cond := some uptoSmall }

/-- 'mintmarklaw18.FramesPlay', WHERE WHAT IT READS IS OF BULK AT MOST 1048576: true; the input reads as it did. -/
def framesPlayUptoRow : OpenClaim := { program := "ytkblpbnppkfjnaa", sum := "71f9dfdafa53bb0e2896edd329dd125cfdf1330b11a250ab3c47219ac44b7da7", func := "mintmark/mintmarklaw18.FramesPlay", spec := "framesPlay", unfollowed := true, recurses := true, apart := false, narrowed := true }
def FramesPlayUptoSaid : Prop := framesPlayUptoRow.holds Try.pinned (OpenSpec.upto framesPlaySpec)

/-- 'mintmarklaw18.FramesNobody', WHERE WHAT IT READS IS OF BULK AT MOST 1048576: true; the input reads as it did. -/
def framesNobodyUptoRow : OpenClaim := { program := "ytkblpbnppkfjnaa", sum := "71f9dfdafa53bb0e2896edd329dd125cfdf1330b11a250ab3c47219ac44b7da7", func := "mintmark/mintmarklaw18.FramesNobody", spec := "framesNobody", unfollowed := true, recurses := true, apart := false, narrowed := true }
def FramesNobodyUptoSaid : Prop := framesNobodyUptoRow.holds Try.pinned (OpenSpec.upto framesNobodySpec)

/-- 'mintmarklaw18.FramesLowest', WHERE WHAT IT READS IS OF BULK AT MOST 1048576: true; the input reads as it did. -/
def framesLowestUptoRow : OpenClaim := { program := "ytkblpbnppkfjnaa", sum := "71f9dfdafa53bb0e2896edd329dd125cfdf1330b11a250ab3c47219ac44b7da7", func := "mintmark/mintmarklaw18.FramesLowest", spec := "framesLowest", unfollowed := true, recurses := true, apart := false, narrowed := true }
def FramesLowestUptoSaid : Prop := framesLowestUptoRow.holds Try.pinned (OpenSpec.upto framesLowestSpec)

end Rows
end Go.Proofs.Ytkblpbnppkfjnaa
