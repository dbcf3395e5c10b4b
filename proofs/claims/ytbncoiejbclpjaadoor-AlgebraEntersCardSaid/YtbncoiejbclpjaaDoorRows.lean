/-
  NARROWER THAN 'FOR EVERY INPUT', by the rows' own cells (each row's printed sentence says how): AlgebraMoves: laid · AlgebraSeals: laid · AlgebraNarrows: laid · AlgebraOpens: laid · AlgebraChecks: laid · AlgebraReturns: laid · AlgebraEnters: laid.
  DERIVED. THE GIVEN ROWS OF THIS SEAT. 7 by the template 'for every input the law returns true; each argument reads behind the call as it read before'; 0 by the template 'total and deterministic' (their statements: YtbncoiejbclpjaaDoorTotals.lean).
  GIVEN WITH THE SEED: the statements are not yours to turn. If you find one false, say at which input.
  Laid BY PROGRAM, IN A SANDBOX (cutbox-rows.mjs): the forced cells as the released guide's own fill.sh prints them over the translation e128951e190e715a… (all of the seat's roots in one cut). By AI agents, Wed Nov 11 2026. No macro, syntax, notation, axiom, sorry.
-/
import Derived.Test.YtbncoiejbclpjaaDoorChecked
import GoSem.Claim
import GoSem.ClaimJoined
import GoSem.ClaimMapViews
import Derived.JoinedTies
import Derived.KernelRfl
namespace Go.Proofs.YtbncoiejbclpjaaDoor
/- THE CELL 'sum', in the pinned program and in every row, IS THE sha256 OF THE DUMP (.gsa) THAT YtbncoiejbclpjaaDoorProg.lean LOADS. Nothing in Lean hashes anything: it is a label: what it is worth is what the hold of that sum in a sandbox is worth. -/
noncomputable def Tryd.pinned : Pinned := { name := "ytbncoiejbclpjaadoor", sum := "e128951e190e715a2e172d639ad5e0c7b049c6baaf7fb965166483a6c07b50e3", checked := Tryd.checked }
namespace Rows
def none {H : Type} : Left H := { results := [], args := [] }

/- WHAT THE LISTED PACKAGE-LEVEL VARIABLES READ AS WHEN THE CALL BEGINS. Each datum BY PROGRAM (the guide's laid-datum.mjs) off the statement by which the dump's own 'gosem.cut.vars' lays the variable. In a bare row this is a premise. The card (YtbncoiejbclpjaaDoorCards.lean) ties it to the program's text. -/
def laid_mintmark_bounds_places {H : Type} : DataW H := .agg [.agg [.lit (.int .i64 0), .lit (.int .i64 14)], .agg [.lit (.int .i64 14), .lit (.int .i64 12)], .agg [.lit (.int .i64 26), .lit (.int .i64 6)]]
def laid_mintmark_perm_accesses {H : Type} : DataW H := .agg [.agg [.lit (.int .u64 4), .lit (.string [102, 101, 116, 99, 104])], .agg [.lit (.int .u64 1), .lit (.string [114, 101, 97, 100])], .agg [.lit (.int .u64 2), .lit (.string [119, 114, 105, 116, 101])], .agg [.lit (.int .u64 9), .lit (.string [114, 101, 97, 100, 99, 97, 112])], .agg [.lit (.int .u64 18), .lit (.string [119, 114, 105, 116, 101, 99, 97, 112])]]

/-- 'mintmarklaw06.AlgebraMoves': WHATEVER THE INPUT: true; the input reads as it did. -/
def algebraMovesSpec : ChangeSpec := { name := "algebraMoves", fn := fun _ => fun
  | [d1, d2, d3] => { results := [.lit (.bool true)], args := [d1, d2, d3] }
  | _ => none }
def algebraMovesRow : OpenClaim := { program := "ytbncoiejbclpjaadoor", sum := "e128951e190e715a2e172d639ad5e0c7b049c6baaf7fb965166483a6c07b50e3", func := "mintmark/mintmarklaw06.AlgebraMoves", spec := "algebraMoves", unfollowed := true, recurses := true, named := ["mintmark/bounds.places"], apart := false, laid := [("mintmark/bounds.places", laid_mintmark_bounds_places)] }
def AlgebraMovesSaid : Prop := algebraMovesRow.holds Tryd.pinned (OpenSpec.ofChange algebraMovesSpec)

/-- ITS FALSE NEIGHBOUR: 'it returns false'. Refute it at one input. -/
def algebraMovesWrong : ChangeSpec := { name := "algebraMoves", fn := fun _ => fun
  | [d1, d2, d3] => { results := [.lit (.bool false)], args := [d1, d2, d3] }
  | _ => none }
def AlgebraMovesWrongFalsely : Prop := algebraMovesRow.holds Tryd.pinned (OpenSpec.ofChange algebraMovesWrong)

/-- 'mintmarklaw06.AlgebraSeals': WHATEVER THE INPUT: true; the input reads as it did. -/
def algebraSealsSpec : ChangeSpec := { name := "algebraSeals", fn := fun _ => fun
  | [d1, d2] => { results := [.lit (.bool true)], args := [d1, d2] }
  | _ => none }
def algebraSealsRow : OpenClaim := { program := "ytbncoiejbclpjaadoor", sum := "e128951e190e715a2e172d639ad5e0c7b049c6baaf7fb965166483a6c07b50e3", func := "mintmark/mintmarklaw06.AlgebraSeals", spec := "algebraSeals", unfollowed := true, recurses := true, named := ["mintmark/bounds.places"], apart := false, laid := [("mintmark/bounds.places", laid_mintmark_bounds_places)] }
def AlgebraSealsSaid : Prop := algebraSealsRow.holds Tryd.pinned (OpenSpec.ofChange algebraSealsSpec)

/-- ITS FALSE NEIGHBOUR: 'it returns false'. Refute it at one input. -/
def algebraSealsWrong : ChangeSpec := { name := "algebraSeals", fn := fun _ => fun
  | [d1, d2] => { results := [.lit (.bool false)], args := [d1, d2] }
  | _ => none }
def AlgebraSealsWrongFalsely : Prop := algebraSealsRow.holds Tryd.pinned (OpenSpec.ofChange algebraSealsWrong)

/-- 'mintmarklaw06.AlgebraNarrows': WHATEVER THE INPUT: true; the input reads as it did. -/
def algebraNarrowsSpec : ChangeSpec := { name := "algebraNarrows", fn := fun _ => fun
  | [d1, d2] => { results := [.lit (.bool true)], args := [d1, d2] }
  | _ => none }
def algebraNarrowsRow : OpenClaim := { program := "ytbncoiejbclpjaadoor", sum := "e128951e190e715a2e172d639ad5e0c7b049c6baaf7fb965166483a6c07b50e3", func := "mintmark/mintmarklaw06.AlgebraNarrows", spec := "algebraNarrows", unfollowed := true, recurses := true, named := ["mintmark/bounds.places"], apart := false, laid := [("mintmark/bounds.places", laid_mintmark_bounds_places)] }
def AlgebraNarrowsSaid : Prop := algebraNarrowsRow.holds Tryd.pinned (OpenSpec.ofChange algebraNarrowsSpec)

/-- ITS FALSE NEIGHBOUR: 'it returns false'. Refute it at one input. -/
def algebraNarrowsWrong : ChangeSpec := { name := "algebraNarrows", fn := fun _ => fun
  | [d1, d2] => { results := [.lit (.bool false)], args := [d1, d2] }
  | _ => none }
def AlgebraNarrowsWrongFalsely : Prop := algebraNarrowsRow.holds Tryd.pinned (OpenSpec.ofChange algebraNarrowsWrong)

/-- 'mintmarklaw06.AlgebraOpens': WHATEVER THE INPUT: true; the input reads as it did. -/
def algebraOpensSpec : ChangeSpec := { name := "algebraOpens", fn := fun _ => fun
  | [d1, d2, d3] => { results := [.lit (.bool true)], args := [d1, d2, d3] }
  | _ => none }
def algebraOpensRow : OpenClaim := { program := "ytbncoiejbclpjaadoor", sum := "e128951e190e715a2e172d639ad5e0c7b049c6baaf7fb965166483a6c07b50e3", func := "mintmark/mintmarklaw06.AlgebraOpens", spec := "algebraOpens", unfollowed := true, recurses := true, named := ["mintmark/bounds.places", "mintmark/perm.accesses"], apart := false, laid := [("mintmark/perm.accesses", laid_mintmark_perm_accesses), ("mintmark/bounds.places", laid_mintmark_bounds_places)] }
def AlgebraOpensSaid : Prop := algebraOpensRow.holds Tryd.pinned (OpenSpec.ofChange algebraOpensSpec)

/-- ITS FALSE NEIGHBOUR: 'it returns false'. Refute it at one input. -/
def algebraOpensWrong : ChangeSpec := { name := "algebraOpens", fn := fun _ => fun
  | [d1, d2, d3] => { results := [.lit (.bool false)], args := [d1, d2, d3] }
  | _ => none }
def AlgebraOpensWrongFalsely : Prop := algebraOpensRow.holds Tryd.pinned (OpenSpec.ofChange algebraOpensWrong)

/-- 'mintmarklaw06.AlgebraChecks': WHATEVER THE INPUT: true; the input reads as it did. -/
def algebraChecksSpec : ChangeSpec := { name := "algebraChecks", fn := fun _ => fun
  | [d1, d2] => { results := [.lit (.bool true)], args := [d1, d2] }
  | _ => none }
def algebraChecksRow : OpenClaim := { program := "ytbncoiejbclpjaadoor", sum := "e128951e190e715a2e172d639ad5e0c7b049c6baaf7fb965166483a6c07b50e3", func := "mintmark/mintmarklaw06.AlgebraChecks", spec := "algebraChecks", unfollowed := true, recurses := true, named := ["mintmark/perm.accesses", "mintmark/bounds.places"], apart := false, laid := [("mintmark/perm.accesses", laid_mintmark_perm_accesses), ("mintmark/bounds.places", laid_mintmark_bounds_places)] }
def AlgebraChecksSaid : Prop := algebraChecksRow.holds Tryd.pinned (OpenSpec.ofChange algebraChecksSpec)

/-- ITS FALSE NEIGHBOUR: 'it returns false'. Refute it at one input. -/
def algebraChecksWrong : ChangeSpec := { name := "algebraChecks", fn := fun _ => fun
  | [d1, d2] => { results := [.lit (.bool false)], args := [d1, d2] }
  | _ => none }
def AlgebraChecksWrongFalsely : Prop := algebraChecksRow.holds Tryd.pinned (OpenSpec.ofChange algebraChecksWrong)

/-- 'mintmarklaw06.AlgebraReturns': WHATEVER THE INPUT: true; the input reads as it did. -/
def algebraReturnsSpec : ChangeSpec := { name := "algebraReturns", fn := fun _ => fun
  | [d1, d2, d3] => { results := [.lit (.bool true)], args := [d1, d2, d3] }
  | _ => none }
def algebraReturnsRow : OpenClaim := { program := "ytbncoiejbclpjaadoor", sum := "e128951e190e715a2e172d639ad5e0c7b049c6baaf7fb965166483a6c07b50e3", func := "mintmark/mintmarklaw06.AlgebraReturns", spec := "algebraReturns", unfollowed := true, recurses := true, named := ["mintmark/bounds.places"], apart := false, laid := [("mintmark/bounds.places", laid_mintmark_bounds_places)] }
def AlgebraReturnsSaid : Prop := algebraReturnsRow.holds Tryd.pinned (OpenSpec.ofChange algebraReturnsSpec)

/-- ITS FALSE NEIGHBOUR: 'it returns false'. Refute it at one input. -/
def algebraReturnsWrong : ChangeSpec := { name := "algebraReturns", fn := fun _ => fun
  | [d1, d2, d3] => { results := [.lit (.bool false)], args := [d1, d2, d3] }
  | _ => none }
def AlgebraReturnsWrongFalsely : Prop := algebraReturnsRow.holds Tryd.pinned (OpenSpec.ofChange algebraReturnsWrong)

/-- 'mintmarklaw06.AlgebraEnters': WHATEVER THE INPUT: true; the input reads as it did. -/
def algebraEntersSpec : ChangeSpec := { name := "algebraEnters", fn := fun _ => fun
  | [d1, d2] => { results := [.lit (.bool true)], args := [d1, d2] }
  | _ => none }
def algebraEntersRow : OpenClaim := { program := "ytbncoiejbclpjaadoor", sum := "e128951e190e715a2e172d639ad5e0c7b049c6baaf7fb965166483a6c07b50e3", func := "mintmark/mintmarklaw06.AlgebraEnters", spec := "algebraEnters", unfollowed := true, recurses := true, named := ["mintmark/bounds.places", "mintmark/perm.accesses"], apart := false, laid := [("mintmark/perm.accesses", laid_mintmark_perm_accesses), ("mintmark/bounds.places", laid_mintmark_bounds_places)] }
def AlgebraEntersSaid : Prop := algebraEntersRow.holds Tryd.pinned (OpenSpec.ofChange algebraEntersSpec)

/-- ITS FALSE NEIGHBOUR: 'it returns false'. Refute it at one input. -/
def algebraEntersWrong : ChangeSpec := { name := "algebraEnters", fn := fun _ => fun
  | [d1, d2] => { results := [.lit (.bool false)], args := [d1, d2] }
  | _ => none }
def AlgebraEntersWrongFalsely : Prop := algebraEntersRow.holds Tryd.pinned (OpenSpec.ofChange algebraEntersWrong)

/- THE SECOND FORM. 'bulk': how many values and letters a reading holds, each counted each time it is reached (what is shared counts as often as it is met; a slice's spare places count too). A statement '..UptoSaid' is the law's where the arguments, and the package variables that the reading takes, are together of bulk at most 1048576: NARROWER than '..Said'. Prove '..Said' where nothing that the law and all that it calls make is longer than what came in: it says more and counts as full. Else prove '..UptoSaid'. A law counts once. -/
mutual
def uptoBulk {H : Type} : DataW H → Nat
  | .lit (.string bytes) => bytes.length + 1
  | .lit _ => 1
  | .nil => 1
  | .ptr d => uptoBulk d + 1
  | .slice elems spare => uptoBulkAll elems + uptoBulkAll spare + 1
  | .agg parts => uptoBulkAll parts + 1
  | .iface _ d => uptoBulk d + 1
  | .map entries => uptoBulkEntries entries + 1
  | .held _ => 1
def uptoBulkAll {H : Type} : List (DataW H) → Nat
  | [] => 0
  | d :: r => uptoBulk d + uptoBulkAll r
def uptoBulkEntries {H : Type} : List (Lit × DataW H) → Nat
  | [] => 0
  | x :: r => uptoBulkEntry x + uptoBulkEntries r
def uptoBulkEntry {H : Type} : Lit × DataW H → Nat
  | (.string bytes, d) => bytes.length + uptoBulk d + 1
  | (_, d) => uptoBulk d + 1
 end
def uptoSmall : (H : Type) → List (DataW H) → Bool := fun _ ds => decide (uptoBulkAll ds ≤ 1048576)
def OpenSpec.upto (s : _root_.Go.ChangeSpec) : _root_.Go.OpenSpec := { _root_.Go.OpenSpec.ofChange s with cond := some uptoSmall }

/-- 'mintmarklaw06.AlgebraMoves', WHERE WHAT IT READS IS OF BULK AT MOST 1048576: true; the input reads as it did. -/
def algebraMovesUptoRow : OpenClaim := { program := "ytbncoiejbclpjaadoor", sum := "e128951e190e715a2e172d639ad5e0c7b049c6baaf7fb965166483a6c07b50e3", func := "mintmark/mintmarklaw06.AlgebraMoves", spec := "algebraMoves", unfollowed := true, recurses := true, named := ["mintmark/bounds.places"], apart := false, laid := [("mintmark/bounds.places", laid_mintmark_bounds_places)], narrowed := true }
def AlgebraMovesUptoSaid : Prop := algebraMovesUptoRow.holds Tryd.pinned (OpenSpec.upto algebraMovesSpec)

/-- 'mintmarklaw06.AlgebraSeals', WHERE WHAT IT READS IS OF BULK AT MOST 1048576: true; the input reads as it did. -/
def algebraSealsUptoRow : OpenClaim := { program := "ytbncoiejbclpjaadoor", sum := "e128951e190e715a2e172d639ad5e0c7b049c6baaf7fb965166483a6c07b50e3", func := "mintmark/mintmarklaw06.AlgebraSeals", spec := "algebraSeals", unfollowed := true, recurses := true, named := ["mintmark/bounds.places"], apart := false, laid := [("mintmark/bounds.places", laid_mintmark_bounds_places)], narrowed := true }
def AlgebraSealsUptoSaid : Prop := algebraSealsUptoRow.holds Tryd.pinned (OpenSpec.upto algebraSealsSpec)

/-- 'mintmarklaw06.AlgebraNarrows', WHERE WHAT IT READS IS OF BULK AT MOST 1048576: true; the input reads as it did. -/
def algebraNarrowsUptoRow : OpenClaim := { program := "ytbncoiejbclpjaadoor", sum := "e128951e190e715a2e172d639ad5e0c7b049c6baaf7fb965166483a6c07b50e3", func := "mintmark/mintmarklaw06.AlgebraNarrows", spec := "algebraNarrows", unfollowed := true, recurses := true, named := ["mintmark/bounds.places"], apart := false, laid := [("mintmark/bounds.places", laid_mintmark_bounds_places)], narrowed := true }
def AlgebraNarrowsUptoSaid : Prop := algebraNarrowsUptoRow.holds Tryd.pinned (OpenSpec.upto algebraNarrowsSpec)

/-- 'mintmarklaw06.AlgebraOpens', WHERE WHAT IT READS IS OF BULK AT MOST 1048576: true; the input reads as it did. -/
def algebraOpensUptoRow : OpenClaim := { program := "ytbncoiejbclpjaadoor", sum := "e128951e190e715a2e172d639ad5e0c7b049c6baaf7fb965166483a6c07b50e3", func := "mintmark/mintmarklaw06.AlgebraOpens", spec := "algebraOpens", unfollowed := true, recurses := true, named := ["mintmark/bounds.places", "mintmark/perm.accesses"], apart := false, laid := [("mintmark/perm.accesses", laid_mintmark_perm_accesses), ("mintmark/bounds.places", laid_mintmark_bounds_places)], narrowed := true }
def AlgebraOpensUptoSaid : Prop := algebraOpensUptoRow.holds Tryd.pinned (OpenSpec.upto algebraOpensSpec)

/-- 'mintmarklaw06.AlgebraChecks', WHERE WHAT IT READS IS OF BULK AT MOST 1048576: true; the input reads as it did. -/
def algebraChecksUptoRow : OpenClaim := { program := "ytbncoiejbclpjaadoor", sum := "e128951e190e715a2e172d639ad5e0c7b049c6baaf7fb965166483a6c07b50e3", func := "mintmark/mintmarklaw06.AlgebraChecks", spec := "algebraChecks", unfollowed := true, recurses := true, named := ["mintmark/perm.accesses", "mintmark/bounds.places"], apart := false, laid := [("mintmark/perm.accesses", laid_mintmark_perm_accesses), ("mintmark/bounds.places", laid_mintmark_bounds_places)], narrowed := true }
def AlgebraChecksUptoSaid : Prop := algebraChecksUptoRow.holds Tryd.pinned (OpenSpec.upto algebraChecksSpec)

/-- 'mintmarklaw06.AlgebraReturns', WHERE WHAT IT READS IS OF BULK AT MOST 1048576: true; the input reads as it did. -/
def algebraReturnsUptoRow : OpenClaim := { program := "ytbncoiejbclpjaadoor", sum := "e128951e190e715a2e172d639ad5e0c7b049c6baaf7fb965166483a6c07b50e3", func := "mintmark/mintmarklaw06.AlgebraReturns", spec := "algebraReturns", unfollowed := true, recurses := true, named := ["mintmark/bounds.places"], apart := false, laid := [("mintmark/bounds.places", laid_mintmark_bounds_places)], narrowed := true }
def AlgebraReturnsUptoSaid : Prop := algebraReturnsUptoRow.holds Tryd.pinned (OpenSpec.upto algebraReturnsSpec)

/-- 'mintmarklaw06.AlgebraEnters', WHERE WHAT IT READS IS OF BULK AT MOST 1048576: true; the input reads as it did. -/
def algebraEntersUptoRow : OpenClaim := { program := "ytbncoiejbclpjaadoor", sum := "e128951e190e715a2e172d639ad5e0c7b049c6baaf7fb965166483a6c07b50e3", func := "mintmark/mintmarklaw06.AlgebraEnters", spec := "algebraEnters", unfollowed := true, recurses := true, named := ["mintmark/bounds.places", "mintmark/perm.accesses"], apart := false, laid := [("mintmark/perm.accesses", laid_mintmark_perm_accesses), ("mintmark/bounds.places", laid_mintmark_bounds_places)], narrowed := true }
def AlgebraEntersUptoSaid : Prop := algebraEntersUptoRow.holds Tryd.pinned (OpenSpec.upto algebraEntersSpec)

end Rows
end Go.Proofs.YtbncoiejbclpjaaDoor
