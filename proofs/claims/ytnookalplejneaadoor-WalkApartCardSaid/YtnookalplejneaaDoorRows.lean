/-
  NARROWER THAN 'FOR EVERY INPUT', by the rows' own cells (each row's printed sentence says how): WalkFinds: laid · WalkChecks: laid · WalkMarks: laid · WalkApart: laid · WalkLeaves: laid.
  DERIVED. THE GIVEN ROWS OF THIS SEAT. 5 by the template 'for every input the law returns true; each argument reads behind the call as it read before'; 0 by the template 'total and deterministic' (their statements: YtnookalplejneaaDoorTotals.lean).
  GIVEN WITH THE SEED: the statements are not yours to turn. If you find one false, say at which input.
  Laid BY PROGRAM, IN A SANDBOX (cutbox-rows.mjs): the forced cells as the released guide's own fill.sh prints them over the translation f6a675434d924141… (all of the seat's roots in one cut). By AI agents, Wed Nov 11 2026. No macro, syntax, notation, axiom, sorry.
-/
import Derived.Test.YtnookalplejneaaDoorChecked
import GoSem.Claim
import GoSem.ClaimJoined
import GoSem.ClaimMapViews
import Derived.JoinedTies
import Derived.KernelRfl
namespace Go.Proofs.YtnookalplejneaaDoor
/- THE CELL 'sum', in the pinned program and in every row, IS THE sha256 OF THE DUMP (.gsa) THAT YtnookalplejneaaDoorProg.lean LOADS. Nothing in Lean hashes anything: it is a label: what it is worth is what the hold of that sum in a sandbox is worth. -/
noncomputable def Tryd.pinned : Pinned := { name := "ytnookalplejneaadoor", sum := "f6a675434d9241417ff000de6c5e5f844001ebeb40a1607dac76d12634a90b69", checked := Tryd.checked }
namespace Rows
def none {H : Type} : Left H := { results := [], args := [] }

/- WHAT THE LISTED PACKAGE-LEVEL VARIABLES READ AS WHEN THE CALL BEGINS. Each datum BY PROGRAM (the guide's laid-datum.mjs) off the statement by which the dump's own 'gosem.cut.vars' lays the variable. In a bare row this is a premise. The card (YtnookalplejneaaDoorCards.lean) ties it to the program's text. -/
def laid_mintmark_pte_places {H : Type} : DataW H := .agg [.lit (.int .i64 0), .lit (.int .i64 1), .lit (.int .i64 2), .lit (.int .i64 3), .lit (.int .i64 4), .lit (.int .i64 5), .lit (.int .i64 6), .lit (.int .i64 7), .lit (.int .i64 58), .lit (.int .i64 59), .lit (.int .i64 60), .lit (.int .i64 61)]

/-- 'mintmarklaw10.WalkFinds': WHATEVER THE INPUT: true; the input reads as it did. -/
def walkFindsSpec : ChangeSpec := { name := "walkFinds", fn := fun _ => fun
  | [d1, d2, d3] => { results := [.lit (.bool true)], args := [d1, d2, d3] }
  | _ => none }
def walkFindsRow : OpenClaim := { program := "ytnookalplejneaadoor", sum := "f6a675434d9241417ff000de6c5e5f844001ebeb40a1607dac76d12634a90b69", func := "mintmark/mintmarklaw10.WalkFinds", spec := "walkFinds", named := ["mintmark/pte.places"], apart := false, laid := [("mintmark/pte.places", laid_mintmark_pte_places)] }
def WalkFindsSaid : Prop := walkFindsRow.holds Tryd.pinned (OpenSpec.ofChange walkFindsSpec)

/-- ITS FALSE NEIGHBOUR: 'it returns false'. Refute it at one input. -/
def walkFindsWrong : ChangeSpec := { name := "walkFinds", fn := fun _ => fun
  | [d1, d2, d3] => { results := [.lit (.bool false)], args := [d1, d2, d3] }
  | _ => none }
def WalkFindsWrongFalsely : Prop := walkFindsRow.holds Tryd.pinned (OpenSpec.ofChange walkFindsWrong)

/-- 'mintmarklaw10.WalkChecks': WHATEVER THE INPUT: true; the input reads as it did. -/
def walkChecksSpec : ChangeSpec := { name := "walkChecks", fn := fun _ => fun
  | [d1, d2, d3] => { results := [.lit (.bool true)], args := [d1, d2, d3] }
  | _ => none }
def walkChecksRow : OpenClaim := { program := "ytnookalplejneaadoor", sum := "f6a675434d9241417ff000de6c5e5f844001ebeb40a1607dac76d12634a90b69", func := "mintmark/mintmarklaw10.WalkChecks", spec := "walkChecks", named := ["mintmark/pte.places"], apart := false, laid := [("mintmark/pte.places", laid_mintmark_pte_places)] }
def WalkChecksSaid : Prop := walkChecksRow.holds Tryd.pinned (OpenSpec.ofChange walkChecksSpec)

/-- ITS FALSE NEIGHBOUR: 'it returns false'. Refute it at one input. -/
def walkChecksWrong : ChangeSpec := { name := "walkChecks", fn := fun _ => fun
  | [d1, d2, d3] => { results := [.lit (.bool false)], args := [d1, d2, d3] }
  | _ => none }
def WalkChecksWrongFalsely : Prop := walkChecksRow.holds Tryd.pinned (OpenSpec.ofChange walkChecksWrong)

/-- 'mintmarklaw10.WalkMarks': WHATEVER THE INPUT: true; the input reads as it did. -/
def walkMarksSpec : ChangeSpec := { name := "walkMarks", fn := fun _ => fun
  | [d1, d2, d3] => { results := [.lit (.bool true)], args := [d1, d2, d3] }
  | _ => none }
def walkMarksRow : OpenClaim := { program := "ytnookalplejneaadoor", sum := "f6a675434d9241417ff000de6c5e5f844001ebeb40a1607dac76d12634a90b69", func := "mintmark/mintmarklaw10.WalkMarks", spec := "walkMarks", unfollowed := true, recurses := true, named := ["mintmark/pte.places"], apart := false, laid := [("mintmark/pte.places", laid_mintmark_pte_places)] }
def WalkMarksSaid : Prop := walkMarksRow.holds Tryd.pinned (OpenSpec.ofChange walkMarksSpec)

/-- ITS FALSE NEIGHBOUR: 'it returns false'. Refute it at one input. -/
def walkMarksWrong : ChangeSpec := { name := "walkMarks", fn := fun _ => fun
  | [d1, d2, d3] => { results := [.lit (.bool false)], args := [d1, d2, d3] }
  | _ => none }
def WalkMarksWrongFalsely : Prop := walkMarksRow.holds Tryd.pinned (OpenSpec.ofChange walkMarksWrong)

/-- 'mintmarklaw10.WalkApart': WHATEVER THE INPUT: true; the input reads as it did. -/
def walkApartSpec : ChangeSpec := { name := "walkApart", fn := fun _ => fun
  | [d1, d2, d3] => { results := [.lit (.bool true)], args := [d1, d2, d3] }
  | _ => none }
def walkApartRow : OpenClaim := { program := "ytnookalplejneaadoor", sum := "f6a675434d9241417ff000de6c5e5f844001ebeb40a1607dac76d12634a90b69", func := "mintmark/mintmarklaw10.WalkApart", spec := "walkApart", named := ["mintmark/pte.places"], apart := false, laid := [("mintmark/pte.places", laid_mintmark_pte_places)] }
def WalkApartSaid : Prop := walkApartRow.holds Tryd.pinned (OpenSpec.ofChange walkApartSpec)

/-- ITS FALSE NEIGHBOUR: 'it returns false'. Refute it at one input. -/
def walkApartWrong : ChangeSpec := { name := "walkApart", fn := fun _ => fun
  | [d1, d2, d3] => { results := [.lit (.bool false)], args := [d1, d2, d3] }
  | _ => none }
def WalkApartWrongFalsely : Prop := walkApartRow.holds Tryd.pinned (OpenSpec.ofChange walkApartWrong)

/-- 'mintmarklaw10.WalkLeaves': WHATEVER THE INPUT: true; the input reads as it did. -/
def walkLeavesSpec : ChangeSpec := { name := "walkLeaves", fn := fun _ => fun
  | [d1, d2, d3] => { results := [.lit (.bool true)], args := [d1, d2, d3] }
  | _ => none }
def walkLeavesRow : OpenClaim := { program := "ytnookalplejneaadoor", sum := "f6a675434d9241417ff000de6c5e5f844001ebeb40a1607dac76d12634a90b69", func := "mintmark/mintmarklaw10.WalkLeaves", spec := "walkLeaves", unfollowed := true, recurses := true, named := ["mintmark/pte.places"], apart := false, laid := [("mintmark/pte.places", laid_mintmark_pte_places)] }
def WalkLeavesSaid : Prop := walkLeavesRow.holds Tryd.pinned (OpenSpec.ofChange walkLeavesSpec)

/-- ITS FALSE NEIGHBOUR: 'it returns false'. Refute it at one input. -/
def walkLeavesWrong : ChangeSpec := { name := "walkLeaves", fn := fun _ => fun
  | [d1, d2, d3] => { results := [.lit (.bool false)], args := [d1, d2, d3] }
  | _ => none }
def WalkLeavesWrongFalsely : Prop := walkLeavesRow.holds Tryd.pinned (OpenSpec.ofChange walkLeavesWrong)

/- THE SECOND FORM. 'bulk': how many values and letters a reading holds, each counted each time it is reached (what is shared counts as often as it is met; a slice's spare places count too). A statement '..UptoSaid' is the law's where the arguments, and the package variables that the reading takes, are together of bulk at most 1048576: NARROWER than '..Said'. Prove '..Said' where nothing that the law and all that it calls make is longer than what came in: it says more and counts as full. Else prove '..UptoSaid'. A law counts once. -/
mutual
def uptoBulk {H : Type} : DataW H → Nat
  | .lit (.string bytes) => bytes.length + 1
  | .lit _ => 1
  | .nil => 1
  | .ptr d => uptoBulk d + 1
  | .slice elems spare => uptoBulkAll elems + uptoBulkAll spare + 1
  | .agg parts => uptoBulkAll parts + 1
  | .iface _ d => uptoBulk d + 1
  | .map entries => uptoBulkEntries entries + 1
  | .held _ => 1
def uptoBulkAll {H : Type} : List (DataW H) → Nat
  | [] => 0
  | d :: r => uptoBulk d + uptoBulkAll r
def uptoBulkEntries {H : Type} : List (Lit × DataW H) → Nat
  | [] => 0
  | x :: r => uptoBulkEntry x + uptoBulkEntries r
def uptoBulkEntry {H : Type} : Lit × DataW H → Nat
  | (.string bytes, d) => bytes.length + uptoBulk d + 1
  | (_, d) => uptoBulk d + 1
 end
def uptoSmall : (H : Type) → List (DataW H) → Bool := fun _ ds => decide (uptoBulkAll ds ≤ 1048576)
def OpenSpec.upto (s : _root_.Go.ChangeSpec) : _root_.Go.OpenSpec := { _root_.Go.OpenSpec.ofChange s with cond := some uptoSmall }

/-- 'mintmarklaw10.WalkFinds', WHERE WHAT IT READS IS OF BULK AT MOST 1048576: true; the input reads as it did. -/
def walkFindsUptoRow : OpenClaim := { program := "ytnookalplejneaadoor", sum := "f6a675434d9241417ff000de6c5e5f844001ebeb40a1607dac76d12634a90b69", func := "mintmark/mintmarklaw10.WalkFinds", spec := "walkFinds", named := ["mintmark/pte.places"], apart := false, laid := [("mintmark/pte.places", laid_mintmark_pte_places)], narrowed := true }
def WalkFindsUptoSaid : Prop := walkFindsUptoRow.holds Tryd.pinned (OpenSpec.upto walkFindsSpec)

/-- 'mintmarklaw10.WalkChecks', WHERE WHAT IT READS IS OF BULK AT MOST 1048576: true; the input reads as it did. -/
def walkChecksUptoRow : OpenClaim := { program := "ytnookalplejneaadoor", sum := "f6a675434d9241417ff000de6c5e5f844001ebeb40a1607dac76d12634a90b69", func := "mintmark/mintmarklaw10.WalkChecks", spec := "walkChecks", named := ["mintmark/pte.places"], apart := false, laid := [("mintmark/pte.places", laid_mintmark_pte_places)], narrowed := true }
def WalkChecksUptoSaid : Prop := walkChecksUptoRow.holds Tryd.pinned (OpenSpec.upto walkChecksSpec)

/-- 'mintmarklaw10.WalkMarks', WHERE WHAT IT READS IS OF BULK AT MOST 1048576: true; the input reads as it did. -/
def walkMarksUptoRow : OpenClaim := { program := "ytnookalplejneaadoor", sum := "f6a675434d9241417ff000de6c5e5f844001ebeb40a1607dac76d12634a90b69", func := "mintmark/mintmarklaw10.WalkMarks", spec := "walkMarks", unfollowed := true, recurses := true, named := ["mintmark/pte.places"], apart := false, laid := [("mintmark/pte.places", laid_mintmark_pte_places)], narrowed := true }
def WalkMarksUptoSaid : Prop := walkMarksUptoRow.holds Tryd.pinned (OpenSpec.upto walkMarksSpec)

/-- 'mintmarklaw10.WalkApart', WHERE WHAT IT READS IS OF BULK AT MOST 1048576: true; the input reads as it did. -/
def walkApartUptoRow : OpenClaim := { program := "ytnookalplejneaadoor", sum := "f6a675434d9241417ff000de6c5e5f844001ebeb40a1607dac76d12634a90b69", func := "mintmark/mintmarklaw10.WalkApart", spec := "walkApart", named := ["mintmark/pte.places"], apart := false, laid := [("mintmark/pte.places", laid_mintmark_pte_places)], narrowed := true }
def WalkApartUptoSaid : Prop := walkApartUptoRow.holds Tryd.pinned (OpenSpec.upto walkApartSpec)

/-- 'mintmarklaw10.WalkLeaves', WHERE WHAT IT READS IS OF BULK AT MOST 1048576: true; the input reads as it did. -/
def walkLeavesUptoRow : OpenClaim := { program := "ytnookalplejneaadoor", sum := "f6a675434d9241417ff000de6c5e5f844001ebeb40a1607dac76d12634a90b69", func := "mintmark/mintmarklaw10.WalkLeaves", spec := "walkLeaves", unfollowed := true, recurses := true, named := ["mintmark/pte.places"], apart := false, laid := [("mintmark/pte.places", laid_mintmark_pte_places)], narrowed := true }
def WalkLeavesUptoSaid : Prop := walkLeavesUptoRow.holds Tryd.pinned (OpenSpec.upto walkLeavesSpec)

end Rows
end Go.Proofs.YtnookalplejneaaDoor
