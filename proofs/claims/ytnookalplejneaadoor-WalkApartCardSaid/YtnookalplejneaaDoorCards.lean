/-
  DERIVED. GIVEN WITH THE SEED: THE CARDS: each row of YtnookalplejneaaDoorRows.lean that lists a variable, with what it lists TIED to the program's text (the seventh form; the later family's looks); each row that meets fmt, with fmt's text TOLD by the authors' own Lean function (tested against real Go, not proved from fmt's source: count such statements apart). THE CARD IS WHAT COUNTS. Prove the row's statement (the work); the ties are given (YtnookalplejneaaDoorTie.lean); close each card by the builder's one call (the guide's Derived/Test/ToyasCard.lean, 'card_holds'). Laid BY PROGRAM, IN A SANDBOX (cutbox-door.mjs). By AI agents, Wed Nov 11 2026. No macro, syntax, notation, axiom, sorry.
-/
import Derived.Test.YtnookalplejneaaDoorRows
import GoSem.ClaimSeven
namespace Go.Proofs.YtnookalplejneaaDoor
namespace Rows

/-- THE TIED CARD OF 'mintmarklaw10.WalkFinds'. -/
def walkFindsCard : Claim7 := { stood := { row := walkFindsRow, standIns := [], harness := (true, "6baa10e3fa5528ed7aeb29f3499a2dd0b04cd07aaa11492913e94f9d5597af5c"), looks := false }, kinds := [], alts := [], laidByText := true, laidKinds := [.data], laidTests := true, laidLooks := .later }
def WalkFindsCardSaid : Prop := Claim7.holds Tryd.pinned (.plain (OpenSpec.ofChange walkFindsSpec)) walkFindsCard

/-- THE TIED CARD OF 'mintmarklaw10.WalkChecks'. -/
def walkChecksCard : Claim7 := { stood := { row := walkChecksRow, standIns := [], harness := (true, "6baa10e3fa5528ed7aeb29f3499a2dd0b04cd07aaa11492913e94f9d5597af5c"), looks := false }, kinds := [], alts := [], laidByText := true, laidKinds := [.data], laidTests := true, laidLooks := .later }
def WalkChecksCardSaid : Prop := Claim7.holds Tryd.pinned (.plain (OpenSpec.ofChange walkChecksSpec)) walkChecksCard

/-- THE TIED CARD OF 'mintmarklaw10.WalkMarks'. -/
def walkMarksCard : Claim7 := { stood := { row := walkMarksRow, standIns := [], harness := (true, "6baa10e3fa5528ed7aeb29f3499a2dd0b04cd07aaa11492913e94f9d5597af5c"), looks := false }, kinds := [], alts := [], laidByText := true, laidKinds := [.data], laidTests := true, laidLooks := .later }
def WalkMarksCardSaid : Prop := Claim7.holds Tryd.pinned (.plain (OpenSpec.ofChange walkMarksSpec)) walkMarksCard

/-- THE TIED CARD OF 'mintmarklaw10.WalkApart'. -/
def walkApartCard : Claim7 := { stood := { row := walkApartRow, standIns := [], harness := (true, "6baa10e3fa5528ed7aeb29f3499a2dd0b04cd07aaa11492913e94f9d5597af5c"), looks := false }, kinds := [], alts := [], laidByText := true, laidKinds := [.data], laidTests := true, laidLooks := .later }
def WalkApartCardSaid : Prop := Claim7.holds Tryd.pinned (.plain (OpenSpec.ofChange walkApartSpec)) walkApartCard

/-- THE TIED CARD OF 'mintmarklaw10.WalkLeaves'. -/
def walkLeavesCard : Claim7 := { stood := { row := walkLeavesRow, standIns := [], harness := (true, "6baa10e3fa5528ed7aeb29f3499a2dd0b04cd07aaa11492913e94f9d5597af5c"), looks := false }, kinds := [], alts := [], laidByText := true, laidKinds := [.data], laidTests := true, laidLooks := .later }
def WalkLeavesCardSaid : Prop := Claim7.holds Tryd.pinned (.plain (OpenSpec.ofChange walkLeavesSpec)) walkLeavesCard

/-- THE SECOND FORM's CARD OF 'mintmarklaw10.WalkFinds'. -/
def walkFindsUptoCard : Claim7 := { stood := { row := walkFindsUptoRow, standIns := [], harness := (true, "6baa10e3fa5528ed7aeb29f3499a2dd0b04cd07aaa11492913e94f9d5597af5c"), looks := false }, kinds := [], alts := [], laidByText := true, laidKinds := [.data], laidTests := true, laidLooks := .later }
def WalkFindsUptoCardSaid : Prop := Claim7.holds Tryd.pinned (.plain (OpenSpec.upto walkFindsSpec)) walkFindsUptoCard

/-- THE SECOND FORM's CARD OF 'mintmarklaw10.WalkChecks'. -/
def walkChecksUptoCard : Claim7 := { stood := { row := walkChecksUptoRow, standIns := [], harness := (true, "6baa10e3fa5528ed7aeb29f3499a2dd0b04cd07aaa11492913e94f9d5597af5c"), looks := false }, kinds := [], alts := [], laidByText := true, laidKinds := [.data], laidTests := true, laidLooks := .later }
def WalkChecksUptoCardSaid : Prop := Claim7.holds Tryd.pinned (.plain (OpenSpec.upto walkChecksSpec)) walkChecksUptoCard

/-- THE SECOND FORM's CARD OF 'mintmarklaw10.WalkMarks'. -/
def walkMarksUptoCard : Claim7 := { stood := { row := walkMarksUptoRow, standIns := [], harness := (true, "6baa10e3fa5528ed7aeb29f3499a2dd0b04cd07aaa11492913e94f9d5597af5c"), looks := false }, kinds := [], alts := [], laidByText := true, laidKinds := [.data], laidTests := true, laidLooks := .later }
def WalkMarksUptoCardSaid : Prop := Claim7.holds Tryd.pinned (.plain (OpenSpec.upto walkMarksSpec)) walkMarksUptoCard

/-- THE SECOND FORM's CARD OF 'mintmarklaw10.WalkApart'. -/
def walkApartUptoCard : Claim7 := { stood := { row := walkApartUptoRow, standIns := [], harness := (true, "6baa10e3fa5528ed7aeb29f3499a2dd0b04cd07aaa11492913e94f9d5597af5c"), looks := false }, kinds := [], alts := [], laidByText := true, laidKinds := [.data], laidTests := true, laidLooks := .later }
def WalkApartUptoCardSaid : Prop := Claim7.holds Tryd.pinned (.plain (OpenSpec.upto walkApartSpec)) walkApartUptoCard

/-- THE SECOND FORM's CARD OF 'mintmarklaw10.WalkLeaves'. -/
def walkLeavesUptoCard : Claim7 := { stood := { row := walkLeavesUptoRow, standIns := [], harness := (true, "6baa10e3fa5528ed7aeb29f3499a2dd0b04cd07aaa11492913e94f9d5597af5c"), looks := false }, kinds := [], alts := [], laidByText := true, laidKinds := [.data], laidTests := true, laidLooks := .later }
def WalkLeavesUptoCardSaid : Prop := Claim7.holds Tryd.pinned (.plain (OpenSpec.upto walkLeavesSpec)) walkLeavesUptoCard
end Rows
end Go.Proofs.YtnookalplejneaaDoor
