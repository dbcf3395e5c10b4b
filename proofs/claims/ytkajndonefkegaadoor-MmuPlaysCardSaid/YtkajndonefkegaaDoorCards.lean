/-
  DERIVED. GIVEN WITH THE SEED: THE CARDS: each row of YtkajndonefkegaaDoorRows.lean that lists a variable, with what it lists TIED to the program's text (the seventh form; the later family's looks); each row that meets fmt, with fmt's text TOLD by the authors' own Lean function (tested against real Go, not proved from fmt's source: count such statements apart). THE CARD IS WHAT COUNTS. Prove the row's statement (the work); the ties are given (YtkajndonefkegaaDoorTie.lean); close each card by the builder's one call (the guide's Derived/Test/ToyasCard.lean, 'card_holds'). Laid BY PROGRAM, IN A SANDBOX (cutbox-door.mjs). By AI agents, Wed Nov 11 2026. No macro, syntax, notation, axiom, sorry.
-/
import Derived.Test.YtkajndonefkegaaDoorRows
import GoSem.ClaimSeven
namespace Go.Proofs.YtkajndonefkegaaDoor
namespace Rows

/-- THE TIED CARD OF 'mintmarklaw12.MmuPlays'. -/
def mmuPlaysCard : Claim7 := { stood := { row := mmuPlaysRow, standIns := [], harness := (true, "526dcdfc3b7a05c08464c059be65028583c170d095bd5c5b2b9a88bbe30933b9"), looks := false }, kinds := [], alts := [], laidByText := true, laidKinds := [.data], laidTests := true, laidLooks := .later }
def MmuPlaysCardSaid : Prop := Claim7.holds Tryd.pinned (.plain (OpenSpec.ofChange mmuPlaysSpec)) mmuPlaysCard

/-- THE TIED CARD OF 'mintmarklaw12.MmuMarks'. -/
def mmuMarksCard : Claim7 := { stood := { row := mmuMarksRow, standIns := [], harness := (true, "526dcdfc3b7a05c08464c059be65028583c170d095bd5c5b2b9a88bbe30933b9"), looks := false }, kinds := [], alts := [], laidByText := true, laidKinds := [.data], laidTests := true, laidLooks := .later }
def MmuMarksCardSaid : Prop := Claim7.holds Tryd.pinned (.plain (OpenSpec.ofChange mmuMarksSpec)) mmuMarksCard

/-- THE TIED CARD OF 'mintmarklaw12.MmuAsids'. -/
def mmuAsidsCard : Claim7 := { stood := { row := mmuAsidsRow, standIns := [], harness := (true, "526dcdfc3b7a05c08464c059be65028583c170d095bd5c5b2b9a88bbe30933b9"), looks := false }, kinds := [], alts := [], laidByText := true, laidKinds := [.data], laidTests := true, laidLooks := .later }
def MmuAsidsCardSaid : Prop := Claim7.holds Tryd.pinned (.plain (OpenSpec.ofChange mmuAsidsSpec)) mmuAsidsCard

/-- THE SECOND FORM's CARD OF 'mintmarklaw12.MmuPlays'. -/
def mmuPlaysUptoCard : Claim7 := { stood := { row := mmuPlaysUptoRow, standIns := [], harness := (true, "526dcdfc3b7a05c08464c059be65028583c170d095bd5c5b2b9a88bbe30933b9"), looks := false }, kinds := [], alts := [], laidByText := true, laidKinds := [.data], laidTests := true, laidLooks := .later }
def MmuPlaysUptoCardSaid : Prop := Claim7.holds Tryd.pinned (.plain (OpenSpec.upto mmuPlaysSpec)) mmuPlaysUptoCard

/-- THE SECOND FORM's CARD OF 'mintmarklaw12.MmuMarks'. -/
def mmuMarksUptoCard : Claim7 := { stood := { row := mmuMarksUptoRow, standIns := [], harness := (true, "526dcdfc3b7a05c08464c059be65028583c170d095bd5c5b2b9a88bbe30933b9"), looks := false }, kinds := [], alts := [], laidByText := true, laidKinds := [.data], laidTests := true, laidLooks := .later }
def MmuMarksUptoCardSaid : Prop := Claim7.holds Tryd.pinned (.plain (OpenSpec.upto mmuMarksSpec)) mmuMarksUptoCard

/-- THE SECOND FORM's CARD OF 'mintmarklaw12.MmuAsids'. -/
def mmuAsidsUptoCard : Claim7 := { stood := { row := mmuAsidsUptoRow, standIns := [], harness := (true, "526dcdfc3b7a05c08464c059be65028583c170d095bd5c5b2b9a88bbe30933b9"), looks := false }, kinds := [], alts := [], laidByText := true, laidKinds := [.data], laidTests := true, laidLooks := .later }
def MmuAsidsUptoCardSaid : Prop := Claim7.holds Tryd.pinned (.plain (OpenSpec.upto mmuAsidsSpec)) mmuAsidsUptoCard
end Rows
end Go.Proofs.YtkajndonefkegaaDoor
