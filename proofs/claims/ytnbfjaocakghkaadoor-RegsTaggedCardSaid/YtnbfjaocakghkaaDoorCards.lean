/-
  DERIVED. GIVEN WITH THE SEED: THE CARDS: each row of YtnbfjaocakghkaaDoorRows.lean that lists a variable, with what it lists TIED to the program's text (the seventh form; the later family's looks); each row that meets fmt, with fmt's text TOLD by the authors' own Lean function (tested against real Go, not proved from fmt's source: count such statements apart). THE CARD IS WHAT COUNTS. Prove the row's statement (the work); the ties are given (YtnbfjaocakghkaaDoorTie.lean); close each card by the builder's one call (the guide's Derived/Test/ToyasCard.lean, 'card_holds'). Laid BY PROGRAM, IN A SANDBOX (cutbox-door.mjs). By AI agents, Wed Nov 11 2026. No macro, syntax, notation, axiom, sorry.
-/
import Derived.Test.YtnbfjaocakghkaaDoorRows
import GoSem.ClaimSeven
namespace Go.Proofs.YtnbfjaocakghkaaDoor
namespace Rows

/-- THE TIED CARD OF 'mintmarklaw16.RegsHold'. -/
def regsHoldCard : Claim7 := { stood := { row := regsHoldRow, standIns := [], harness := (true, "6672197c5f37caf2b0cb382f6710ace9aeaaabcb321d1425e5c31d28afe7405c"), looks := false }, kinds := [], alts := [], laidByText := true, laidKinds := [.data], laidTests := true, laidLooks := .later }
def RegsHoldCardSaid : Prop := Claim7.holds Tryd.pinned (.plain (OpenSpec.ofChange regsHoldSpec)) regsHoldCard

/-- THE TIED CARD OF 'mintmarklaw16.RegsTagged'. -/
def regsTaggedCard : Claim7 := { stood := { row := regsTaggedRow, standIns := [], harness := (true, "6672197c5f37caf2b0cb382f6710ace9aeaaabcb321d1425e5c31d28afe7405c"), looks := false }, kinds := [], alts := [], laidByText := true, laidKinds := [.data], laidTests := true, laidLooks := .later }
def RegsTaggedCardSaid : Prop := Claim7.holds Tryd.pinned (.plain (OpenSpec.ofChange regsTaggedSpec)) regsTaggedCard

/-- THE TIED CARD OF 'mintmarklaw16.RegsSweeps'. -/
def regsSweepsCard : Claim7 := { stood := { row := regsSweepsRow, standIns := [], harness := (true, "6672197c5f37caf2b0cb382f6710ace9aeaaabcb321d1425e5c31d28afe7405c"), looks := false }, kinds := [], alts := [], laidByText := true, laidKinds := [.data], laidTests := true, laidLooks := .later }
def RegsSweepsCardSaid : Prop := Claim7.holds Tryd.pinned (.plain (OpenSpec.ofChange regsSweepsSpec)) regsSweepsCard

/-- THE SECOND FORM's CARD OF 'mintmarklaw16.RegsHold'. -/
def regsHoldUptoCard : Claim7 := { stood := { row := regsHoldUptoRow, standIns := [], harness := (true, "6672197c5f37caf2b0cb382f6710ace9aeaaabcb321d1425e5c31d28afe7405c"), looks := false }, kinds := [], alts := [], laidByText := true, laidKinds := [.data], laidTests := true, laidLooks := .later }
def RegsHoldUptoCardSaid : Prop := Claim7.holds Tryd.pinned (.plain (OpenSpec.upto regsHoldSpec)) regsHoldUptoCard

/-- THE SECOND FORM's CARD OF 'mintmarklaw16.RegsTagged'. -/
def regsTaggedUptoCard : Claim7 := { stood := { row := regsTaggedUptoRow, standIns := [], harness := (true, "6672197c5f37caf2b0cb382f6710ace9aeaaabcb321d1425e5c31d28afe7405c"), looks := false }, kinds := [], alts := [], laidByText := true, laidKinds := [.data], laidTests := true, laidLooks := .later }
def RegsTaggedUptoCardSaid : Prop := Claim7.holds Tryd.pinned (.plain (OpenSpec.upto regsTaggedSpec)) regsTaggedUptoCard

/-- THE SECOND FORM's CARD OF 'mintmarklaw16.RegsSweeps'. -/
def regsSweepsUptoCard : Claim7 := { stood := { row := regsSweepsUptoRow, standIns := [], harness := (true, "6672197c5f37caf2b0cb382f6710ace9aeaaabcb321d1425e5c31d28afe7405c"), looks := false }, kinds := [], alts := [], laidByText := true, laidKinds := [.data], laidTests := true, laidLooks := .later }
def RegsSweepsUptoCardSaid : Prop := Claim7.holds Tryd.pinned (.plain (OpenSpec.upto regsSweepsSpec)) regsSweepsUptoCard
end Rows
end Go.Proofs.YtnbfjaocakghkaaDoor
