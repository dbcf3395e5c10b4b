/-
  DERIVED. GIVEN WITH THE SEED: THE CARDS: each row of YteakjajnaoiilaaDoorRows.lean that lists a variable, with what it lists TIED to the program's text (the seventh form; the later family's looks); each row that meets fmt, with fmt's text TOLD by the authors' own Lean function (tested against real Go, not proved from fmt's source: count such statements apart). THE CARD IS WHAT COUNTS. Prove the row's statement (the work); the ties are given (YteakjajnaoiilaaDoorTie.lean); close each card by the builder's one call (the guide's Derived/Test/ToyasCard.lean, 'card_holds'). Laid BY PROGRAM, IN A SANDBOX (cutbox-door.mjs). By AI agents, Wed Nov 11 2026. No macro, syntax, notation, axiom, sorry.
-/
import Derived.Test.YteakjajnaoiilaaDoorRows
import GoSem.ClaimSeven
namespace Go.Proofs.YteakjajnaoiilaaDoor
namespace Rows

/-- THE TIED CARD OF 'mintmarklaw04.PermTells'. -/
def permTellsCard : Claim7 := { stood := { row := permTellsRow, standIns := [], harness := (true, "f3d58a78261cbabf2aacc07316e204374ba7612f14bd8a4fc5276428d9fa851e"), looks := false }, kinds := [], alts := [], laidByText := true, laidKinds := [.data, .data], laidTests := true, laidLooks := .later }
def PermTellsCardSaid : Prop := Claim7.holds Tryd.pinned (.plain (OpenSpec.ofChange permTellsSpec)) permTellsCard

/-- THE TIED CARD OF 'mintmarklaw04.PermParses'. -/
def permParsesCard : Claim7 := { stood := { row := permParsesRow, standIns := [], harness := (true, "f3d58a78261cbabf2aacc07316e204374ba7612f14bd8a4fc5276428d9fa851e"), looks := false }, kinds := [], alts := [], laidByText := true, laidKinds := [.data], laidTests := true, laidLooks := .later }
def PermParsesCardSaid : Prop := Claim7.holds Tryd.pinned (.plain (OpenSpec.ofChange permParsesSpec)) permParsesCard

/-- THE TIED CARD OF 'mintmarklaw04.PermBack'. -/
def permBackCard : Claim7 := { stood := { row := permBackRow, standIns := [], harness := (true, "f3d58a78261cbabf2aacc07316e204374ba7612f14bd8a4fc5276428d9fa851e"), looks := false }, kinds := [], alts := [], laidByText := true, laidKinds := [.data], laidTests := true, laidLooks := .later }
def PermBackCardSaid : Prop := Claim7.holds Tryd.pinned (.plain (OpenSpec.ofChange permBackSpec)) permBackCard

/-- THE TIED CARD OF 'mintmarklaw04.PermNeeds'. -/
def permNeedsCard : Claim7 := { stood := { row := permNeedsRow, standIns := [], harness := (true, "f3d58a78261cbabf2aacc07316e204374ba7612f14bd8a4fc5276428d9fa851e"), looks := false }, kinds := [], alts := [], laidByText := true, laidKinds := [.data, .data], laidTests := true, laidLooks := .later }
def PermNeedsCardSaid : Prop := Claim7.holds Tryd.pinned (.plain (OpenSpec.ofChange permNeedsSpec)) permNeedsCard

/-- THE SECOND FORM's CARD OF 'mintmarklaw04.PermTells'. -/
def permTellsUptoCard : Claim7 := { stood := { row := permTellsUptoRow, standIns := [], harness := (true, "f3d58a78261cbabf2aacc07316e204374ba7612f14bd8a4fc5276428d9fa851e"), looks := false }, kinds := [], alts := [], laidByText := true, laidKinds := [.data, .data], laidTests := true, laidLooks := .later }
def PermTellsUptoCardSaid : Prop := Claim7.holds Tryd.pinned (.plain (OpenSpec.upto permTellsSpec)) permTellsUptoCard

/-- THE SECOND FORM's CARD OF 'mintmarklaw04.PermParses'. -/
def permParsesUptoCard : Claim7 := { stood := { row := permParsesUptoRow, standIns := [], harness := (true, "f3d58a78261cbabf2aacc07316e204374ba7612f14bd8a4fc5276428d9fa851e"), looks := false }, kinds := [], alts := [], laidByText := true, laidKinds := [.data], laidTests := true, laidLooks := .later }
def PermParsesUptoCardSaid : Prop := Claim7.holds Tryd.pinned (.plain (OpenSpec.upto permParsesSpec)) permParsesUptoCard

/-- THE SECOND FORM's CARD OF 'mintmarklaw04.PermBack'. -/
def permBackUptoCard : Claim7 := { stood := { row := permBackUptoRow, standIns := [], harness := (true, "f3d58a78261cbabf2aacc07316e204374ba7612f14bd8a4fc5276428d9fa851e"), looks := false }, kinds := [], alts := [], laidByText := true, laidKinds := [.data], laidTests := true, laidLooks := .later }
def PermBackUptoCardSaid : Prop := Claim7.holds Tryd.pinned (.plain (OpenSpec.upto permBackSpec)) permBackUptoCard

/-- THE SECOND FORM's CARD OF 'mintmarklaw04.PermNeeds'. -/
def permNeedsUptoCard : Claim7 := { stood := { row := permNeedsUptoRow, standIns := [], harness := (true, "f3d58a78261cbabf2aacc07316e204374ba7612f14bd8a4fc5276428d9fa851e"), looks := false }, kinds := [], alts := [], laidByText := true, laidKinds := [.data, .data], laidTests := true, laidLooks := .later }
def PermNeedsUptoCardSaid : Prop := Claim7.holds Tryd.pinned (.plain (OpenSpec.upto permNeedsSpec)) permNeedsUptoCard
end Rows
end Go.Proofs.YteakjajnaoiilaaDoor
