/-
  DERIVED. GIVEN WITH THE SEED: THE CARDS: each row of YtbncoiejbclpjaaDoorRows.lean that lists a variable, with what it lists TIED to the program's text (the seventh form; the later family's looks); each row that meets fmt, with fmt's text TOLD by the authors' own Lean function (tested against real Go, not proved from fmt's source: count such statements apart). THE CARD IS WHAT COUNTS. Prove the row's statement (the work); the ties are given (YtbncoiejbclpjaaDoorTie.lean); close each card by the builder's one call (the guide's Derived/Test/ToyasCard.lean, 'card_holds'). Laid BY PROGRAM, IN A SANDBOX (cutbox-door.mjs). By AI agents, Wed Nov 11 2026. No macro, syntax, notation, axiom, sorry.
-/
import Derived.Test.YtbncoiejbclpjaaDoorRows
import GoSem.ClaimSeven
namespace Go.Proofs.YtbncoiejbclpjaaDoor
namespace Rows

/-- THE TIED CARD OF 'mintmarklaw06.AlgebraMoves'. -/
def algebraMovesCard : Claim7 := { stood := { row := algebraMovesRow, standIns := [], harness := (true, "fb51b418be8f2f5e9aaacd8339230780ebf0a9add9d4399184c096f105c21b8a"), looks := false }, kinds := [], alts := [], laidByText := true, laidKinds := [.data], laidTests := true, laidLooks := .later }
def AlgebraMovesCardSaid : Prop := Claim7.holds Tryd.pinned (.plain (OpenSpec.ofChange algebraMovesSpec)) algebraMovesCard

/-- THE TIED CARD OF 'mintmarklaw06.AlgebraSeals'. -/
def algebraSealsCard : Claim7 := { stood := { row := algebraSealsRow, standIns := [], harness := (true, "fb51b418be8f2f5e9aaacd8339230780ebf0a9add9d4399184c096f105c21b8a"), looks := false }, kinds := [], alts := [], laidByText := true, laidKinds := [.data], laidTests := true, laidLooks := .later }
def AlgebraSealsCardSaid : Prop := Claim7.holds Tryd.pinned (.plain (OpenSpec.ofChange algebraSealsSpec)) algebraSealsCard

/-- THE TIED CARD OF 'mintmarklaw06.AlgebraNarrows'. -/
def algebraNarrowsCard : Claim7 := { stood := { row := algebraNarrowsRow, standIns := [], harness := (true, "fb51b418be8f2f5e9aaacd8339230780ebf0a9add9d4399184c096f105c21b8a"), looks := false }, kinds := [], alts := [], laidByText := true, laidKinds := [.data], laidTests := true, laidLooks := .later }
def AlgebraNarrowsCardSaid : Prop := Claim7.holds Tryd.pinned (.plain (OpenSpec.ofChange algebraNarrowsSpec)) algebraNarrowsCard

/-- THE TIED CARD OF 'mintmarklaw06.AlgebraOpens'. -/
def algebraOpensCard : Claim7 := { stood := { row := algebraOpensRow, standIns := [], harness := (true, "fb51b418be8f2f5e9aaacd8339230780ebf0a9add9d4399184c096f105c21b8a"), looks := false }, kinds := [], alts := [], laidByText := true, laidKinds := [.data, .data], laidTests := true, laidLooks := .later }
def AlgebraOpensCardSaid : Prop := Claim7.holds Tryd.pinned (.plain (OpenSpec.ofChange algebraOpensSpec)) algebraOpensCard

/-- THE TIED CARD OF 'mintmarklaw06.AlgebraChecks'. -/
def algebraChecksCard : Claim7 := { stood := { row := algebraChecksRow, standIns := [], harness := (true, "fb51b418be8f2f5e9aaacd8339230780ebf0a9add9d4399184c096f105c21b8a"), looks := false }, kinds := [], alts := [], laidByText := true, laidKinds := [.data, .data], laidTests := true, laidLooks := .later }
def AlgebraChecksCardSaid : Prop := Claim7.holds Tryd.pinned (.plain (OpenSpec.ofChange algebraChecksSpec)) algebraChecksCard

/-- THE TIED CARD OF 'mintmarklaw06.AlgebraReturns'. -/
def algebraReturnsCard : Claim7 := { stood := { row := algebraReturnsRow, standIns := [], harness := (true, "fb51b418be8f2f5e9aaacd8339230780ebf0a9add9d4399184c096f105c21b8a"), looks := false }, kinds := [], alts := [], laidByText := true, laidKinds := [.data], laidTests := true, laidLooks := .later }
def AlgebraReturnsCardSaid : Prop := Claim7.holds Tryd.pinned (.plain (OpenSpec.ofChange algebraReturnsSpec)) algebraReturnsCard

/-- THE TIED CARD OF 'mintmarklaw06.AlgebraEnters'. -/
def algebraEntersCard : Claim7 := { stood := { row := algebraEntersRow, standIns := [], harness := (true, "fb51b418be8f2f5e9aaacd8339230780ebf0a9add9d4399184c096f105c21b8a"), looks := false }, kinds := [], alts := [], laidByText := true, laidKinds := [.data, .data], laidTests := true, laidLooks := .later }
def AlgebraEntersCardSaid : Prop := Claim7.holds Tryd.pinned (.plain (OpenSpec.ofChange algebraEntersSpec)) algebraEntersCard

/-- THE SECOND FORM's CARD OF 'mintmarklaw06.AlgebraMoves'. -/
def algebraMovesUptoCard : Claim7 := { stood := { row := algebraMovesUptoRow, standIns := [], harness := (true, "fb51b418be8f2f5e9aaacd8339230780ebf0a9add9d4399184c096f105c21b8a"), looks := false }, kinds := [], alts := [], laidByText := true, laidKinds := [.data], laidTests := true, laidLooks := .later }
def AlgebraMovesUptoCardSaid : Prop := Claim7.holds Tryd.pinned (.plain (OpenSpec.upto algebraMovesSpec)) algebraMovesUptoCard

/-- THE SECOND FORM's CARD OF 'mintmarklaw06.AlgebraSeals'. -/
def algebraSealsUptoCard : Claim7 := { stood := { row := algebraSealsUptoRow, standIns := [], harness := (true, "fb51b418be8f2f5e9aaacd8339230780ebf0a9add9d4399184c096f105c21b8a"), looks := false }, kinds := [], alts := [], laidByText := true, laidKinds := [.data], laidTests := true, laidLooks := .later }
def AlgebraSealsUptoCardSaid : Prop := Claim7.holds Tryd.pinned (.plain (OpenSpec.upto algebraSealsSpec)) algebraSealsUptoCard

/-- THE SECOND FORM's CARD OF 'mintmarklaw06.AlgebraNarrows'. -/
def algebraNarrowsUptoCard : Claim7 := { stood := { row := algebraNarrowsUptoRow, standIns := [], harness := (true, "fb51b418be8f2f5e9aaacd8339230780ebf0a9add9d4399184c096f105c21b8a"), looks := false }, kinds := [], alts := [], laidByText := true, laidKinds := [.data], laidTests := true, laidLooks := .later }
def AlgebraNarrowsUptoCardSaid : Prop := Claim7.holds Tryd.pinned (.plain (OpenSpec.upto algebraNarrowsSpec)) algebraNarrowsUptoCard

/-- THE SECOND FORM's CARD OF 'mintmarklaw06.AlgebraOpens'. -/
def algebraOpensUptoCard : Claim7 := { stood := { row := algebraOpensUptoRow, standIns := [], harness := (true, "fb51b418be8f2f5e9aaacd8339230780ebf0a9add9d4399184c096f105c21b8a"), looks := false }, kinds := [], alts := [], laidByText := true, laidKinds := [.data, .data], laidTests := true, laidLooks := .later }
def AlgebraOpensUptoCardSaid : Prop := Claim7.holds Tryd.pinned (.plain (OpenSpec.upto algebraOpensSpec)) algebraOpensUptoCard

/-- THE SECOND FORM's CARD OF 'mintmarklaw06.AlgebraChecks'. -/
def algebraChecksUptoCard : Claim7 := { stood := { row := algebraChecksUptoRow, standIns := [], harness := (true, "fb51b418be8f2f5e9aaacd8339230780ebf0a9add9d4399184c096f105c21b8a"), looks := false }, kinds := [], alts := [], laidByText := true, laidKinds := [.data, .data], laidTests := true, laidLooks := .later }
def AlgebraChecksUptoCardSaid : Prop := Claim7.holds Tryd.pinned (.plain (OpenSpec.upto algebraChecksSpec)) algebraChecksUptoCard

/-- THE SECOND FORM's CARD OF 'mintmarklaw06.AlgebraReturns'. -/
def algebraReturnsUptoCard : Claim7 := { stood := { row := algebraReturnsUptoRow, standIns := [], harness := (true, "fb51b418be8f2f5e9aaacd8339230780ebf0a9add9d4399184c096f105c21b8a"), looks := false }, kinds := [], alts := [], laidByText := true, laidKinds := [.data], laidTests := true, laidLooks := .later }
def AlgebraReturnsUptoCardSaid : Prop := Claim7.holds Tryd.pinned (.plain (OpenSpec.upto algebraReturnsSpec)) algebraReturnsUptoCard

/-- THE SECOND FORM's CARD OF 'mintmarklaw06.AlgebraEnters'. -/
def algebraEntersUptoCard : Claim7 := { stood := { row := algebraEntersUptoRow, standIns := [], harness := (true, "fb51b418be8f2f5e9aaacd8339230780ebf0a9add9d4399184c096f105c21b8a"), looks := false }, kinds := [], alts := [], laidByText := true, laidKinds := [.data, .data], laidTests := true, laidLooks := .later }
def AlgebraEntersUptoCardSaid : Prop := Claim7.holds Tryd.pinned (.plain (OpenSpec.upto algebraEntersSpec)) algebraEntersUptoCard
end Rows
end Go.Proofs.YtbncoiejbclpjaaDoor
