/-
  DERIVED. GIVEN WITH THE SEED: THE CARDS: each row of YtiimoepngppabaaDoorRows.lean that lists a variable, with what it lists TIED to the program's text (the seventh form; the later family's looks); each row that meets fmt, with fmt's text TOLD by the authors' own Lean function (tested against real Go, not proved from fmt's source: count such statements apart). THE CARD IS WHAT COUNTS. Prove the row's statement (the work); the ties are given (YtiimoepngppabaaDoorTie.lean); close each card by the builder's one call (the guide's Derived/Test/ToyasCard.lean, 'card_holds'). Laid BY PROGRAM, IN A SANDBOX (cutbox-door.mjs). By AI agents, Wed Nov 11 2026. No macro, syntax, notation, axiom, sorry.
-/
import Derived.Test.YtiimoepngppabaaDoorRows
import GoSem.ClaimSeven
namespace Go.Proofs.YtiimoepngppabaaDoor
namespace Rows

/-- THE TIED CARD OF 'mintmarklaw09.PteTells'. -/
def pteTellsCard : Claim7 := { stood := { row := pteTellsRow, standIns := [], harness := (true, "c018c77ffec11353a34a2903e71b82ec77b64aa95c624aabd62f22a4ca19035a"), looks := false }, kinds := [], alts := [], laidByText := true, laidKinds := [.data], laidTests := true, laidLooks := .later }
def PteTellsCardSaid : Prop := Claim7.holds Tryd.pinned (.plain (OpenSpec.ofChange pteTellsSpec)) pteTellsCard

/-- THE TIED CARD OF 'mintmarklaw09.PteBack'. -/
def pteBackCard : Claim7 := { stood := { row := pteBackRow, standIns := [], harness := (true, "c018c77ffec11353a34a2903e71b82ec77b64aa95c624aabd62f22a4ca19035a"), looks := false }, kinds := [], alts := [], laidByText := true, laidKinds := [.data], laidTests := true, laidLooks := .later }
def PteBackCardSaid : Prop := Claim7.holds Tryd.pinned (.plain (OpenSpec.ofChange pteBackSpec)) pteBackCard

/-- THE TIED CARD OF 'mintmarklaw09.PteRight'. -/
def pteRightCard : Claim7 := { stood := { row := pteRightRow, standIns := [], harness := (true, "c018c77ffec11353a34a2903e71b82ec77b64aa95c624aabd62f22a4ca19035a"), looks := false }, kinds := [], alts := [], laidByText := true, laidKinds := [.data], laidTests := true, laidLooks := .later }
def PteRightCardSaid : Prop := Claim7.holds Tryd.pinned (.plain (OpenSpec.ofChange pteRightSpec)) pteRightCard

/-- THE SECOND FORM's CARD OF 'mintmarklaw09.PteTells'. -/
def pteTellsUptoCard : Claim7 := { stood := { row := pteTellsUptoRow, standIns := [], harness := (true, "c018c77ffec11353a34a2903e71b82ec77b64aa95c624aabd62f22a4ca19035a"), looks := false }, kinds := [], alts := [], laidByText := true, laidKinds := [.data], laidTests := true, laidLooks := .later }
def PteTellsUptoCardSaid : Prop := Claim7.holds Tryd.pinned (.plain (OpenSpec.upto pteTellsSpec)) pteTellsUptoCard

/-- THE SECOND FORM's CARD OF 'mintmarklaw09.PteBack'. -/
def pteBackUptoCard : Claim7 := { stood := { row := pteBackUptoRow, standIns := [], harness := (true, "c018c77ffec11353a34a2903e71b82ec77b64aa95c624aabd62f22a4ca19035a"), looks := false }, kinds := [], alts := [], laidByText := true, laidKinds := [.data], laidTests := true, laidLooks := .later }
def PteBackUptoCardSaid : Prop := Claim7.holds Tryd.pinned (.plain (OpenSpec.upto pteBackSpec)) pteBackUptoCard

/-- THE SECOND FORM's CARD OF 'mintmarklaw09.PteRight'. -/
def pteRightUptoCard : Claim7 := { stood := { row := pteRightUptoRow, standIns := [], harness := (true, "c018c77ffec11353a34a2903e71b82ec77b64aa95c624aabd62f22a4ca19035a"), looks := false }, kinds := [], alts := [], laidByText := true, laidKinds := [.data], laidTests := true, laidLooks := .later }
def PteRightUptoCardSaid : Prop := Claim7.holds Tryd.pinned (.plain (OpenSpec.upto pteRightSpec)) pteRightUptoCard
end Rows
end Go.Proofs.YtiimoepngppabaaDoor
