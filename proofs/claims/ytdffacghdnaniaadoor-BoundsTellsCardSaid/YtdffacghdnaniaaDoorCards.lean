/-
  DERIVED. GIVEN WITH THE SEED: THE CARDS: each row of YtdffacghdnaniaaDoorRows.lean that lists a variable, with what it lists TIED to the program's text (the seventh form; the later family's looks); each row that meets fmt, with fmt's text TOLD by the authors' own Lean function (tested against real Go, not proved from fmt's source: count such statements apart). THE CARD IS WHAT COUNTS. Prove the row's statement (the work); the ties are given (YtdffacghdnaniaaDoorTie.lean); close each card by the builder's one call (the guide's Derived/Test/ToyasCard.lean, 'card_holds'). Laid BY PROGRAM, IN A SANDBOX (cutbox-door.mjs). By AI agents, Wed Nov 11 2026. No macro, syntax, notation, axiom, sorry.
-/
import Derived.Test.YtdffacghdnaniaaDoorRows
import GoSem.ClaimSeven
namespace Go.Proofs.YtdffacghdnaniaaDoor
namespace Rows

/-- THE TIED CARD OF 'mintmarklaw03.BoundsKeeps'. -/
def boundsKeepsCard : Claim7 := { stood := { row := boundsKeepsRow, standIns := [], harness := (true, "ac75a2bc6b3da26a47b2961661daa83a19939bcad915e5836336972a133c55f8"), looks := false }, kinds := [], alts := [], laidByText := true, laidKinds := [.data], laidTests := true, laidLooks := .later }
def BoundsKeepsCardSaid : Prop := Claim7.holds Tryd.pinned (.plain (OpenSpec.ofChange boundsKeepsSpec)) boundsKeepsCard

/-- THE TIED CARD OF 'mintmarklaw03.BoundsTells'. -/
def boundsTellsCard : Claim7 := { stood := { row := boundsTellsRow, standIns := [], harness := (true, "ac75a2bc6b3da26a47b2961661daa83a19939bcad915e5836336972a133c55f8"), looks := false }, kinds := [], alts := [], laidByText := true, laidKinds := [.data], laidTests := true, laidLooks := .later }
def BoundsTellsCardSaid : Prop := Claim7.holds Tryd.pinned (.plain (OpenSpec.ofChange boundsTellsSpec)) boundsTellsCard

/-- THE TIED CARD OF 'mintmarklaw03.BoundsWithin'. -/
def boundsWithinCard : Claim7 := { stood := { row := boundsWithinRow, standIns := [], harness := (true, "ac75a2bc6b3da26a47b2961661daa83a19939bcad915e5836336972a133c55f8"), looks := false }, kinds := [], alts := [], laidByText := true, laidKinds := [.data], laidTests := true, laidLooks := .later }
def BoundsWithinCardSaid : Prop := Claim7.holds Tryd.pinned (.plain (OpenSpec.ofChange boundsWithinSpec)) boundsWithinCard

/-- THE TIED CARD OF 'mintmarklaw03.BoundsNear'. -/
def boundsNearCard : Claim7 := { stood := { row := boundsNearRow, standIns := [], harness := (true, "ac75a2bc6b3da26a47b2961661daa83a19939bcad915e5836336972a133c55f8"), looks := false }, kinds := [], alts := [], laidByText := true, laidKinds := [.data], laidTests := true, laidLooks := .later }
def BoundsNearCardSaid : Prop := Claim7.holds Tryd.pinned (.plain (OpenSpec.ofChange boundsNearSpec)) boundsNearCard

/-- THE TIED CARD OF 'mintmarklaw03.BoundsAligned'. -/
def boundsAlignedCard : Claim7 := { stood := { row := boundsAlignedRow, standIns := [], harness := (true, "ac75a2bc6b3da26a47b2961661daa83a19939bcad915e5836336972a133c55f8"), looks := false }, kinds := [], alts := [], laidByText := true, laidKinds := [.data], laidTests := true, laidLooks := .later }
def BoundsAlignedCardSaid : Prop := Claim7.holds Tryd.pinned (.plain (OpenSpec.ofChange boundsAlignedSpec)) boundsAlignedCard

/-- THE TIED CARD OF 'mintmarklaw03.BoundsWords'. -/
def boundsWordsCard : Claim7 := { stood := { row := boundsWordsRow, standIns := [], harness := (true, "ac75a2bc6b3da26a47b2961661daa83a19939bcad915e5836336972a133c55f8"), looks := false }, kinds := [], alts := [], laidByText := true, laidKinds := [.data], laidTests := true, laidLooks := .later }
def BoundsWordsCardSaid : Prop := Claim7.holds Tryd.pinned (.plain (OpenSpec.ofChange boundsWordsSpec)) boundsWordsCard

/-- THE SECOND FORM's CARD OF 'mintmarklaw03.BoundsKeeps'. -/
def boundsKeepsUptoCard : Claim7 := { stood := { row := boundsKeepsUptoRow, standIns := [], harness := (true, "ac75a2bc6b3da26a47b2961661daa83a19939bcad915e5836336972a133c55f8"), looks := false }, kinds := [], alts := [], laidByText := true, laidKinds := [.data], laidTests := true, laidLooks := .later }
def BoundsKeepsUptoCardSaid : Prop := Claim7.holds Tryd.pinned (.plain (OpenSpec.upto boundsKeepsSpec)) boundsKeepsUptoCard

/-- THE SECOND FORM's CARD OF 'mintmarklaw03.BoundsTells'. -/
def boundsTellsUptoCard : Claim7 := { stood := { row := boundsTellsUptoRow, standIns := [], harness := (true, "ac75a2bc6b3da26a47b2961661daa83a19939bcad915e5836336972a133c55f8"), looks := false }, kinds := [], alts := [], laidByText := true, laidKinds := [.data], laidTests := true, laidLooks := .later }
def BoundsTellsUptoCardSaid : Prop := Claim7.holds Tryd.pinned (.plain (OpenSpec.upto boundsTellsSpec)) boundsTellsUptoCard

/-- THE SECOND FORM's CARD OF 'mintmarklaw03.BoundsWithin'. -/
def boundsWithinUptoCard : Claim7 := { stood := { row := boundsWithinUptoRow, standIns := [], harness := (true, "ac75a2bc6b3da26a47b2961661daa83a19939bcad915e5836336972a133c55f8"), looks := false }, kinds := [], alts := [], laidByText := true, laidKinds := [.data], laidTests := true, laidLooks := .later }
def BoundsWithinUptoCardSaid : Prop := Claim7.holds Tryd.pinned (.plain (OpenSpec.upto boundsWithinSpec)) boundsWithinUptoCard

/-- THE SECOND FORM's CARD OF 'mintmarklaw03.BoundsNear'. -/
def boundsNearUptoCard : Claim7 := { stood := { row := boundsNearUptoRow, standIns := [], harness := (true, "ac75a2bc6b3da26a47b2961661daa83a19939bcad915e5836336972a133c55f8"), looks := false }, kinds := [], alts := [], laidByText := true, laidKinds := [.data], laidTests := true, laidLooks := .later }
def BoundsNearUptoCardSaid : Prop := Claim7.holds Tryd.pinned (.plain (OpenSpec.upto boundsNearSpec)) boundsNearUptoCard

/-- THE SECOND FORM's CARD OF 'mintmarklaw03.BoundsAligned'. -/
def boundsAlignedUptoCard : Claim7 := { stood := { row := boundsAlignedUptoRow, standIns := [], harness := (true, "ac75a2bc6b3da26a47b2961661daa83a19939bcad915e5836336972a133c55f8"), looks := false }, kinds := [], alts := [], laidByText := true, laidKinds := [.data], laidTests := true, laidLooks := .later }
def BoundsAlignedUptoCardSaid : Prop := Claim7.holds Tryd.pinned (.plain (OpenSpec.upto boundsAlignedSpec)) boundsAlignedUptoCard

/-- THE SECOND FORM's CARD OF 'mintmarklaw03.BoundsWords'. -/
def boundsWordsUptoCard : Claim7 := { stood := { row := boundsWordsUptoRow, standIns := [], harness := (true, "ac75a2bc6b3da26a47b2961661daa83a19939bcad915e5836336972a133c55f8"), looks := false }, kinds := [], alts := [], laidByText := true, laidKinds := [.data], laidTests := true, laidLooks := .later }
def BoundsWordsUptoCardSaid : Prop := Claim7.holds Tryd.pinned (.plain (OpenSpec.upto boundsWordsSpec)) boundsWordsUptoCard
end Rows
end Go.Proofs.YtdffacghdnaniaaDoor
