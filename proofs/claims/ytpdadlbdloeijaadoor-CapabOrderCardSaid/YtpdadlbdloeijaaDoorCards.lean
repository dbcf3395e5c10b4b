/-
  DERIVED. GIVEN WITH THE SEED: THE CARDS: each row of YtpdadlbdloeijaaDoorRows.lean that lists a variable, with what it lists TIED to the program's text (the seventh form; the later family's looks); each row that meets fmt, with fmt's text TOLD by the authors' own Lean function (tested against real Go, not proved from fmt's source: count such statements apart). THE CARD IS WHAT COUNTS. Prove the row's statement (the work); the ties are given (YtpdadlbdloeijaaDoorTie.lean); close each card by the builder's one call (the guide's Derived/Test/ToyasCard.lean, 'card_holds'). Laid BY PROGRAM, IN A SANDBOX (cutbox-door.mjs). By AI agents, Wed Nov 11 2026. No macro, syntax, notation, axiom, sorry.
-/
import Derived.Test.YtpdadlbdloeijaaDoorRows
import GoSem.ClaimSeven
namespace Go.Proofs.YtpdadlbdloeijaaDoor
namespace Rows

/-- THE TIED CARD OF 'mintmarklaw05.CapabLooks'. -/
def capabLooksCard : Claim7 := { stood := { row := capabLooksRow, standIns := [], harness := (true, "ad30117af9554ee70b599e4543814f9e680744a41d527a1b662e64adee225580"), looks := false }, kinds := [], alts := [], laidByText := true, laidKinds := [.data], laidTests := true, laidLooks := .later }
def CapabLooksCardSaid : Prop := Claim7.holds Tryd.pinned (.plain (OpenSpec.ofChange capabLooksSpec)) capabLooksCard

/-- THE TIED CARD OF 'mintmarklaw05.CapabMakes'. -/
def capabMakesCard : Claim7 := { stood := { row := capabMakesRow, standIns := [], harness := (true, "ad30117af9554ee70b599e4543814f9e680744a41d527a1b662e64adee225580"), looks := false }, kinds := [], alts := [], laidByText := true, laidKinds := [.data], laidTests := true, laidLooks := .later }
def CapabMakesCardSaid : Prop := Claim7.holds Tryd.pinned (.plain (OpenSpec.ofChange capabMakesSpec)) capabMakesCard

/-- THE TIED CARD OF 'mintmarklaw05.CapabBack'. -/
def capabBackCard : Claim7 := { stood := { row := capabBackRow, standIns := [], harness := (true, "ad30117af9554ee70b599e4543814f9e680744a41d527a1b662e64adee225580"), looks := false }, kinds := [], alts := [], laidByText := true, laidKinds := [.data], laidTests := true, laidLooks := .later }
def CapabBackCardSaid : Prop := Claim7.holds Tryd.pinned (.plain (OpenSpec.ofChange capabBackSpec)) capabBackCard

/-- THE TIED CARD OF 'mintmarklaw05.CapabOrder'. -/
def capabOrderCard : Claim7 := { stood := { row := capabOrderRow, standIns := [], harness := (true, "ad30117af9554ee70b599e4543814f9e680744a41d527a1b662e64adee225580"), looks := false }, kinds := [], alts := [], laidByText := true, laidKinds := [.data], laidTests := true, laidLooks := .later }
def CapabOrderCardSaid : Prop := Claim7.holds Tryd.pinned (.plain (OpenSpec.ofChange capabOrderSpec)) capabOrderCard

/-- THE TIED CARD OF 'mintmarklaw05.CapabBytes'. -/
def capabBytesCard : Claim7 := { stood := { row := capabBytesRow, standIns := [], harness := (true, "ad30117af9554ee70b599e4543814f9e680744a41d527a1b662e64adee225580"), looks := false }, kinds := [], alts := [], laidByText := true, laidKinds := [.data], laidTests := true, laidLooks := .later }
def CapabBytesCardSaid : Prop := Claim7.holds Tryd.pinned (.plain (OpenSpec.ofChange capabBytesSpec)) capabBytesCard

/-- THE TIED CARD OF 'mintmarklaw05.CapabRoots'. -/
def capabRootsCard : Claim7 := { stood := { row := capabRootsRow, standIns := [], harness := (true, "ad30117af9554ee70b599e4543814f9e680744a41d527a1b662e64adee225580"), looks := false }, kinds := [], alts := [], laidByText := true, laidKinds := [.data], laidTests := true, laidLooks := .later }
def CapabRootsCardSaid : Prop := Claim7.holds Tryd.pinned (.plain (OpenSpec.ofChange capabRootsSpec)) capabRootsCard

/-- THE SECOND FORM's CARD OF 'mintmarklaw05.CapabLooks'. -/
def capabLooksUptoCard : Claim7 := { stood := { row := capabLooksUptoRow, standIns := [], harness := (true, "ad30117af9554ee70b599e4543814f9e680744a41d527a1b662e64adee225580"), looks := false }, kinds := [], alts := [], laidByText := true, laidKinds := [.data], laidTests := true, laidLooks := .later }
def CapabLooksUptoCardSaid : Prop := Claim7.holds Tryd.pinned (.plain (OpenSpec.upto capabLooksSpec)) capabLooksUptoCard

/-- THE SECOND FORM's CARD OF 'mintmarklaw05.CapabMakes'. -/
def capabMakesUptoCard : Claim7 := { stood := { row := capabMakesUptoRow, standIns := [], harness := (true, "ad30117af9554ee70b599e4543814f9e680744a41d527a1b662e64adee225580"), looks := false }, kinds := [], alts := [], laidByText := true, laidKinds := [.data], laidTests := true, laidLooks := .later }
def CapabMakesUptoCardSaid : Prop := Claim7.holds Tryd.pinned (.plain (OpenSpec.upto capabMakesSpec)) capabMakesUptoCard

/-- THE SECOND FORM's CARD OF 'mintmarklaw05.CapabBack'. -/
def capabBackUptoCard : Claim7 := { stood := { row := capabBackUptoRow, standIns := [], harness := (true, "ad30117af9554ee70b599e4543814f9e680744a41d527a1b662e64adee225580"), looks := false }, kinds := [], alts := [], laidByText := true, laidKinds := [.data], laidTests := true, laidLooks := .later }
def CapabBackUptoCardSaid : Prop := Claim7.holds Tryd.pinned (.plain (OpenSpec.upto capabBackSpec)) capabBackUptoCard

/-- THE SECOND FORM's CARD OF 'mintmarklaw05.CapabOrder'. -/
def capabOrderUptoCard : Claim7 := { stood := { row := capabOrderUptoRow, standIns := [], harness := (true, "ad30117af9554ee70b599e4543814f9e680744a41d527a1b662e64adee225580"), looks := false }, kinds := [], alts := [], laidByText := true, laidKinds := [.data], laidTests := true, laidLooks := .later }
def CapabOrderUptoCardSaid : Prop := Claim7.holds Tryd.pinned (.plain (OpenSpec.upto capabOrderSpec)) capabOrderUptoCard

/-- THE SECOND FORM's CARD OF 'mintmarklaw05.CapabBytes'. -/
def capabBytesUptoCard : Claim7 := { stood := { row := capabBytesUptoRow, standIns := [], harness := (true, "ad30117af9554ee70b599e4543814f9e680744a41d527a1b662e64adee225580"), looks := false }, kinds := [], alts := [], laidByText := true, laidKinds := [.data], laidTests := true, laidLooks := .later }
def CapabBytesUptoCardSaid : Prop := Claim7.holds Tryd.pinned (.plain (OpenSpec.upto capabBytesSpec)) capabBytesUptoCard

/-- THE SECOND FORM's CARD OF 'mintmarklaw05.CapabRoots'. -/
def capabRootsUptoCard : Claim7 := { stood := { row := capabRootsUptoRow, standIns := [], harness := (true, "ad30117af9554ee70b599e4543814f9e680744a41d527a1b662e64adee225580"), looks := false }, kinds := [], alts := [], laidByText := true, laidKinds := [.data], laidTests := true, laidLooks := .later }
def CapabRootsUptoCardSaid : Prop := Claim7.holds Tryd.pinned (.plain (OpenSpec.upto capabRootsSpec)) capabRootsUptoCard
end Rows
end Go.Proofs.YtpdadlbdloeijaaDoor
