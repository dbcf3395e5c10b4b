/-
  DERIVED. GIVEN WITH THE SEED: THE CARDS: each row of YtnepnckiciapfaaDoorRows.lean that lists a variable, with what it lists TIED to the program's text (the seventh form; the later family's looks); each row that meets fmt, with fmt's text TOLD by the authors' own Lean function (tested against real Go, not proved from fmt's source: count such statements apart). THE CARD IS WHAT COUNTS. Prove the row's statement (the work); the ties are given (YtnepnckiciapfaaDoorTie.lean); close each card by the builder's one call (the guide's Derived/Test/ToyasCard.lean, 'card_holds'). Laid BY PROGRAM, IN A SANDBOX (cutbox-door.mjs). By AI agents, Wed Nov 11 2026. No macro, syntax, notation, axiom, sorry.
-/
import Derived.Test.YtnepnckiciapfaaDoorRows
import GoSem.ClaimSeven
namespace Go.Proofs.YtnepnckiciapfaaDoor
namespace Rows

/-- THE TIED CARD OF 'mintmarklaw21.RegionApart'. -/
def regionApartCard : Claim7 := { stood := { row := regionApartRow, standIns := [], harness := (true, "6d79aa04855759996a3a5a99ad56368cda9a42754150cff10cdb9b9708ff6d64"), looks := false }, kinds := [], alts := [], laidByText := true, laidKinds := [.data], laidTests := true, laidLooks := .later }
def RegionApartCardSaid : Prop := Claim7.holds Tryd.pinned (.plain (OpenSpec.ofChange regionApartSpec)) regionApartCard

/-- THE SECOND FORM's CARD OF 'mintmarklaw21.RegionApart'. -/
def regionApartUptoCard : Claim7 := { stood := { row := regionApartUptoRow, standIns := [], harness := (true, "6d79aa04855759996a3a5a99ad56368cda9a42754150cff10cdb9b9708ff6d64"), looks := false }, kinds := [], alts := [], laidByText := true, laidKinds := [.data], laidTests := true, laidLooks := .later }
def RegionApartUptoCardSaid : Prop := Claim7.holds Tryd.pinned (.plain (OpenSpec.upto regionApartSpec)) regionApartUptoCard
end Rows
end Go.Proofs.YtnepnckiciapfaaDoor
