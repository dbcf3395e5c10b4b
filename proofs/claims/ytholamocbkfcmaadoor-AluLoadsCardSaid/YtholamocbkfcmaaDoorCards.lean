/-
  DERIVED. GIVEN WITH THE SEED: THE CARDS: each row of YtholamocbkfcmaaDoorRows.lean that lists a variable, with what it lists TIED to the program's text (the seventh form; the later family's looks); each row that meets fmt, with fmt's text TOLD by the authors' own Lean function (tested against real Go, not proved from fmt's source: count such statements apart). THE CARD IS WHAT COUNTS. Prove the row's statement (the work); the ties are given (YtholamocbkfcmaaDoorTie.lean); close each card by the builder's one call (the guide's Derived/Test/ToyasCard.lean, 'card_holds'). Laid BY PROGRAM, IN A SANDBOX (cutbox-door.mjs). By AI agents, Wed Nov 11 2026. No macro, syntax, notation, axiom, sorry.
-/
import Derived.Test.YtholamocbkfcmaaDoorRows
import GoSem.ClaimSeven
namespace Go.Proofs.YtholamocbkfcmaaDoor
namespace Rows

/-- THE TIED CARD OF 'mintmarklaw15.AluDoes'. -/
def aluDoesCard : Claim7 := { stood := { row := aluDoesRow, standIns := [], harness := (true, "4717fac3a79b6ed31f795cc46b39f9d992a3f5b4643e41fffd64cb459d2f6bf5"), looks := false }, kinds := [], alts := [], laidByText := true, laidKinds := [.data], laidTests := true, laidLooks := .later }
def AluDoesCardSaid : Prop := Claim7.holds Tryd.pinned (.plain (OpenSpec.ofChange aluDoesSpec)) aluDoesCard

/-- THE TIED CARD OF 'mintmarklaw15.AluLoads'. -/
def aluLoadsCard : Claim7 := { stood := { row := aluLoadsRow, standIns := [], harness := (true, "4717fac3a79b6ed31f795cc46b39f9d992a3f5b4643e41fffd64cb459d2f6bf5"), looks := false }, kinds := [], alts := [], laidByText := true, laidKinds := [.data], laidTests := true, laidLooks := .later }
def AluLoadsCardSaid : Prop := Claim7.holds Tryd.pinned (.plain (OpenSpec.ofChange aluLoadsSpec)) aluLoadsCard

/-- THE SECOND FORM's CARD OF 'mintmarklaw15.AluDoes'. -/
def aluDoesUptoCard : Claim7 := { stood := { row := aluDoesUptoRow, standIns := [], harness := (true, "4717fac3a79b6ed31f795cc46b39f9d992a3f5b4643e41fffd64cb459d2f6bf5"), looks := false }, kinds := [], alts := [], laidByText := true, laidKinds := [.data], laidTests := true, laidLooks := .later }
def AluDoesUptoCardSaid : Prop := Claim7.holds Tryd.pinned (.plain (OpenSpec.upto aluDoesSpec)) aluDoesUptoCard

/-- THE SECOND FORM's CARD OF 'mintmarklaw15.AluLoads'. -/
def aluLoadsUptoCard : Claim7 := { stood := { row := aluLoadsUptoRow, standIns := [], harness := (true, "4717fac3a79b6ed31f795cc46b39f9d992a3f5b4643e41fffd64cb459d2f6bf5"), looks := false }, kinds := [], alts := [], laidByText := true, laidKinds := [.data], laidTests := true, laidLooks := .later }
def AluLoadsUptoCardSaid : Prop := Claim7.holds Tryd.pinned (.plain (OpenSpec.upto aluLoadsSpec)) aluLoadsUptoCard
end Rows
end Go.Proofs.YtholamocbkfcmaaDoor
