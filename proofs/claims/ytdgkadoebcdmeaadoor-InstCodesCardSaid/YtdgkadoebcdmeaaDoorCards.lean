/-
  DERIVED. GIVEN WITH THE SEED: THE CARDS: each row of YtdgkadoebcdmeaaDoorRows.lean that lists a variable, with what it lists TIED to the program's text (the seventh form; the later family's looks); each row that meets fmt, with fmt's text TOLD by the authors' own Lean function (tested against real Go, not proved from fmt's source: count such statements apart). THE CARD IS WHAT COUNTS. Prove the row's statement (the work); the ties are given (YtdgkadoebcdmeaaDoorTie.lean); close each card by the builder's one call (the guide's Derived/Test/ToyasCard.lean, 'card_holds'). Laid BY PROGRAM, IN A SANDBOX (cutbox-door.mjs). By AI agents, Wed Nov 11 2026. No macro, syntax, notation, axiom, sorry.
-/
import Derived.Test.YtdgkadoebcdmeaaDoorRows
import GoSem.ClaimSeven
namespace Go.Proofs.YtdgkadoebcdmeaaDoor
namespace Rows

/-- THE TIED CARD OF 'mintmarklaw13.InstCodes'. -/
def instCodesCard : Claim7 := { stood := { row := instCodesRow, standIns := [], harness := (true, "331835ec0a9a42f5432fe512fd67298f7987c99843c305bbbe33f219fdf9d1ab"), looks := false }, kinds := [], alts := [], laidByText := true, laidKinds := [.data], laidTests := true, laidLooks := .later }
def InstCodesCardSaid : Prop := Claim7.holds Tryd.pinned (.plain (OpenSpec.ofChange instCodesSpec)) instCodesCard

/-- THE TIED CARD OF 'mintmarklaw13.InstBack'. -/
def instBackCard : Claim7 := { stood := { row := instBackRow, standIns := [], harness := (true, "331835ec0a9a42f5432fe512fd67298f7987c99843c305bbbe33f219fdf9d1ab"), looks := false }, kinds := [], alts := [], laidByText := true, laidKinds := [.data, .data], laidTests := true, laidLooks := .later }
def InstBackCardSaid : Prop := Claim7.holds Tryd.pinned (.plain (OpenSpec.ofChange instBackSpec)) instBackCard

/-- THE TIED CARD OF 'mintmarklaw13.InstOne'. -/
def instOneCard : Claim7 := { stood := { row := instOneRow, standIns := [], harness := (true, "331835ec0a9a42f5432fe512fd67298f7987c99843c305bbbe33f219fdf9d1ab"), looks := false }, kinds := [], alts := [], laidByText := true, laidKinds := [.data, .data], laidTests := true, laidLooks := .later }
def InstOneCardSaid : Prop := Claim7.holds Tryd.pinned (.plain (OpenSpec.ofChange instOneSpec)) instOneCard

/-- THE TIED CARD OF 'mintmarklaw13.InstFields'. -/
def instFieldsCard : Claim7 := { stood := { row := instFieldsRow, standIns := [], harness := (true, "331835ec0a9a42f5432fe512fd67298f7987c99843c305bbbe33f219fdf9d1ab"), looks := false }, kinds := [], alts := [], laidByText := true, laidKinds := [.data], laidTests := true, laidLooks := .later }
def InstFieldsCardSaid : Prop := Claim7.holds Tryd.pinned (.plain (OpenSpec.ofChange instFieldsSpec)) instFieldsCard

/-- THE SECOND FORM's CARD OF 'mintmarklaw13.InstCodes'. -/
def instCodesUptoCard : Claim7 := { stood := { row := instCodesUptoRow, standIns := [], harness := (true, "331835ec0a9a42f5432fe512fd67298f7987c99843c305bbbe33f219fdf9d1ab"), looks := false }, kinds := [], alts := [], laidByText := true, laidKinds := [.data], laidTests := true, laidLooks := .later }
def InstCodesUptoCardSaid : Prop := Claim7.holds Tryd.pinned (.plain (OpenSpec.upto instCodesSpec)) instCodesUptoCard

/-- THE SECOND FORM's CARD OF 'mintmarklaw13.InstBack'. -/
def instBackUptoCard : Claim7 := { stood := { row := instBackUptoRow, standIns := [], harness := (true, "331835ec0a9a42f5432fe512fd67298f7987c99843c305bbbe33f219fdf9d1ab"), looks := false }, kinds := [], alts := [], laidByText := true, laidKinds := [.data, .data], laidTests := true, laidLooks := .later }
def InstBackUptoCardSaid : Prop := Claim7.holds Tryd.pinned (.plain (OpenSpec.upto instBackSpec)) instBackUptoCard

/-- THE SECOND FORM's CARD OF 'mintmarklaw13.InstOne'. -/
def instOneUptoCard : Claim7 := { stood := { row := instOneUptoRow, standIns := [], harness := (true, "331835ec0a9a42f5432fe512fd67298f7987c99843c305bbbe33f219fdf9d1ab"), looks := false }, kinds := [], alts := [], laidByText := true, laidKinds := [.data, .data], laidTests := true, laidLooks := .later }
def InstOneUptoCardSaid : Prop := Claim7.holds Tryd.pinned (.plain (OpenSpec.upto instOneSpec)) instOneUptoCard

/-- THE SECOND FORM's CARD OF 'mintmarklaw13.InstFields'. -/
def instFieldsUptoCard : Claim7 := { stood := { row := instFieldsUptoRow, standIns := [], harness := (true, "331835ec0a9a42f5432fe512fd67298f7987c99843c305bbbe33f219fdf9d1ab"), looks := false }, kinds := [], alts := [], laidByText := true, laidKinds := [.data], laidTests := true, laidLooks := .later }
def InstFieldsUptoCardSaid : Prop := Claim7.holds Tryd.pinned (.plain (OpenSpec.upto instFieldsSpec)) instFieldsUptoCard
end Rows
end Go.Proofs.YtdgkadoebcdmeaaDoor
