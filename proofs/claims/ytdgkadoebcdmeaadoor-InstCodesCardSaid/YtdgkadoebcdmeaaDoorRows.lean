/-
  NARROWER THAN 'FOR EVERY INPUT', by the rows' own cells (each row's printed sentence says how): InstCodes: laid · InstBack: laid · InstOne: laid · InstFields: laid.
  DERIVED. THE GIVEN ROWS OF THIS SEAT. 4 by the template 'for every input the law returns true; each argument reads behind the call as it read before'; 0 by the template 'total and deterministic' (their statements: YtdgkadoebcdmeaaDoorTotals.lean).
  GIVEN WITH THE SEED: the statements are not yours to turn. If you find one false, say at which input.
  Laid BY PROGRAM, IN A SANDBOX (cutbox-rows.mjs): the forced cells as the released guide's own fill.sh prints them over the translation 2c6322d246666d81… (all of the seat's roots in one cut). By AI agents, Wed Nov 11 2026. No macro, syntax, notation, axiom, sorry.
-/
import Derived.Test.YtdgkadoebcdmeaaDoorChecked
import GoSem.Claim
import GoSem.ClaimJoined
import GoSem.ClaimMapViews
import Derived.JoinedTies
import Derived.KernelRfl
namespace Go.Proofs.YtdgkadoebcdmeaaDoor
/- THE CELL 'sum', in the pinned program and in every row, IS THE sha256 OF THE DUMP (.gsa) THAT YtdgkadoebcdmeaaDoorProg.lean LOADS. Nothing in Lean hashes anything: it is a label: what it is worth is what the hold of that sum in a sandbox is worth. -/
noncomputable def Tryd.pinned : Pinned := { name := "ytdgkadoebcdmeaadoor", sum := "2c6322d246666d813a75f42d9b26b27f41e74a907ecd659fea0085622d327830", checked := Tryd.checked }
namespace Rows
def none {H : Type} : Left H := { results := [], args := [] }

/- WHAT THE LISTED PACKAGE-LEVEL VARIABLES READ AS WHEN THE CALL BEGINS. Each datum BY PROGRAM (the guide's laid-datum.mjs) off the statement by which the dump's own 'gosem.cut.vars' lays the variable. In a bare row this is a premise. The card (YtdgkadoebcdmeaaDoorCards.lean) ties it to the program's text. -/
def laid_mintmark_inst_words {H : Type} : DataW H := .agg [.lit (.int .u32 0), .lit (.int .u32 55), .lit (.int .u32 23), .lit (.int .u32 111), .lit (.int .u32 103), .lit (.int .u32 99), .lit (.int .u32 4195), .lit (.int .u32 16483), .lit (.int .u32 20579), .lit (.int .u32 24675), .lit (.int .u32 28771), .lit (.int .u32 3), .lit (.int .u32 4099), .lit (.int .u32 8195), .lit (.int .u32 12291), .lit (.int .u32 16387), .lit (.int .u32 20483), .lit (.int .u32 24579), .lit (.int .u32 35), .lit (.int .u32 4131), .lit (.int .u32 8227), .lit (.int .u32 12323), .lit (.int .u32 19), .lit (.int .u32 8211), .lit (.int .u32 12307), .lit (.int .u32 16403), .lit (.int .u32 24595), .lit (.int .u32 28691), .lit (.int .u32 4115), .lit (.int .u32 20499), .lit (.int .u32 1073762323), .lit (.int .u32 51), .lit (.int .u32 1073741875), .lit (.int .u32 4147), .lit (.int .u32 8243), .lit (.int .u32 12339), .lit (.int .u32 16435), .lit (.int .u32 20531), .lit (.int .u32 1073762355), .lit (.int .u32 24627), .lit (.int .u32 28723), .lit (.int .u32 115), .lit (.int .u32 1048691), .lit (.int .u32 8207), .lit (.int .u32 16419), .lit (.int .u32 268435547), .lit (.int .u32 301989979), .lit (.int .u32 369098843), .lit (.int .u32 402653275), .lit (.int .u32 436207707), .lit (.int .u32 536871003), .lit (.int .u32 570425435), .lit (.int .u32 671088731), .lit (.int .u32 973078619), .lit (.int .u32 1073741915), .lit (.int .u32 1107296347), .lit (.int .u32 4261412955), .lit (.int .u32 4262461531), .lit (.int .u32 4263510107), .lit (.int .u32 4264558683), .lit (.int .u32 4265607259), .lit (.int .u32 4267704411), .lit (.int .u32 4269801563), .lit (.int .u32 4270850139), .lit (.int .u32 4271898715), .lit (.int .u32 4272947291), .lit (.int .u32 4277141595), .lit (.int .u32 4279238747), .lit (.int .u32 4187), .lit (.int .u32 8283)]
def laid_mintmark_inst_names {H : Type} : DataW H := .agg [.lit (.string []), .lit (.string [108, 117, 105]), .lit (.string [97, 117, 105, 112, 99]), .lit (.string [106, 97, 108]), .lit (.string [106, 97, 108, 114]), .lit (.string [98, 101, 113]), .lit (.string [98, 110, 101]), .lit (.string [98, 108, 116]), .lit (.string [98, 103, 101]), .lit (.string [98, 108, 116, 117]), .lit (.string [98, 103, 101, 117]), .lit (.string [108, 98]), .lit (.string [108, 104]), .lit (.string [108, 119]), .lit (.string [108, 100]), .lit (.string [108, 98, 117]), .lit (.string [108, 104, 117]), .lit (.string [108, 119, 117]), .lit (.string [115, 98]), .lit (.string [115, 104]), .lit (.string [115, 119]), .lit (.string [115, 100]), .lit (.string [97, 100, 100, 105]), .lit (.string [115, 108, 116, 105]), .lit (.string [115, 108, 116, 105, 117]), .lit (.string [120, 111, 114, 105]), .lit (.string [111, 114, 105]), .lit (.string [97, 110, 100, 105]), .lit (.string [115, 108, 108, 105]), .lit (.string [115, 114, 108, 105]), .lit (.string [115, 114, 97, 105]), .lit (.string [97, 100, 100]), .lit (.string [115, 117, 98]), .lit (.string [115, 108, 108]), .lit (.string [115, 108, 116]), .lit (.string [115, 108, 116, 117]), .lit (.string [120, 111, 114]), .lit (.string [115, 114, 108]), .lit (.string [115, 114, 97]), .lit (.string [111, 114]), .lit (.string [97, 110, 100]), .lit (.string [101, 99, 97, 108, 108]), .lit (.string [101, 98, 114, 101, 97, 107]), .lit (.string [99, 108, 99]), .lit (.string [99, 115, 99]), .lit (.string [99, 115, 101, 116, 98, 111, 117, 110, 100, 115]), .lit (.string [99, 115, 101, 116, 98, 111, 117, 110, 100, 115, 101, 120, 97, 99, 116]), .lit (.string [99, 115, 101, 97, 108]), .lit (.string [99, 117, 110, 115, 101, 97, 108]), .lit (.string [99, 97, 110, 100, 112, 101, 114, 109]), .lit (.string [99, 115, 101, 116, 97, 100, 100, 114]), .lit (.string [99, 105, 110, 99, 111, 102, 102, 115, 101, 116]), .lit (.string [99, 115, 117, 98]), .lit (.string [99, 98, 117, 105, 108, 100, 99, 97, 112]), .lit (.string [99, 116, 101, 115, 116, 115, 117, 98, 115, 101, 116]), .lit (.string [99, 115, 101, 116, 101, 113, 117, 97, 108]), .lit (.string [99, 103, 101, 116, 112, 101, 114, 109]), .lit (.string [99, 103, 101, 116, 116, 121, 112, 101]), .lit (.string [99, 103, 101, 116, 98, 97, 115, 101]), .lit (.string [99, 103, 101, 116, 108, 101, 110]), .lit (.string [99, 103, 101, 116, 116, 97, 103]), .lit (.string [99, 103, 101, 116, 111, 102, 102, 115, 101, 116]), .lit (.string [99, 114, 114, 108]), .lit (.string [99, 114, 97, 109]), .lit (.string [99, 109, 111, 118, 101]), .lit (.string [99, 99, 108, 101, 97, 114, 116, 97, 103]), .lit (.string [99, 103, 101, 116, 97, 100, 100, 114]), .lit (.string [99, 115, 101, 97, 108, 101, 110, 116, 114, 121]), .lit (.string [99, 105, 110, 99, 111, 102, 102, 115, 101, 116, 105, 109, 109]), .lit (.string [99, 115, 101, 116, 98, 111, 117, 110, 100, 115, 105, 109, 109])]

/-- 'mintmarklaw13.InstCodes': WHATEVER THE INPUT: true; the input reads as it did. -/
def instCodesSpec : ChangeSpec := { name := "instCodes", fn := fun _ => fun
  | [d1, d2] => { results := [.lit (.bool true)], args := [d1, d2] }
  | _ => none }
def instCodesRow : OpenClaim := { program := "ytdgkadoebcdmeaadoor", sum := "2c6322d246666d813a75f42d9b26b27f41e74a907ecd659fea0085622d327830", func := "mintmark/mintmarklaw13.InstCodes", spec := "instCodes", named := ["mintmark/inst.words"], apart := false, laid := [("mintmark/inst.words", laid_mintmark_inst_words)] }
def InstCodesSaid : Prop := instCodesRow.holds Tryd.pinned (OpenSpec.ofChange instCodesSpec)

/-- ITS FALSE NEIGHBOUR: 'it returns false'. Refute it at one input. -/
def instCodesWrong : ChangeSpec := { name := "instCodes", fn := fun _ => fun
  | [d1, d2] => { results := [.lit (.bool false)], args := [d1, d2] }
  | _ => none }
def InstCodesWrongFalsely : Prop := instCodesRow.holds Tryd.pinned (OpenSpec.ofChange instCodesWrong)

/-- 'mintmarklaw13.InstBack': WHATEVER THE INPUT: true; the input reads as it did. -/
def instBackSpec : ChangeSpec := { name := "instBack", fn := fun _ => fun
  | [d1, d2] => { results := [.lit (.bool true)], args := [d1, d2] }
  | _ => none }
def instBackRow : OpenClaim := { program := "ytdgkadoebcdmeaadoor", sum := "2c6322d246666d813a75f42d9b26b27f41e74a907ecd659fea0085622d327830", func := "mintmark/mintmarklaw13.InstBack", spec := "instBack", named := ["mintmark/inst.words", "mintmark/inst.names"], apart := false, laid := [("mintmark/inst.names", laid_mintmark_inst_names), ("mintmark/inst.words", laid_mintmark_inst_words)] }
def InstBackSaid : Prop := instBackRow.holds Tryd.pinned (OpenSpec.ofChange instBackSpec)

/-- ITS FALSE NEIGHBOUR: 'it returns false'. Refute it at one input. -/
def instBackWrong : ChangeSpec := { name := "instBack", fn := fun _ => fun
  | [d1, d2] => { results := [.lit (.bool false)], args := [d1, d2] }
  | _ => none }
def InstBackWrongFalsely : Prop := instBackRow.holds Tryd.pinned (OpenSpec.ofChange instBackWrong)

/-- 'mintmarklaw13.InstOne': WHATEVER THE INPUT: true; the input reads as it did. -/
def instOneSpec : ChangeSpec := { name := "instOne", fn := fun _ => fun
  | [d1, d2, d3] => { results := [.lit (.bool true)], args := [d1, d2, d3] }
  | _ => none }
def instOneRow : OpenClaim := { program := "ytdgkadoebcdmeaadoor", sum := "2c6322d246666d813a75f42d9b26b27f41e74a907ecd659fea0085622d327830", func := "mintmark/mintmarklaw13.InstOne", spec := "instOne", named := ["mintmark/inst.words", "mintmark/inst.names"], apart := false, laid := [("mintmark/inst.names", laid_mintmark_inst_names), ("mintmark/inst.words", laid_mintmark_inst_words)] }
def InstOneSaid : Prop := instOneRow.holds Tryd.pinned (OpenSpec.ofChange instOneSpec)

/-- ITS FALSE NEIGHBOUR: 'it returns false'. Refute it at one input. -/
def instOneWrong : ChangeSpec := { name := "instOne", fn := fun _ => fun
  | [d1, d2, d3] => { results := [.lit (.bool false)], args := [d1, d2, d3] }
  | _ => none }
def InstOneWrongFalsely : Prop := instOneRow.holds Tryd.pinned (OpenSpec.ofChange instOneWrong)

/-- 'mintmarklaw13.InstFields': WHATEVER THE INPUT: true; the input reads as it did. -/
def instFieldsSpec : ChangeSpec := { name := "instFields", fn := fun _ => fun
  | [d1, d2] => { results := [.lit (.bool true)], args := [d1, d2] }
  | _ => none }
def instFieldsRow : OpenClaim := { program := "ytdgkadoebcdmeaadoor", sum := "2c6322d246666d813a75f42d9b26b27f41e74a907ecd659fea0085622d327830", func := "mintmark/mintmarklaw13.InstFields", spec := "instFields", named := ["mintmark/inst.words"], apart := false, laid := [("mintmark/inst.words", laid_mintmark_inst_words)] }
def InstFieldsSaid : Prop := instFieldsRow.holds Tryd.pinned (OpenSpec.ofChange instFieldsSpec)

/-- ITS FALSE NEIGHBOUR: 'it returns false'. Refute it at one input. -/
def instFieldsWrong : ChangeSpec := { name := "instFields", fn := fun _ => fun
  | [d1, d2] => { results := [.lit (.bool false)], args := [d1, d2] }
  | _ => none }
def InstFieldsWrongFalsely : Prop := instFieldsRow.holds Tryd.pinned (OpenSpec.ofChange instFieldsWrong)

/- THE SECOND FORM. 'bulk': how many values and letters a reading holds, each counted each time it is reached (what is shared counts as often as it is met; a slice's spare places count too). A statement '..UptoSaid' is the law's where the arguments, and the package variables that the reading takes, are together of bulk at most 1048576: NARROWER than '..Said'. Prove '..Said' where nothing that the law and all that it calls make is longer than what came in: it says more and counts as full. Else prove '..UptoSaid'. A law counts once. -/
mutual
def uptoBulk {H : Type} : DataW H → Nat
  | .lit (.string bytes) => bytes.length + 1
  | .lit _ => 1
  | .nil => 1
  | .ptr d => uptoBulk d + 1
  | .slice elems spare => uptoBulkAll elems + uptoBulkAll spare + 1
  | .agg parts => uptoBulkAll parts + 1
  | .iface _ d => uptoBulk d + 1
  | .map entries => uptoBulkEntries entries + 1
  | .held _ => 1
def uptoBulkAll {H : Type} : List (DataW H) → Nat
  | [] => 0
  | d :: r => uptoBulk d + uptoBulkAll r
def uptoBulkEntries {H : Type} : List (Lit × DataW H) → Nat
  | [] => 0
  | x :: r => uptoBulkEntry x + uptoBulkEntries r
def uptoBulkEntry {H : Type} : Lit × DataW H → Nat
  | (.string bytes, d) => bytes.length + uptoBulk d + 1
  | (_, d) => uptoBulk d + 1
 end
def uptoSmall : (H : Type) → List (DataW H) → Bool := fun _ ds => decide (uptoBulkAll ds ≤ 1048576)
def OpenSpec.upto (s : _root_.Go.ChangeSpec) : _root_.Go.OpenSpec := { _root_.Go.OpenSpec.ofChange s with cond := some uptoSmall }

/-- 'mintmarklaw13.InstCodes', WHERE WHAT IT READS IS OF BULK AT MOST 1048576: true; the input reads as it did. -/
def instCodesUptoRow : OpenClaim := { program := "ytdgkadoebcdmeaadoor", sum := "2c6322d246666d813a75f42d9b26b27f41e74a907ecd659fea0085622d327830", func := "mintmark/mintmarklaw13.InstCodes", spec := "instCodes", named := ["mintmark/inst.words"], apart := false, laid := [("mintmark/inst.words", laid_mintmark_inst_words)], narrowed := true }
def InstCodesUptoSaid : Prop := instCodesUptoRow.holds Tryd.pinned (OpenSpec.upto instCodesSpec)

/-- 'mintmarklaw13.InstBack', WHERE WHAT IT READS IS OF BULK AT MOST 1048576: true; the input reads as it did. -/
def instBackUptoRow : OpenClaim := { program := "ytdgkadoebcdmeaadoor", sum := "2c6322d246666d813a75f42d9b26b27f41e74a907ecd659fea0085622d327830", func := "mintmark/mintmarklaw13.InstBack", spec := "instBack", named := ["mintmark/inst.words", "mintmark/inst.names"], apart := false, laid := [("mintmark/inst.names", laid_mintmark_inst_names), ("mintmark/inst.words", laid_mintmark_inst_words)], narrowed := true }
def InstBackUptoSaid : Prop := instBackUptoRow.holds Tryd.pinned (OpenSpec.upto instBackSpec)

/-- 'mintmarklaw13.InstOne', WHERE WHAT IT READS IS OF BULK AT MOST 1048576: true; the input reads as it did. -/
def instOneUptoRow : OpenClaim := { program := "ytdgkadoebcdmeaadoor", sum := "2c6322d246666d813a75f42d9b26b27f41e74a907ecd659fea0085622d327830", func := "mintmark/mintmarklaw13.InstOne", spec := "instOne", named := ["mintmark/inst.words", "mintmark/inst.names"], apart := false, laid := [("mintmark/inst.names", laid_mintmark_inst_names), ("mintmark/inst.words", laid_mintmark_inst_words)], narrowed := true }
def InstOneUptoSaid : Prop := instOneUptoRow.holds Tryd.pinned (OpenSpec.upto instOneSpec)

/-- 'mintmarklaw13.InstFields', WHERE WHAT IT READS IS OF BULK AT MOST 1048576: true; the input reads as it did. -/
def instFieldsUptoRow : OpenClaim := { program := "ytdgkadoebcdmeaadoor", sum := "2c6322d246666d813a75f42d9b26b27f41e74a907ecd659fea0085622d327830", func := "mintmark/mintmarklaw13.InstFields", spec := "instFields", named := ["mintmark/inst.words"], apart := false, laid := [("mintmark/inst.words", laid_mintmark_inst_words)], narrowed := true }
def InstFieldsUptoSaid : Prop := instFieldsUptoRow.holds Tryd.pinned (OpenSpec.upto instFieldsSpec)

end Rows
end Go.Proofs.YtdgkadoebcdmeaaDoor
