/-
  Texts laid one behind the other: AsmLaid, AsmListsLaid.
  From what the rows of this layer list to what a walk wants; and the door's own heap meets it.
  The listed table that the hexadecimal digits want.
-/
import Derived.Test.YtlommbeokbicjaaGreatDoorGBase
import Derived.Test.YtlommbeokbicjaaGreatDoorGInst
import Derived.Test.YtlommbeokbicjaaGreatDoorAsmOne
import Derived.Lib.LaidTab
import Derived.LaidSub
import Derived.Lay
import Derived.Shelf.LaysM
import Derived.Test.YtlommbeokbicjaaGreatDoorGHex
namespace Go.Proofs.YtlommbeokbicjaaGreatDoor
open Go.RowKit InstMath AsmMath

/-- What the rows list. -/
def L9 : List (String × DataW Unit) := Rows.asmBackRow.laid
set_option maxRecDepth 100000 in
theorem pow_tab : (Rows.laid_internal_strconv_uint64pow10 : DataW Unit) = Lib.tabData .u64 Lib.pow10Tab := by kernel_rfl
set_option maxRecDepth 100000 in
theorem g_of_laid {W : World} (h : laidMetH Tryz.prog L9 W) (hs : W.ShapedOpen Tryz.prog) : G W := by
  have h1 := h.filter (fun x => x.1 == "mintmark/inst.names" || x.1 == "mintmark/inst.words")
  have e1 : L9.filter (fun x => x.1 == "mintmark/inst.names" || x.1 == "mintmark/inst.words") = [("mintmark/inst.names", Rows.laid_mintmark_inst_names), ("mintmark/inst.words", Rows.laid_mintmark_inst_words)] := by kernel_rfl
  rw [e1] at h1
  have h2 := h.filter (fun x => x.1 == "internal/strconv.uint64pow10")
  have e2 : L9.filter (fun x => x.1 == "internal/strconv.uint64pow10") = [("internal/strconv.uint64pow10", Rows.laid_internal_strconv_uint64pow10)] := by kernel_rfl
  rw [e2, MakeChecks.laidMetH_plain _ _ _ (by kernel_rfl), pow_tab] at h2
  have hT := tabs_of_laid h1
  refine ⟨hT.1, hT.2, ?_, ?_⟩
  · exact Lib.tabIs_of_head (g := 2) (t := 174) (e := 46) (n := 20) (by kernel_rfl) (by kernel_rfl) Tryz.underlying174 Tryz.underlying46 (by kernel_rfl) (by kernel_rfl) h2
  · exact Tryz.laysM146.s1_3 W hs
set_option maxRecDepth 100000 in
theorem lay_shaped (os : Os) (args : Array Value) : ((World.laidAll Tryz.prog os L9).forCall (fun _ _ => 0) ⟨#[], args, []⟩).Shaped Tryz.prog :=
  World.shaped_of_ZipB (by kernel_rfl) (by kernel_rfl)
set_option maxRecDepth 100000 in
theorem lay_met (os : Os) (args : Array Value) : laidMetH Tryz.prog L9 ((World.laidAll Tryz.prog os L9).forCall (fun _ _ => 0) ⟨#[], args, []⟩).memory := by
  rw [MakeChecks.laidMetH_plain _ _ _ (by kernel_rfl)]
  exact laidMet_laidAll _ (by kernel_rfl) (by kernel_rfl)
end Go.Proofs.YtlommbeokbicjaaGreatDoor

namespace Go.Proofs.YtlommbeokbicjaaGreatDoor
open Go.RowKit InstMath AsmMath
open Go.Lib (itoa)

def db64 : List Int := [0, 1, 56, 2, 57, 49, 28, 3, 61, 58, 42, 50, 38, 29, 17, 4, 62, 47, 59, 36, 45, 43, 51, 22, 53, 39, 33, 30, 24, 18, 12, 5, 63, 55, 48, 27, 60, 41, 37, 16, 46, 35, 44, 21, 52, 32, 23, 11, 54, 26, 40, 15, 34, 20, 31, 10, 25, 14, 19, 9, 13, 8, 7, 6]
set_option maxRecDepth 100000 in
theorem db_tab : (Rows.laid_math_bits_deBruijn64tab : DataW Unit) = Lib.tabData .u8 db64 := by kernel_rfl
set_option maxRecDepth 100000 in
theorem g2_of_laid {W : World} (h : laidMetH Tryz.prog L9 W) (hs : W.ShapedOpen Tryz.prog) : G2 W := by
  refine ⟨g_of_laid h hs, ?_⟩
  have h2 := h.filter (fun x => x.1 == "math/bits.deBruijn64tab")
  have e2 : L9.filter (fun x => x.1 == "math/bits.deBruijn64tab") = [("math/bits.deBruijn64tab", Rows.laid_math_bits_deBruijn64tab)] := by kernel_rfl
  rw [e2, MakeChecks.laidMetH_plain _ _ _ (by kernel_rfl), db_tab] at h2
  have hT := Lib.tabIs_of_head (g := 9) (t := 199) (e := 5) (n := 64) (by kernel_rfl) (by kernel_rfl) Tryz.underlying199 Tryz.underlying5 (by kernel_rfl) (by kernel_rfl) h2
  exact hT.cell (by kernel_rfl) 15 (by decide)
end Go.Proofs.YtlommbeokbicjaaGreatDoor
