/-
  The listed variable holds the table; the door's own heap meets it.
-/
import Derived.Test.YtholamocbkfcmaaDoorDoorFrame
import Derived.Test.YtholamocbkfcmaaDoorAlu4
import Derived.Test.YtholamocbkfcmaaDoorTie
import Derived.Test.YtholamocbkfcmaaDoorCards
namespace Go.Proofs.YtholamocbkfcmaaDoor
open Go.RowKit
theorem alu_says : ∀ {ls : List Lit} {cs : List Value}, Frame.Says ls cs → ∀ (k : Nat) (l : Lit), ls[k]? = some l → ∃ c, cs[k]? = some c ∧ Frame.Say l c
  | [], _, _, k, l, hl => by simp at hl
  | _ :: _, [], h, _, _, _ => h.elim
  | a :: ls, c :: cs, h, 0, l, hl => by
    obtain rfl := Option.some.inj hl
    exact ⟨c, rfl, h.1⟩
  | a :: ls, c :: cs, h, k + 1, l, hl => alu_says h.2 k l hl
def litA : List Lit := (List.range 70).map (fun k => Lit.int .i64 (wid k : Int))
theorem alu_cells {W : World} {cs : Array Value} (hv : W.var? Tryd.prog "mintmark/alu.widths" = some cs) (hg : Tryd.prog.globalNamed "mintmark/alu.widths" = some 0) (hs : Frame.Says litA cs.toList) : Tab W := fun k hk => by
  obtain ⟨c, h1, h2⟩ := alu_says hs k (.int .i64 (wid k : Int)) (by simp [litA, hk])
  have h3 : c = .int .i64 (wid k : Int) := h2
  rw [← h3]
  have := World.var?_cell hg hv k
  simp at this h1
  rw [this, h1]
set_option maxRecDepth 100000 in
theorem litA_is : Frame.lits (H := Unit) 4 Rows.laid_mintmark_alu_widths = litA := by kernel_rfl
set_option maxRecDepth 100000 in
theorem tab_of_laid {W : World} (h : laidMetH Tryd.prog [("mintmark/alu.widths", Rows.laid_mintmark_alu_widths)] W) : Tab W := by
  rw [MakeChecks.laidMetH_plain _ _ _ (by kernel_rfl)] at h
  obtain ⟨ps, ⟨g0, t0, cs0, f0, p0, q0, hg0, ht0, hv0, hd0, _, _⟩, _, _⟩ := h
  obtain rfl := Option.some.inj ((show Tryd.prog.globalNamed "mintmark/alu.widths" = some 0 by kernel_rfl).symm.trans hg0)
  obtain rfl := Option.some.inj ((show (Tryd.prog.globals[0]?).map (·.type) = some 40 by kernel_rfl).symm.trans ht0)
  have hs0 := Frame.says_of 4 40 [.inl .i64, .inl .i64, .inl .i64, .inl .i64, .inl .i64, .inl .i64, .inl .i64, .inl .i64, .inl .i64, .inl .i64, .inl .i64, .inl .i64, .inl .i64, .inl .i64, .inl .i64, .inl .i64, .inl .i64, .inl .i64, .inl .i64, .inl .i64, .inl .i64, .inl .i64, .inl .i64, .inl .i64, .inl .i64, .inl .i64, .inl .i64, .inl .i64, .inl .i64, .inl .i64, .inl .i64, .inl .i64, .inl .i64, .inl .i64, .inl .i64, .inl .i64, .inl .i64, .inl .i64, .inl .i64, .inl .i64, .inl .i64, .inl .i64, .inl .i64, .inl .i64, .inl .i64, .inl .i64, .inl .i64, .inl .i64, .inl .i64, .inl .i64, .inl .i64, .inl .i64, .inl .i64, .inl .i64, .inl .i64, .inl .i64, .inl .i64, .inl .i64, .inl .i64, .inl .i64, .inl .i64, .inl .i64, .inl .i64, .inl .i64, .inl .i64, .inl .i64, .inl .i64, .inl .i64, .inl .i64, .inl .i64] _ _ _ (by kernel_rfl) hd0
  exact alu_cells hv0 hg0 (litA_is ▸ hs0)
set_option maxRecDepth 100000 in
theorem door_met (os : Os) (args : Array Value) : laidMetH Tryd.prog [("mintmark/alu.widths", Rows.laid_mintmark_alu_widths)] ((World.doorLaid Tryd.prog 400 os).forCall (fun _ _ => 0) ⟨#[], args, []⟩).memory :=
  laidMetH_of_parts3 (fuel := 8) (laidMet_of_run' 8 (by kernel_rfl) (by kernel_rfl)) (by kernel_rfl) (by kernel_rfl)
end Go.Proofs.YtholamocbkfcmaaDoor
