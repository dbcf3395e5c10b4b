/-
  The table of the fields' places holds what the program's text lays: from the row's condition to the cells; and a world that meets it.
-/
import Derived.Test.YtnepnckiciapfaaDoorDoorFrame
import Derived.Test.YtnepnckiciapfaaDoorTab03
import Derived.Test.YtnepnckiciapfaaDoorTie
import Derived.Test.YtnepnckiciapfaaDoorCards
namespace Go.Proofs.YtnepnckiciapfaaDoor
open Go.RowKit

theorem tab_of_laid {W : World} (h : laidMetH Tryd.prog [("mintmark/bounds.places", Rows.laid_mintmark_bounds_places)] W) : Tab W := by
  rw [MakeChecks.laidMetH_plain _ _ _ (by kernel_rfl)] at h
  obtain ⟨ps, ⟨g0, t0, cs0, f0, p0, q0, hg0, ht0, hv0, hd0, _, _⟩, _, _⟩ := h
  obtain rfl := Option.some.inj ((show Tryd.prog.globalNamed "mintmark/bounds.places" = some 0 by kernel_rfl).symm.trans hg0)
  obtain rfl := Option.some.inj ((show (Tryd.prog.globals[0]?).map (·.type) = some 69 by kernel_rfl).symm.trans ht0)
  have hs := Frame.says_of 4 69 [.inl .i64, .inl .i64, .inl .i64, .inl .i64, .inl .i64, .inl .i64] _ _ _ (by kernel_rfl) hd0
  obtain ⟨l⟩ := cs0
  match l, hs with
  | [_, _, _, _, _, _], ⟨e0, e1, e2, e3, e4, e5, _⟩ =>
    cases e0; cases e1; cases e2; cases e3; cases e4; cases e5
    exact ⟨by simpa using World.var?_cell hg0 hv0 0, by simpa using World.var?_cell hg0 hv0 1, by simpa using World.var?_cell hg0 hv0 2,
      by simpa using World.var?_cell hg0 hv0 3, by simpa using World.var?_cell hg0 hv0 4, by simpa using World.var?_cell hg0 hv0 5⟩
/-- The door's own heap meets the condition. -/
theorem door_met (os : Os) (args : Array Value) : laidMetH Tryd.prog [("mintmark/bounds.places", Rows.laid_mintmark_bounds_places)] ((World.doorLaid Tryd.prog 400 os).forCall (fun _ _ => 0) ⟨#[], args, []⟩).memory :=
  laidMetH_of_parts3 (fuel := 8) (laidMet_of_run' 8 (by kernel_rfl) (by kernel_rfl)) (by kernel_rfl) (by kernel_rfl)
end Go.Proofs.YtnepnckiciapfaaDoor
