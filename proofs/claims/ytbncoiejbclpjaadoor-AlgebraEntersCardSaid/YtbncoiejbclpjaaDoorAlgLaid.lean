/-
  The two tables (what each access needs, and the fields' places) hold what the program's text lays: from the row's condition to the cells; and a world that meets it.
-/
import Derived.Test.YtbncoiejbclpjaaDoorTabLaid03
import Derived.Test.YtbncoiejbclpjaaDoorAlgLaw
namespace Go.Proofs.YtbncoiejbclpjaaDoor
open Go.RowKit PermMath

theorem bytes_eq {s : ByteArray} {l : List UInt8} (h : s.data.toList = l) : s = ⟨l.toArray⟩ := by
  cases s with | mk d => cases d with | mk x => simp at h; rw [h]
theorem accs_cells {W : World} {cs : Array Value} (hv : W.var? Tryd.prog "mintmark/perm.accesses" = some cs) (hg : Tryd.prog.globalNamed "mintmark/perm.accesses" = some 0)
    (hs : Frame.Says [.int .u64 4, .string [102, 101, 116, 99, 104], .int .u64 1, .string [114, 101, 97, 100], .int .u64 2, .string [119, 114, 105, 116, 101], .int .u64 9, .string [114, 101, 97, 100, 99, 97, 112], .int .u64 18, .string [119, 114, 105, 116, 101, 99, 97, 112]] cs.toList) : TabA W := by
  obtain ⟨l⟩ := cs
  match l, hs with
  | [_, _, _, _, _, _, _, _, _, _], ⟨e0, ⟨s1, rfl, e1⟩, e2, ⟨s3, rfl, e3⟩, e4, ⟨s5, rfl, e5⟩, e6, ⟨s7, rfl, e7⟩, e8, ⟨s9, rfl, e9⟩, _⟩ =>
    cases e0; obtain rfl := bytes_eq e1; cases e2; obtain rfl := bytes_eq e3; cases e4; obtain rfl := bytes_eq e5; cases e6; obtain rfl := bytes_eq e7; cases e8; obtain rfl := bytes_eq e9
    exact ⟨by simpa using World.var?_cell hg hv 0, (World.var?_cell hg hv 1).trans rfl, by simpa using World.var?_cell hg hv 2, (World.var?_cell hg hv 3).trans rfl, by simpa using World.var?_cell hg hv 4, (World.var?_cell hg hv 5).trans rfl, by simpa using World.var?_cell hg hv 6, (World.var?_cell hg hv 7).trans rfl, by simpa using World.var?_cell hg hv 8, (World.var?_cell hg hv 9).trans rfl⟩
theorem both_of_laid {W : World} (h : laidMetH Tryd.prog [("mintmark/perm.accesses", Rows.laid_mintmark_perm_accesses), ("mintmark/bounds.places", Rows.laid_mintmark_bounds_places)] W) : Tabs W := by
  rw [MakeChecks.laidMetH_plain _ _ _ (by kernel_rfl)] at h
  obtain ⟨ps, ⟨g0, t0, cs0, f0, p0, q0, hg0, ht0, hv0, hd0, ⟨g1, t1, cs1, f1, p1, q1, hg1, ht1, hv1, hd1, _, _⟩, _⟩, _, _⟩ := h
  obtain rfl := Option.some.inj ((show Tryd.prog.globalNamed "mintmark/perm.accesses" = some 0 by kernel_rfl).symm.trans hg0)
  obtain rfl := Option.some.inj ((show (Tryd.prog.globals[0]?).map (·.type) = some 113 by kernel_rfl).symm.trans ht0)
  have hs0 := Frame.says_of 4 113 [.inl .u64, .inr true, .inl .u64, .inr true, .inl .u64, .inr true, .inl .u64, .inr true, .inl .u64, .inr true] _ _ _ (by kernel_rfl) hd0
  obtain rfl := Option.some.inj ((show Tryd.prog.globalNamed "mintmark/bounds.places" = some 1 by kernel_rfl).symm.trans hg1)
  obtain rfl := Option.some.inj ((show (Tryd.prog.globals[1]?).map (·.type) = some 126 by kernel_rfl).symm.trans ht1)
  have hs := Frame.says_of 4 126 [.inl .i64, .inl .i64, .inl .i64, .inl .i64, .inl .i64, .inl .i64] _ _ _ (by kernel_rfl) hd1
  refine ⟨?_, accs_cells hv0 hg0 hs0⟩
  obtain ⟨l⟩ := cs1
  match l, hs with
  | [_, _, _, _, _, _], ⟨e0, e1, e2, e3, e4, e5, _⟩ =>
    cases e0; cases e1; cases e2; cases e3; cases e4; cases e5
    exact ⟨by simpa using World.var?_cell hg1 hv1 0, by simpa using World.var?_cell hg1 hv1 1, by simpa using World.var?_cell hg1 hv1 2,
      by simpa using World.var?_cell hg1 hv1 3, by simpa using World.var?_cell hg1 hv1 4, by simpa using World.var?_cell hg1 hv1 5⟩
/-- The door's own heap meets the condition. -/
theorem both_met (os : Os) (args : Array Value) : laidMetH Tryd.prog [("mintmark/perm.accesses", Rows.laid_mintmark_perm_accesses), ("mintmark/bounds.places", Rows.laid_mintmark_bounds_places)] ((World.doorLaid Tryd.prog 400 os).forCall (fun _ _ => 0) ⟨#[], args, []⟩).memory :=
  laidMetH_of_parts3 (fuel := 8) (laidMet_of_run' 8 (by kernel_rfl) (by kernel_rfl)) (by kernel_rfl) (by kernel_rfl)
end Go.Proofs.YtbncoiejbclpjaaDoor
