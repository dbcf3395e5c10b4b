/-
  The listed variables hold the tables (words, names); an instruction handed in, cell by cell; and the door's own heap meets it.
-/
import Derived.Test.YtlommbeokbicjaaGreatDoorDoorFrame
import Derived.Test.YtlommbeokbicjaaGreatDoorInst1
import Derived.Test.YtlommbeokbicjaaGreatDoorTie
import Derived.Test.YtlommbeokbicjaaGreatDoorCards
namespace Go.Proofs.YtlommbeokbicjaaGreatDoor
open Go.RowKit InstMath

theorem bytes_eq {s : ByteArray} {l : List UInt8} (h : s.data.toList = l) : s = ⟨l.toArray⟩ := by
  cases s with | mk d => cases d with | mk x => simp at h; rw [h]
theorem says_get : ∀ {ls : List Lit} {cs : List Value}, Frame.Says ls cs → ∀ (k : Nat) (l : Lit), ls[k]? = some l → ∃ c, cs[k]? = some c ∧ Frame.Say l c
  | [], _, _, k, l, hl => by simp at hl
  | _ :: _, [], h, _, _, _ => h.elim
  | a :: ls, c :: cs, h, 0, l, hl => by
    obtain rfl := Option.some.inj hl
    exact ⟨c, rfl, h.1⟩
  | a :: ls, c :: cs, h, k + 1, l, hl => says_get h.2 k l hl
def litW : List Lit := (List.range 70).map (fun k => Lit.int .u32 (wrd k : Int))
def litN : List Lit := (List.range 70).map (fun k => Lit.string (nmL.getD k []))
theorem words_cells {W : World} {cs : Array Value} (hv : W.var? Tryz.prog "mintmark/inst.words" = some cs) (hg : Tryz.prog.globalNamed "mintmark/inst.words" = some 0) (hs : Frame.Says litW cs.toList) : TabW W := fun k hk => by
  obtain ⟨c, h1, h2⟩ := says_get hs k (.int .u32 (wrd k : Int)) (by simp [litW, hk])
  have h3 : c = .int .u32 (wrd k : Int) := h2
  rw [← h3]
  have := World.var?_cell hg hv k
  simp at this h1
  rw [this, h1]
theorem names_cells {W : World} {cs : Array Value} (hv : W.var? Tryz.prog "mintmark/inst.names" = some cs) (hg : Tryz.prog.globalNamed "mintmark/inst.names" = some 1) (hs : Frame.Says litN cs.toList) : TabN W := fun k hk => by
  obtain ⟨c, h1, s, h2, h4⟩ := says_get hs k (.string (nmL.getD k [])) (by simp [litN, hk])
  have h3 : c = .string (nameB k) := by rw [h2]; exact congrArg _ (bytes_eq h4)
  rw [← h3]
  have := World.var?_cell hg hv k
  simp at this h1
  rw [this, h1]
set_option maxRecDepth 100000 in
theorem litW_is : Frame.lits (H := Unit) 4 Rows.laid_mintmark_inst_words = litW := by kernel_rfl
set_option maxRecDepth 100000 in
theorem litN_is : Frame.lits (H := Unit) 4 Rows.laid_mintmark_inst_names = litN := by kernel_rfl
set_option maxRecDepth 100000 in
theorem tabW_of_laid {W : World} (h : laidMetH Tryz.prog [("mintmark/inst.words", Rows.laid_mintmark_inst_words)] W) : TabW W := by
  rw [MakeChecks.laidMetH_plain _ _ _ (by kernel_rfl)] at h
  obtain ⟨ps, ⟨g0, t0, cs0, f0, p0, q0, hg0, ht0, hv0, hd0, _, _⟩, _, _⟩ := h
  obtain rfl := Option.some.inj ((show Tryz.prog.globalNamed "mintmark/inst.words" = some 0 by kernel_rfl).symm.trans hg0)
  obtain rfl := Option.some.inj ((show (Tryz.prog.globals[0]?).map (·.type) = some 47 by kernel_rfl).symm.trans ht0)
  have hs0 := Frame.says_of 4 47 [.inl .u32, .inl .u32, .inl .u32, .inl .u32, .inl .u32, .inl .u32, .inl .u32, .inl .u32, .inl .u32, .inl .u32, .inl .u32, .inl .u32, .inl .u32, .inl .u32, .inl .u32, .inl .u32, .inl .u32, .inl .u32, .inl .u32, .inl .u32, .inl .u32, .inl .u32, .inl .u32, .inl .u32, .inl .u32, .inl .u32, .inl .u32, .inl .u32, .inl .u32, .inl .u32, .inl .u32, .inl .u32, .inl .u32, .inl .u32, .inl .u32, .inl .u32, .inl .u32, .inl .u32, .inl .u32, .inl .u32, .inl .u32, .inl .u32, .inl .u32, .inl .u32, .inl .u32, .inl .u32, .inl .u32, .inl .u32, .inl .u32, .inl .u32, .inl .u32, .inl .u32, .inl .u32, .inl .u32, .inl .u32, .inl .u32, .inl .u32, .inl .u32, .inl .u32, .inl .u32, .inl .u32, .inl .u32, .inl .u32, .inl .u32, .inl .u32, .inl .u32, .inl .u32, .inl .u32, .inl .u32, .inl .u32] _ _ _ (by kernel_rfl) hd0
  exact words_cells hv0 hg0 (litW_is ▸ hs0)
set_option maxRecDepth 100000 in
theorem tabs_of_laid {W : World} (h : laidMetH Tryz.prog [("mintmark/inst.names", Rows.laid_mintmark_inst_names), ("mintmark/inst.words", Rows.laid_mintmark_inst_words)] W) : TabN W ∧ TabW W := by
  rw [MakeChecks.laidMetH_plain _ _ _ (by kernel_rfl)] at h
  obtain ⟨ps, ⟨g0, t0, cs0, f0, p0, q0, hg0, ht0, hv0, hd0, ⟨g1, t1, cs1, f1, p1, q1, hg1, ht1, hv1, hd1, _, _⟩, _⟩, _, _⟩ := h
  obtain rfl := Option.some.inj ((show Tryz.prog.globalNamed "mintmark/inst.names" = some 1 by kernel_rfl).symm.trans hg0)
  obtain rfl := Option.some.inj ((show (Tryz.prog.globals[1]?).map (·.type) = some 131 by kernel_rfl).symm.trans ht0)
  have hs0 := Frame.says_of 4 131 [.inr true, .inr true, .inr true, .inr true, .inr true, .inr true, .inr true, .inr true, .inr true, .inr true, .inr true, .inr true, .inr true, .inr true, .inr true, .inr true, .inr true, .inr true, .inr true, .inr true, .inr true, .inr true, .inr true, .inr true, .inr true, .inr true, .inr true, .inr true, .inr true, .inr true, .inr true, .inr true, .inr true, .inr true, .inr true, .inr true, .inr true, .inr true, .inr true, .inr true, .inr true, .inr true, .inr true, .inr true, .inr true, .inr true, .inr true, .inr true, .inr true, .inr true, .inr true, .inr true, .inr true, .inr true, .inr true, .inr true, .inr true, .inr true, .inr true, .inr true, .inr true, .inr true, .inr true, .inr true, .inr true, .inr true, .inr true, .inr true, .inr true, .inr true] _ _ _ (by kernel_rfl) hd0
  obtain rfl := Option.some.inj ((show Tryz.prog.globalNamed "mintmark/inst.words" = some 0 by kernel_rfl).symm.trans hg1)
  obtain rfl := Option.some.inj ((show (Tryz.prog.globals[0]?).map (·.type) = some 47 by kernel_rfl).symm.trans ht1)
  have hs1 := Frame.says_of 4 47 [.inl .u32, .inl .u32, .inl .u32, .inl .u32, .inl .u32, .inl .u32, .inl .u32, .inl .u32, .inl .u32, .inl .u32, .inl .u32, .inl .u32, .inl .u32, .inl .u32, .inl .u32, .inl .u32, .inl .u32, .inl .u32, .inl .u32, .inl .u32, .inl .u32, .inl .u32, .inl .u32, .inl .u32, .inl .u32, .inl .u32, .inl .u32, .inl .u32, .inl .u32, .inl .u32, .inl .u32, .inl .u32, .inl .u32, .inl .u32, .inl .u32, .inl .u32, .inl .u32, .inl .u32, .inl .u32, .inl .u32, .inl .u32, .inl .u32, .inl .u32, .inl .u32, .inl .u32, .inl .u32, .inl .u32, .inl .u32, .inl .u32, .inl .u32, .inl .u32, .inl .u32, .inl .u32, .inl .u32, .inl .u32, .inl .u32, .inl .u32, .inl .u32, .inl .u32, .inl .u32, .inl .u32, .inl .u32, .inl .u32, .inl .u32, .inl .u32, .inl .u32, .inl .u32, .inl .u32, .inl .u32, .inl .u32] _ _ _ (by kernel_rfl) hd1
  exact ⟨names_cells hv0 hg0 (litN_is ▸ hs0), words_cells hv1 hg1 (litW_is ▸ hs1)⟩
set_option maxRecDepth 100000 in
theorem door_met1 (os : Os) (args : Array Value) : laidMetH Tryz.prog [("mintmark/inst.words", Rows.laid_mintmark_inst_words)] ((World.doorLaid Tryz.prog 400 os).forCall (fun _ _ => 0) ⟨#[], args, []⟩).memory :=
  laidMetH_of_parts3 (fuel := 8) (laidMet_of_run' 8 (by kernel_rfl) (by kernel_rfl)) (by kernel_rfl) (by kernel_rfl)
set_option maxRecDepth 100000 in
theorem door_met2 (os : Os) (args : Array Value) : laidMetH Tryz.prog [("mintmark/inst.names", Rows.laid_mintmark_inst_names), ("mintmark/inst.words", Rows.laid_mintmark_inst_words)] ((World.doorLaid Tryz.prog 400 os).forCall (fun _ _ => 0) ⟨#[], args, []⟩).memory :=
  laidMetH_of_parts3 (fuel := 8) (laidMet_of_run' 8 (by kernel_rfl) (by kernel_rfl)) (by kernel_rfl) (by kernel_rfl)
end Go.Proofs.YtlommbeokbicjaaGreatDoor
