/-
  The table of the flags' places holds what the program's text lays: from the row's condition to the cells; and a world that meets it.
-/
import Derived.Test.YtkajndonefkegaaDoorDoorFrame
import Derived.Test.YtkajndonefkegaaDoorGPte
import Derived.Test.YtkajndonefkegaaDoorTie
import Derived.Test.YtkajndonefkegaaDoorCards
namespace Go.Proofs.YtkajndonefkegaaDoor
open Go.RowKit

set_option maxRecDepth 100000 in
theorem tab_of_laid {W : World} (h : laidMetH Tryd.prog [("mintmark/pte.places", Rows.laid_mintmark_pte_places)] W) : Tab W := by
  rw [MakeChecks.laidMetH_plain _ _ _ (by kernel_rfl)] at h
  obtain ⟨ps, ⟨g0, t0, cs0, f0, p0, q0, hg0, ht0, hv0, hd0, _, _⟩, _, _⟩ := h
  obtain rfl := Option.some.inj ((show Tryd.prog.globalNamed "mintmark/pte.places" = some 0 by kernel_rfl).symm.trans hg0)
  obtain rfl := Option.some.inj ((show (Tryd.prog.globals[0]?).map (·.type) = some 117 by kernel_rfl).symm.trans ht0)
  have hs := Frame.says_of 4 117 [.inl .i64, .inl .i64, .inl .i64, .inl .i64, .inl .i64, .inl .i64, .inl .i64, .inl .i64, .inl .i64, .inl .i64, .inl .i64, .inl .i64] _ _ _ (by kernel_rfl) hd0
  obtain ⟨l⟩ := cs0
  match l, hs with
  | [_, _, _, _, _, _, _, _, _, _, _, _], ⟨e0, e1, e2, e3, e4, e5, e6, e7, e8, e9, e10, e11, _⟩ =>
    cases e0; cases e1; cases e2; cases e3; cases e4; cases e5; cases e6; cases e7; cases e8; cases e9; cases e10; cases e11
    intro k hk
    match k, hk with
    | 0, _ => simpa [plc] using World.var?_cell hg0 hv0 0
    | 1, _ => simpa [plc] using World.var?_cell hg0 hv0 1
    | 2, _ => simpa [plc] using World.var?_cell hg0 hv0 2
    | 3, _ => simpa [plc] using World.var?_cell hg0 hv0 3
    | 4, _ => simpa [plc] using World.var?_cell hg0 hv0 4
    | 5, _ => simpa [plc] using World.var?_cell hg0 hv0 5
    | 6, _ => simpa [plc] using World.var?_cell hg0 hv0 6
    | 7, _ => simpa [plc] using World.var?_cell hg0 hv0 7
    | 8, _ => simpa [plc] using World.var?_cell hg0 hv0 8
    | 9, _ => simpa [plc] using World.var?_cell hg0 hv0 9
    | 10, _ => simpa [plc] using World.var?_cell hg0 hv0 10
    | 11, _ => simpa [plc] using World.var?_cell hg0 hv0 11
set_option maxRecDepth 100000 in
theorem fits_bool {ks : List Frame.Kd} {cs : List Value} (h : Frame.Fits (.inr false :: ks) cs) : ∃ b l, cs = .bool b :: l ∧ Frame.Fits ks l := by
  cases cs with
  | nil => exact h.elim
  | cons c l =>
    obtain ⟨⟨b, hb⟩, h2⟩ := h
    exact ⟨b, l, by rw [hb], h2⟩
set_option maxRecDepth 100000 in
theorem fits_word {cs : List Value} (h : Frame.Fits [.inl .u64] cs) : ∃ x : BitVec 64, cs = [.int .u64 (x.toNat : Int)] := by
  cases cs with
  | nil => exact h.elim
  | cons c l =>
    obtain ⟨⟨z, hz, hw⟩, h2⟩ := h
    obtain ⟨x, hx⟩ := Frame.wf_u64 hw
    cases l with
    | nil => exact ⟨x, by rw [hz, hx]⟩
    | cons _ _ => exact h2.elim
set_option maxRecDepth 100000 in
/-- The cells of an entry that is handed in. -/
theorem open_ent {cs : List Value} (h : Frame.Fits [.inr false, .inr false, .inr false, .inr false, .inr false, .inr false, .inr false, .inr false, .inr false, .inr false, .inr false, .inr false, .inl .u64] cs) : ∃ (b0 b1 b2 b3 b4 b5 b6 b7 b8 b9 b10 b11 : Bool) (F : BitVec 64), cs = [.bool b0, .bool b1, .bool b2, .bool b3, .bool b4, .bool b5, .bool b6, .bool b7, .bool b8, .bool b9, .bool b10, .bool b11, .int .u64 (F.toNat : Int)] := by
  obtain ⟨b0, l0, e0, h⟩ := fits_bool h
  obtain ⟨b1, l1, e1, h⟩ := fits_bool h
  obtain ⟨b2, l2, e2, h⟩ := fits_bool h
  obtain ⟨b3, l3, e3, h⟩ := fits_bool h
  obtain ⟨b4, l4, e4, h⟩ := fits_bool h
  obtain ⟨b5, l5, e5, h⟩ := fits_bool h
  obtain ⟨b6, l6, e6, h⟩ := fits_bool h
  obtain ⟨b7, l7, e7, h⟩ := fits_bool h
  obtain ⟨b8, l8, e8, h⟩ := fits_bool h
  obtain ⟨b9, l9, e9, h⟩ := fits_bool h
  obtain ⟨b10, l10, e10, h⟩ := fits_bool h
  obtain ⟨b11, l11, e11, h⟩ := fits_bool h
  obtain ⟨F, e12⟩ := fits_word h
  exact ⟨b0, b1, b2, b3, b4, b5, b6, b7, b8, b9, b10, b11, F, by rw [e0, e1, e2, e3, e4, e5, e6, e7, e8, e9, e10, e11, e12]⟩
set_option maxRecDepth 100000 in
/-- The door's own heap meets the condition. -/
theorem door_met (os : Os) (args : Array Value) : laidMetH Tryd.prog [("mintmark/pte.places", Rows.laid_mintmark_pte_places)] ((World.doorLaid Tryd.prog 400 os).forCall (fun _ _ => 0) ⟨#[], args, []⟩).memory :=
  laidMetH_of_parts3 (fuel := 8) (laidMet_of_run' 8 (by kernel_rfl) (by kernel_rfl)) (by kernel_rfl) (by kernel_rfl)
end Go.Proofs.YtkajndonefkegaaDoor
