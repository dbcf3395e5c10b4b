/-
  MmuPlays holds: for every l the law returns true, and turns nothing that was there, where the table of places holds what the program's text lays.
-/
import Derived.Test.YtkajndonefkegaaDoorMmuPlaysWalk
import Derived.Test.YtkajndonefkegaaDoorGArg
set_option maxRecDepth 100000
set_option maxHeartbeats 64000000
namespace Go.Proofs.YtkajndonefkegaaDoor.MmuPlays
open Go.RowKit Words FieldMath PteMath

open Go.ChangeShapes Go.WideShapes Go.ChangeAt
theorem walks : Frame.WalksLaid [("mintmark/pte.places", Rows.laid_mintmark_pte_places)] 3 Tryd.f3 := by
  intro H enc W base args ds ps hL hval hA
  rw [Tryd.params3] at hA hval
  obtain ⟨v0, d0, hargs, rfl, h0⟩ := trodAll_one hA
  obtain rfl : args = #[v0] := by cases args; simp_all
  have e0 := open_acts (hval 0 22 v0 rfl rfl) h0
  obtain ⟨l, hl⟩ := e0
  exact walk v0 l W (tab_of_laid hL) hl
theorem said : Rows.MmuPlaysSaid :=
  OpenClaim.holds_of_wide 3 Tryd.f3 rfl rfl rfl rfl rfl rfl rfl ⟨rfl, rfl, rfl, rfl, rfl⟩ rfl rfl rfl rfl rfl (by kernel_rfl) Tryd.func3 (by kernel_rfl)
    (of_decide_eq_true (by kernel_rfl)) (by unfold Func.isWrapper; first | (rw [if_pos (by decide +kernel)]; kernel_rfl) | (rw [if_neg (by decide +kernel)]; exact ⟨rfl, rfl⟩))
    (fun os started H enc _ => Frame.liftLaid [("mintmark/pte.places", Rows.laid_mintmark_pte_places)] os started H enc _ _ Rows.mmuPlaysSpec 4 (by kernel_rfl) Tryd.func3 Tryd.underlying4 (by kernel_rfl) rfl (by kernel_rfl)
      (fun ds h => by match ds, h with | [_], _ => exact ⟨rfl, rfl, rfl⟩)
      (ChangeSpec.witness_shaped (enc := enc) (C := Tryd.checked) (os := os) (X := fun w _ => laidMetH Tryd.prog [("mintmark/pte.places", Rows.laid_mintmark_pte_places)] w) false (World.doorLaid Tryd.prog 400 os) #[.slice none 0 0] 8 rfl (World.shaped_of_RefB (by kernel_rfl) (by kernel_rfl)) (by kernel_rfl) (by kernel_rfl) (by kernel_rfl) (door_met os _)) walks)
theorem proved : Rows.MmuPlaysCardSaid :=
  Claim7.holds_tied_plain_at .later [] [.data] true _ false said (fun _ h => by cases h) (by kernel_rfl) (fun _ h => by cases h) mmuPlays_row_tie rfl ⟨rfl, rfl⟩ (by kernel_rfl) rfl
    (fun f fn hf hfn => by
      obtain rfl : f = 3 := Option.some.inj ((show Tryd.prog.funcNamed "mintmark/mintmarklaw12.MmuPlays" = some 3 by kernel_rfl).symm.trans hf) |>.symm
      obtain rfl : fn = Tryd.f3 := (Option.some.inj (Tryd.func3.symm.trans hfn)).symm
      exact ⟨by kernel_rfl, fun j t ht => by
        rw [Tryd.params3] at ht
        have hm : t ∈ [22] := by have := Array.mem_of_getElem? ht; simp at this; simp; first | omega | grind
        have hall : ([22].all fun u => !Tryd.prog.wantsStandIn u) = true := by kernel_rfl
        exact (show Tryd.prog.wantsStandIn t = false by simpa using List.all_eq_true.1 hall t hm)⟩)
    (by kernel_rfl)
end Go.Proofs.YtkajndonefkegaaDoor.MmuPlays
