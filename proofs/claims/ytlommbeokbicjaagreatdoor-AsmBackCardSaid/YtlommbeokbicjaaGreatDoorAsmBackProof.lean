/-
  AsmBack holds: for every list of instructions the law returns true, and turns nothing that was there.
-/
import Derived.Test.YtlommbeokbicjaaGreatDoorAsmBackWalk
import Derived.Test.YtlommbeokbicjaaGreatDoorLawFrame
import Derived.Test.YtlommbeokbicjaaGreatDoorTie
import Derived.Test.YtlommbeokbicjaaGreatDoorCards
import Derived.Test.YtlommbeokbicjaaGreatDoorDoorShaped
namespace Go.Proofs.YtlommbeokbicjaaGreatDoor.AsmBack
open Go.RowKit InstMath AsmMath
open Go.Lib (itoa)

theorem walk (l : List InD) (v : Value) (w : World) (hG : G w) (h : IsIns w l v) : Calls Tryz.prog 3 #[v] w (Makes (.bool true) w) := by
  obtain ⟨hok, h⟩ := h
  rcases h with ⟨rfl, s, c, rfl⟩ | ⟨b, off, cap, rfl, hc, hl⟩
  · exact back_le [] s c hok w hG (by simp) (fun k d hd => by simp at hd)
  · by_cases h100 : l.length ≤ 100
    · exact back_le l _ cap hok w hG h100 (fun k d hd => ⟨b, off, rfl, fun j v hv => hl k d j v hd hv⟩)
    · refine back_gt (l.take 100) b off l.length cap (fun d hd => hok d (List.mem_of_mem_take hd)) w hG (by rw [List.length_take]; omega) (by omega) hc (fun k d hd => ⟨b, off, rfl, fun j v hv => hl k d j v ?_ hv⟩)
      rw [List.getElem?_take] at hd
      split at hd
      · exact hd
      · cases hd
open Go.ChangeShapes Go.WideShapes Go.ChangeAt
set_option maxRecDepth 100000 in
theorem walks : Frame.WalksShaped L9 3 Tryz.f3 := by
  intro H enc W base args ds ps hL hsh hval hA
  rw [Tryz.params3] at hA hval
  obtain ⟨v0, d0, hargs, rfl, h0⟩ := trodAll_one hA
  obtain rfl : args = #[v0] := by cases args; simp_all
  obtain ⟨l0, e0⟩ := open_ins (hval 0 22 v0 rfl rfl) h0
  exact walk l0 v0 W (g_of_laid hL hsh) e0
set_option maxRecDepth 100000 in
theorem said : Rows.AsmBackSaid :=
  OpenClaim.holds_of_wide 3 Tryz.f3 rfl rfl rfl rfl rfl rfl rfl ⟨rfl, rfl, rfl, rfl, rfl⟩ rfl rfl rfl rfl rfl (by kernel_rfl) Tryz.func3 (by kernel_rfl)
    (of_decide_eq_true (by kernel_rfl)) (by unfold Func.isWrapper; first | (rw [if_pos (by decide +kernel)]; kernel_rfl) | (rw [if_neg (by decide +kernel)]; exact ⟨rfl, rfl⟩))
    (fun os started H enc _ => Frame.liftShaped L9 os started H enc _ _ Rows.asmBackSpec 4 (by kernel_rfl) Tryz.func3 Tryz.underlying4 (by kernel_rfl) rfl (by kernel_rfl)
      (fun ds h => by match ds, h with | [_], _ => exact ⟨rfl, rfl, rfl⟩)
      (ChangeSpec.witness_shaped (enc := enc) (C := Tryz.checked) (os := os) (X := fun w _ => laidMetH Tryz.prog L9 w) false (World.laidAll Tryz.prog os L9) #[.slice none 0 0] 8 (World.laidAll_os _ _ _) (lay_shaped os _) (by kernel_rfl) (by kernel_rfl) (by kernel_rfl) (lay_met os _)) walks)
set_option maxRecDepth 100000 in
theorem proved : Rows.AsmBackCardSaid :=
  Claim7.holds_tied_plain_at .later [] [.data, .data, .data, .data, .data, .data, .sentinel, .sentinel, .pinned] true _ true said (fun _ h => by cases h) (by kernel_rfl) (fun _ h => by cases h) asmBack_row_tie rfl ⟨rfl, rfl⟩ (by kernel_rfl) rfl
    (fun f fn hf hfn => by
      obtain rfl : f = 3 := Option.some.inj ((show Tryz.prog.funcNamed "mintmark/mintmarklaw14.AsmBack" = some 3 by kernel_rfl).symm.trans hf) |>.symm
      obtain rfl : fn = Tryz.f3 := (Option.some.inj (Tryz.func3.symm.trans hfn)).symm
      exact ⟨by kernel_rfl, fun j t ht => by
        rw [Tryz.params3] at ht
        have hm : t ∈ [22] := by have := Array.mem_of_getElem? ht; simp at this; simp; first | omega | grind
        have hall : ([22].all fun u => !Tryz.prog.wantsStandIn u) = true := by kernel_rfl
        exact (show Tryz.prog.wantsStandIn t = false by simpa using List.all_eq_true.1 hall t hm)⟩)
    (by kernel_rfl)

end Go.Proofs.YtlommbeokbicjaaGreatDoor.AsmBack
