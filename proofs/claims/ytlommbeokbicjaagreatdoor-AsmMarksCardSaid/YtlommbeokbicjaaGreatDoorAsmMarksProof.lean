/-
  AsmMarks holds: for every two numbers and list the law returns true, and turns nothing that was there.
-/
import Derived.Test.YtlommbeokbicjaaGreatDoorAsmMarksWalk
import Derived.Test.YtlommbeokbicjaaGreatDoorLawFrame
import Derived.Test.YtlommbeokbicjaaGreatDoorTie
import Derived.Test.YtlommbeokbicjaaGreatDoorCards
import Derived.Test.YtlommbeokbicjaaGreatDoorDoorShaped
import Derived.ChangeSlices
namespace Go.Proofs.YtlommbeokbicjaaGreatDoor.AsmMarks
open Go.RowKit InstMath AsmMath
open Go.Lib (itoa)

open Go.ChangeShapes Go.WideShapes Go.ChangeAt
/-- A slice of numbers, as it is handed in. -/
def IsInts (W : World) (l : List Int) (v : Value) : Prop := ∃ sb cap, v = .slice sb l.length cap ∧ ∀ k x, l[k]? = some x → ∃ b off, sb = some ⟨b, off, none⟩ ∧ W.cell? ⟨b, off + k, none⟩ = some (.int .i64 x)
set_option maxRecDepth 100000 in
theorem open_blank {H : Type} {enc : TypeId × Value → H} {W : World} {base : Nat} {v : Value} {d : DataW H} {ps : List MemPlace} (hv : Value.okWide Tryz.prog W .any base 40 v) (h : DataW.Trod enc Tryz.prog W 0 (fun _ => true) true 40 v d ps) : ∃ l, IsInts W l v := by
  obtain ⟨sa, len, cap, rfl⟩ := okWide_slice Tryz.underlying40 hv
  obtain ⟨fuel, hf⟩ := h
  rcases open_ints Tryz.underlying40 Tryz.underlying3 (by kernel_rfl) hf with ⟨hcs, _⟩ | ⟨a, len', cap', zs, hcs, _, hl, _, hz, _, hc, _⟩
  · simp [Value.cells] at hcs
    obtain ⟨rfl, rfl, rfl⟩ := hcs
    exact ⟨[], _, _, rfl, fun k x hx => by simp at hx⟩
  · simp [Value.cells] at hcs
    obtain ⟨rfl, rfl, rfl⟩ := hcs
    have hz' : zs.length = cap := by simpa using hz
    refine ⟨zs.take len, some a, cap, ?_, fun k x hx => ?_⟩
    · rw [List.length_take, hz', Nat.min_eq_left hl]
    · rw [List.getElem?_take] at hx
      split at hx
      · have hk : k < zs.length := (List.getElem?_eq_some_iff.1 hx).1
        have h1 := hc k hk
        have hspot : a.spot = none := by
          have := World.cell?_spot (hc 0 (by omega))
          simpa [Addr.add] using this
        obtain ⟨b, off, spot⟩ := a
        simp only at hspot
        subst hspot
        refine ⟨b, off, rfl, ?_⟩
        have ea : (⟨b, off, none⟩ : Addr).add k = ⟨b, off + k, none⟩ := by unfold Addr.add; split <;> simp_all
        rw [ea, List.getD_eq_getElem?_getD, hx] at h1
        exact h1
      · cases hx
theorem walk (X Z : Int) (l : List Int) (v : Value) (w : World) (hG : G w) (h : IsInts w l v) : Calls Tryz.prog 5 #[.int .i64 X, .int .i64 Z, v] w (Makes (.bool true) w) := by
  obtain ⟨sb, cap, rfl, hc⟩ := h
  exact marks_walk X Z l sb cap w hG hc
open Go.ChangeShapes Go.WideShapes Go.ChangeAt
set_option maxRecDepth 100000 in
theorem walks : Frame.WalksShaped L9 5 Tryz.f5 := by
  intro H enc W base args ds ps hL hsh hval hA
  rw [Tryz.params5] at hA hval
  obtain ⟨v0, v1, v2, d0, d1, d2, p0, p1, p2, hargs, rfl, rfl, h0, h1, h2⟩ := trodAll_three hA
  obtain rfl : args = #[v0, v1, v2] := by cases args; simp_all
  obtain ⟨x0, rfl, rfl, rfl, w0⟩ := open_int Tryz.underlying3 (hval 0 3 v0 rfl rfl) h0
  obtain ⟨x1, rfl, rfl, rfl, w1⟩ := open_int Tryz.underlying3 (hval 1 3 v1 rfl rfl) h1
  obtain ⟨l2, e2⟩ := open_blank (hval 2 40 v2 rfl rfl) h2
  exact walk x0 x1 l2 v2 W (g_of_laid hL hsh) e2
set_option maxRecDepth 100000 in
theorem said : Rows.AsmMarksSaid :=
  OpenClaim.holds_of_wide 5 Tryz.f5 rfl rfl rfl rfl rfl rfl rfl ⟨rfl, rfl, rfl, rfl, rfl⟩ rfl rfl rfl rfl rfl (by kernel_rfl) Tryz.func5 (by kernel_rfl)
    (of_decide_eq_true (by kernel_rfl)) (by unfold Func.isWrapper; first | (rw [if_pos (by decide +kernel)]; kernel_rfl) | (rw [if_neg (by decide +kernel)]; exact ⟨rfl, rfl⟩))
    (fun os started H enc _ => Frame.liftShaped L9 os started H enc _ _ Rows.asmMarksSpec 4 (by kernel_rfl) Tryz.func5 Tryz.underlying4 (by kernel_rfl) rfl (by kernel_rfl)
      (fun ds h => by match ds, h with | [_, _, _], _ => exact ⟨rfl, rfl, rfl⟩)
      (ChangeSpec.witness_shaped (enc := enc) (C := Tryz.checked) (os := os) (X := fun w _ => laidMetH Tryz.prog L9 w) false (World.laidAll Tryz.prog os L9) #[.int .i64 0, .int .i64 0, .slice none 0 0] 8 (World.laidAll_os _ _ _) (lay_shaped os _) (by kernel_rfl) (by kernel_rfl) (by kernel_rfl) (lay_met os _)) walks)
set_option maxRecDepth 100000 in
theorem proved : Rows.AsmMarksCardSaid :=
  Claim7.holds_tied_plain_at .later [] [.data, .data, .data, .data, .data, .data, .sentinel, .sentinel, .pinned] true _ true said (fun _ h => by cases h) (by kernel_rfl) (fun _ h => by cases h) asmMarks_row_tie rfl ⟨rfl, rfl⟩ (by kernel_rfl) rfl
    (fun f fn hf hfn => by
      obtain rfl : f = 5 := Option.some.inj ((show Tryz.prog.funcNamed "mintmark/mintmarklaw14.AsmMarks" = some 5 by kernel_rfl).symm.trans hf) |>.symm
      obtain rfl : fn = Tryz.f5 := (Option.some.inj (Tryz.func5.symm.trans hfn)).symm
      exact ⟨by kernel_rfl, fun j t ht => by
        rw [Tryz.params5] at ht
        have hm : t ∈ [3, 40] := by have := Array.mem_of_getElem? ht; simp at this; simp; first | omega | grind
        have hall : ([3, 40].all fun u => !Tryz.prog.wantsStandIn u) = true := by kernel_rfl
        exact (show Tryz.prog.wantsStandIn t = false by simpa using List.all_eq_true.1 hall t hm)⟩)
    (by kernel_rfl)

end Go.Proofs.YtlommbeokbicjaaGreatDoor.AsmMarks
