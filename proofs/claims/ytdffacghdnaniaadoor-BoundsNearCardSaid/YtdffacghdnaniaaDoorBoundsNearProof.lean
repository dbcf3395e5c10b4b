/-
  BoundsNear holds: for every a, b and at the law returns true and turns nothing that was there, where the table of places holds what the program's text lays.
-/
import Derived.Test.YtdffacghdnaniaaDoorNearZero
import Derived.Test.YtdffacghdnaniaaDoorNearMore
namespace Go.Proofs.YtdffacghdnaniaaDoor.BoundsNear
open Go.RowKit Words FieldMath BoundsMath

theorem walk (x v u : BitVec 64) (w : World) (hT : Tab w) :
    Calls Tryd.prog 6 #[.int .u64 (x.toNat : Int), .int .u64 (v.toNat : Int), .int .u64 (u.toNat : Int)] w fun e w' => e = .returned (.bool true) ∧ Below w.heap.size w w' := by
  obtain ⟨P, Q, FB, FT, E, D, U, P3, H0, P1, LO, H, HL, M, AT, O, hm⟩ := met x.toNat v.toNat u.toNat
  by_cases h : E = 0
  · subst h
    exact walk0 _ _ _ P Q FB FT D U P3 H0 P1 LO H HL M AT O hm w hT
  · exact walk1 _ _ _ P Q FB FT E D U P3 H0 P1 LO H HL M AT O hm h w hT
open Go.ChangeShapes Go.WideShapes Go.ChangeAt
theorem walks : Frame.WalksLaid [("mintmark/bounds.places", Rows.laid_mintmark_bounds_places)] 6 Tryd.f6 := by
  intro H enc W base args ds ps hL hval hA
  rw [Tryd.params6] at hA hval
  obtain ⟨v0, v1, v2, d0, d1, d2, p0, p1, p2, hargs, rfl, rfl, h0, h1, h2⟩ := trodAll_three hA
  obtain rfl : args = #[v0, v1, v2] := by cases args; simp_all
  obtain ⟨x0, rfl, rfl, rfl, w0⟩ := open_int Tryd.underlying22 (hval 0 22 v0 rfl rfl) h0
  obtain ⟨x1, rfl, rfl, rfl, w1⟩ := open_int Tryd.underlying22 (hval 1 22 v1 rfl rfl) h1
  obtain ⟨x2, rfl, rfl, rfl, w2⟩ := open_int Tryd.underlying22 (hval 2 22 v2 rfl rfl) h2
  obtain ⟨X0, rfl⟩ := Frame.wf_u64 w0
  obtain ⟨X1, rfl⟩ := Frame.wf_u64 w1
  obtain ⟨X2, rfl⟩ := Frame.wf_u64 w2
  exact walk X0 X1 X2 W (tab_of_laid hL)
set_option maxRecDepth 100000 in
theorem said : Rows.BoundsNearSaid :=
  OpenClaim.holds_of_wide 6 Tryd.f6 rfl rfl rfl rfl rfl rfl rfl ⟨rfl, rfl, rfl, rfl, rfl⟩ rfl rfl rfl rfl rfl (by kernel_rfl) Tryd.func6 (by kernel_rfl)
    (of_decide_eq_true (by kernel_rfl)) (by unfold Func.isWrapper; first | (rw [if_pos (by decide +kernel)]; kernel_rfl) | (rw [if_neg (by decide +kernel)]; exact ⟨rfl, rfl⟩))
    (fun os started H enc _ => Frame.liftLaid [("mintmark/bounds.places", Rows.laid_mintmark_bounds_places)] os started H enc _ _ Rows.boundsNearSpec 4 (by kernel_rfl) Tryd.func6 Tryd.underlying4 (by kernel_rfl) rfl (by kernel_rfl)
      (fun ds h => by match ds, h with | [_, _, _], _ => exact ⟨rfl, rfl, rfl⟩)
      (ChangeSpec.witness_shaped (enc := enc) (C := Tryd.checked) (os := os) (X := fun w _ => laidMetH Tryd.prog [("mintmark/bounds.places", Rows.laid_mintmark_bounds_places)] w) false (World.doorLaid Tryd.prog 400 os) #[.int .u64 0, .int .u64 0, .int .u64 0] 8 rfl (World.shaped_of_RefB (by kernel_rfl) (by kernel_rfl)) (by kernel_rfl) (by kernel_rfl) (by kernel_rfl) (door_met os _)) walks)
set_option maxRecDepth 100000 in
theorem proved : Rows.BoundsNearCardSaid :=
  Claim7.holds_tied_plain_at .later [] [.data] true _ false said (fun _ h => by cases h) (by kernel_rfl) (fun _ h => by cases h) boundsNear_row_tie rfl ⟨rfl, rfl⟩ (by kernel_rfl) rfl
    (fun f fn hf hfn => by
      obtain rfl : f = 6 := Option.some.inj ((show Tryd.prog.funcNamed "mintmark/mintmarklaw03.BoundsNear" = some 6 by kernel_rfl).symm.trans hf) |>.symm
      obtain rfl : fn = Tryd.f6 := (Option.some.inj (Tryd.func6.symm.trans hfn)).symm
      exact ⟨by kernel_rfl, fun j t ht => by
        rw [Tryd.params6] at ht
        have hm : t ∈ [22] := by have := Array.mem_of_getElem? ht; simp at this; simp; omega
        have hall : ([22].all fun u => !Tryd.prog.wantsStandIn u) = true := by kernel_rfl
        exact (show Tryd.prog.wantsStandIn t = false by simpa using List.all_eq_true.1 hall t hm)⟩)
    (by kernel_rfl)
end Go.Proofs.YtdffacghdnaniaaDoor.BoundsNear
