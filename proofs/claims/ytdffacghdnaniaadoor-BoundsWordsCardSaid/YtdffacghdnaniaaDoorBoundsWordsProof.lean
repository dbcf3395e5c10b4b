/-
  BoundsWords holds: for every w and v the law returns true and turns nothing that was there, where the table of places holds what the program's text lays.
-/
import Derived.Test.YtdffacghdnaniaaDoorTabLaid03
import Derived.Test.YtdffacghdnaniaaDoorNear03
namespace Go.Proofs.YtdffacghdnaniaaDoor.BoundsWords
open Go.RowKit Words FieldMath BoundsMath

theorem word_of (a : Nat) : wordN (a % 16384) (a / 16384 % 4096) (a / 67108864 % 64) = a % 4294967296 := by unfold wordN; omega
theorem low32 (a : Nat) (ha : a < 18446744073709551616) : bits .and .u64 (a : Int) 4294967295 = ((a % 4294967296 : Nat) : Int) := by
  have h := and_mask a 32 ha (by omega)
  rwa [show ((maskB ((32 : Nat) : Int)).toNat : Int) = 4294967295 by decide] at h
set_option maxHeartbeats 2000000 in
theorem walk (x v : BitVec 64) (w : World) (hT : Tab w) :
    Calls Tryd.prog 8 #[.int .u64 (x.toNat : Int), .int .u64 (v.toNat : Int)] w fun e w' => e = .returned (.bool true) ∧ Below w.heap.size w w' := by
  have hx := x.isLt
  have hv := v.isLt
  generalize x.toNat = a at *
  generalize v.toNat = c at *
  have O1 := hide (fun W hW => of_any a (by omega) W hW)
  have O2 := hide (fun W hW => of_any c (by omega) W hW)
  have w1 := fun W hW => word_any (a % 16384) (a / 16384 % 4096) (a / 67108864 % 64) (by omega) (by omega) (by omega) W hW
  rw [word_of] at w1
  have W1 := hide w1
  have W2 : Hid (∀ W, Tab W → Calls Tryd.prog 17 #[.agg #[.int .u64 1, .int .u64 1, .int .u64 1]] W (Makes (.int .u64 67125249) W)) := hide (fun W hW => word_any 1 1 1 (by omega) (by omega) (by omega) W hW)
  have EQ := eq_fields ((a % 16384 : Nat) : Int) ((a / 16384 % 4096 : Nat) : Int) ((a / 67108864 % 64 : Nat) : Int) ((c % 16384 : Nat) : Int) ((c / 16384 % 4096 : Nat) : Int) ((c / 67108864 % 64 : Nat) : Int)
  have g1 := low32 a (by omega)
  have g2 := low32 c (by omega)
  have g3 : decide (((a % 4294967296 : Nat) : Int) = ((c % 4294967296 : Nat) : Int)) = decide (((a % 16384 : Nat) : Int) = ((c % 16384 : Nat) : Int) ∧ ((a / 16384 % 4096 : Nat) : Int) = ((c / 16384 % 4096 : Nat) : Int) ∧ ((a / 67108864 % 64 : Nat) : Int) = ((c / 67108864 % 64 : Nat) : Int)) := decide_eq_decide.mpr (by omega)
  have g4 : ((a % 16384 : Nat) : Int) < 16384 := by omega
  have g5 : ((a / 16384 % 4096 : Nat) : Int) < 4096 := by omega
  have g6 : ((a / 67108864 % 64 : Nat) : Int) < 64 := by omega
  generalize decide (((a % 16384 : Nat) : Int) = ((c % 16384 : Nat) : Int) ∧ ((a / 16384 % 4096 : Nat) : Int) = ((c / 16384 % 4096 : Nat) : Int) ∧ ((a / 67108864 % 64 : Nat) : Int) = ((c / 67108864 % 64 : Nat) : Int)) = V at *
  generalize ((a % 16384 : Nat) : Int) = B at *
  generalize ((a / 16384 % 4096 : Nat) : Int) = T at *
  generalize ((a / 67108864 % 64 : Nat) : Int) = E at *
  generalize ((c % 16384 : Nat) : Int) = B2 at *
  generalize ((c / 16384 % 4096 : Nat) : Int) = T2 at *
  generalize ((c / 67108864 % 64 : Nat) : Int) = E2 at *
  generalize ((a % 4294967296 : Nat) : Int) = R1 at *
  generalize ((c % 4294967296 : Nat) : Int) = R2 at *
  generalize (a : Int) = A at *
  generalize (c : Int) = C at *
  have g7 : (R1 == R2) = V := by rw [← g3, Bool.eq_iff_iff]; simp
  clear w1 hx hv g3
  have SS := cell_same
  have LB := ltB_add
  have LS := ltB_self
  have LA := alloc_reads
  have LH := alloc_holds
  go_enter Tryd.func8, Tryd.ntmps8
  go_wp2_with (first | (go_at_call 19; (with_reducible first | refine (O1.out _ ?_).mono ?_ | refine (O2.out _ ?_).mono ?_); (refine hT.behind ?_; repeat (first | with_reducible assumption | with_reducible exact Below.refl _ _ | with_reducible refine Below.drew ?_ | with_reducible refine below_drewN ?_ _ | with_reducible refine bw_alloc ?_ _ | (with_reducible refine bw_set ?_ ?_ _; focus (dsimp only; omega)) | (with_reducible apply bw_behind; with_reducible assumption))); rintro e w1 ⟨rfl, hb1⟩; have hr1 := below_reads hb1; have hh1 := below_holds hb1; obtain ⟨m1, hs1⟩ := below_grew hb1) | (go_at_call 17; (with_reducible first | refine (W1.out _ ?_).mono ?_ | refine (W2.out _ ?_).mono ?_); (refine hT.behind ?_; repeat (first | with_reducible assumption | with_reducible exact Below.refl _ _ | with_reducible refine Below.drew ?_ | with_reducible refine below_drewN ?_ _ | with_reducible refine bw_alloc ?_ _ | (with_reducible refine bw_set ?_ ?_ _; focus (dsimp only; omega)) | (with_reducible apply bw_behind; with_reducible assumption))); rintro e w1 ⟨rfl, hb1⟩; have hr1 := below_reads hb1; have hh1 := below_holds hb1; obtain ⟨m1, hs1⟩ := below_grew hb1))
  all_goals
    go_ret
    refine ⟨?_, ?_⟩
    · rfl
    · repeat (first | with_reducible assumption | with_reducible exact Below.refl _ _ | with_reducible refine Below.drew ?_ | with_reducible refine below_drewN ?_ _ | with_reducible refine bw_alloc ?_ _ | (with_reducible refine bw_set ?_ ?_ _; focus (dsimp only; omega)) | (with_reducible apply bw_behind; with_reducible assumption))

open Go.ChangeShapes Go.WideShapes Go.ChangeAt
theorem walks : Frame.WalksLaid [("mintmark/bounds.places", Rows.laid_mintmark_bounds_places)] 8 Tryd.f8 := by
  intro H enc W base args ds ps hL hval hA
  rw [Tryd.params8] at hA hval
  obtain ⟨v0, v1, d0, d1, p0, p1, hargs, rfl, rfl, h0, h1⟩ := trodAll_two hA
  obtain rfl : args = #[v0, v1] := by cases args; simp_all
  obtain ⟨x0, rfl, rfl, rfl, w0⟩ := open_int Tryd.underlying22 (hval 0 22 v0 rfl rfl) h0
  obtain ⟨x1, rfl, rfl, rfl, w1⟩ := open_int Tryd.underlying22 (hval 1 22 v1 rfl rfl) h1
  obtain ⟨X0, rfl⟩ := Frame.wf_u64 w0
  obtain ⟨X1, rfl⟩ := Frame.wf_u64 w1
  exact walk X0 X1 W (tab_of_laid hL)
set_option maxRecDepth 100000 in
theorem said : Rows.BoundsWordsSaid :=
  OpenClaim.holds_of_wide 8 Tryd.f8 rfl rfl rfl rfl rfl rfl rfl ⟨rfl, rfl, rfl, rfl, rfl⟩ rfl rfl rfl rfl rfl (by kernel_rfl) Tryd.func8 (by kernel_rfl)
    (of_decide_eq_true (by kernel_rfl)) (by unfold Func.isWrapper; first | (rw [if_pos (by decide +kernel)]; kernel_rfl) | (rw [if_neg (by decide +kernel)]; exact ⟨rfl, rfl⟩))
    (fun os started H enc _ => Frame.liftLaid [("mintmark/bounds.places", Rows.laid_mintmark_bounds_places)] os started H enc _ _ Rows.boundsWordsSpec 4 (by kernel_rfl) Tryd.func8 Tryd.underlying4 (by kernel_rfl) rfl (by kernel_rfl)
      (fun ds h => by match ds, h with | [_, _], _ => exact ⟨rfl, rfl, rfl⟩)
      (ChangeSpec.witness_shaped (enc := enc) (C := Tryd.checked) (os := os) (X := fun w _ => laidMetH Tryd.prog [("mintmark/bounds.places", Rows.laid_mintmark_bounds_places)] w) false (World.doorLaid Tryd.prog 400 os) #[.int .u64 0, .int .u64 0] 8 rfl (World.shaped_of_RefB (by kernel_rfl) (by kernel_rfl)) (by kernel_rfl) (by kernel_rfl) (by kernel_rfl) (door_met os _)) walks)
set_option maxRecDepth 100000 in
theorem proved : Rows.BoundsWordsCardSaid :=
  Claim7.holds_tied_plain_at .later [] [.data] true _ false said (fun _ h => by cases h) (by kernel_rfl) (fun _ h => by cases h) boundsWords_row_tie rfl ⟨rfl, rfl⟩ (by kernel_rfl) rfl
    (fun f fn hf hfn => by
      obtain rfl : f = 8 := Option.some.inj ((show Tryd.prog.funcNamed "mintmark/mintmarklaw03.BoundsWords" = some 8 by kernel_rfl).symm.trans hf) |>.symm
      obtain rfl : fn = Tryd.f8 := (Option.some.inj (Tryd.func8.symm.trans hfn)).symm
      exact ⟨by kernel_rfl, fun j t ht => by
        rw [Tryd.params8] at ht
        have hm : t ∈ [22] := by have := Array.mem_of_getElem? ht; simp at this; simp; omega
        have hall : ([22].all fun u => !Tryd.prog.wantsStandIn u) = true := by kernel_rfl
        exact (show Tryd.prog.wantsStandIn t = false by simpa using List.all_eq_true.1 hall t hm)⟩)
    (by kernel_rfl)
end Go.Proofs.YtdffacghdnaniaaDoor.BoundsWords
