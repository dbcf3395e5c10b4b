/-
  PermTells holds: for every kind, p and q the law returns true and turns nothing that was there, where the tables hold what the program's text lays.
-/
import Derived.Test.YteakjajnaoiilaaDoorPermRef2
import Derived.Test.YteakjajnaoiilaaDoorPermLaid
namespace Go.Proofs.YteakjajnaoiilaaDoor.PermTells
open Go.RowKit Words PermMath

set_option maxHeartbeats 2000000 in
theorem walk (k : Int) (p q : BitVec 64) (w : World) (hT : TabA w ∧ TabL w) :
    Calls Tryd.prog 3 #[.int .i64 k, .int .u64 (p.toNat : Int), .int .u64 (q.toNat : Int)] w fun e w' => e = .returned (.bool true) ∧ Below w.heap.size w w' := by
  obtain ⟨hA, hL⟩ := hT
  have C1 := hide (fun W h => needs_any k W h)
  have C2 := hide (fun W => rneeds_any k W)
  have C3 := hide (fun W => within_any p q W)
  have C4 := hide (fun W => rwithin_any p q W)
  have C5 := hide (fun W h => text_any p W h)
  have C6 := hide (fun W => rtext_any p W)
  have C7 := hide (fun W h => name_any k W h)
  have C8 := hide (fun W => rname_any k W)
  have C9 : Hid (∀ W, TabL W → Calls Tryd.prog 11 #[.int .u64 11] W (Makes (.string ⟨#[114, 119, 82]⟩) W)) := hide (fun W h => by
    have := text_any 11#64 W h
    rw [show textN (11#64).toNat = [114, 119, 82] by decide] at this
    exact this)
  generalize needsI k = N at *
  generalize nameI k = M at *
  generalize withinB p q = V at *
  generalize bytesOf (textN p.toNat) = S at *
  generalize (p.toNat : Int) = P at *
  generalize (q.toNat : Int) = Q at *
  go_enter Tryd.func3, Tryd.ntmps3
  go_wp2_with (first
    | (go_at_call 7; (with_reducible refine (C1.out _ ?_).mono ?_); (refine hA.behind ?_; repeat (first | with_reducible assumption | with_reducible exact Below.refl _ _ | with_reducible refine Below.drew ?_ | with_reducible refine below_drewN ?_ _ | with_reducible refine bw_alloc ?_ _ | (with_reducible refine bw_set ?_ ?_ _; focus (dsimp only; omega)) | (with_reducible apply bw_behind; with_reducible assumption))); rintro e w1 ⟨rfl, rfl⟩)
    | (go_at_call 8; (with_reducible refine (C2.out _).mono ?_); rintro e w1 ⟨rfl, hb1⟩)
    | (go_at_call 9; (with_reducible refine (C3.out _).mono ?_); rintro e w1 ⟨rfl, rfl⟩)
    | (go_at_call 10; (with_reducible refine (C4.out _).mono ?_); rintro e w1 ⟨rfl, rfl⟩)
    | (go_at_call 11; (with_reducible first | refine (C5.out _ ?_).mono ?_ | refine (C9.out _ ?_).mono ?_); (refine hL.behind ?_; repeat (first | with_reducible assumption | with_reducible exact Below.refl _ _ | with_reducible refine Below.drew ?_ | with_reducible refine below_drewN ?_ _ | with_reducible refine bw_alloc ?_ _ | (with_reducible refine bw_set ?_ ?_ _; focus (dsimp only; omega)) | (with_reducible apply bw_behind; with_reducible assumption))); rintro e w1 ⟨rfl, hb1⟩)
    | (go_at_call 12; (with_reducible refine (C6.out _).mono ?_); rintro e w1 ⟨rfl, rfl⟩)
    | (go_at_call 13; (with_reducible refine (C7.out _ ?_).mono ?_); (refine hA.behind ?_; repeat (first | with_reducible assumption | with_reducible exact Below.refl _ _ | with_reducible refine Below.drew ?_ | with_reducible refine below_drewN ?_ _ | with_reducible refine bw_alloc ?_ _ | (with_reducible refine bw_set ?_ ?_ _; focus (dsimp only; omega)) | (with_reducible apply bw_behind; with_reducible assumption))); rintro e w1 ⟨rfl, rfl⟩)
    | (go_at_call 14; (with_reducible refine (C8.out _).mono ?_); rintro e w1 ⟨rfl, hb1⟩))
  all_goals
    go_ret
    refine ⟨by first | rfl | simp, ?_⟩
    repeat (first | with_reducible assumption | with_reducible exact Below.refl _ _ | with_reducible refine Below.drew ?_ | with_reducible refine below_drewN ?_ _ | with_reducible refine bw_alloc ?_ _ | (with_reducible refine bw_set ?_ ?_ _; focus (dsimp only; omega)) | (with_reducible apply bw_behind; with_reducible assumption))

open Go.ChangeShapes Go.WideShapes Go.ChangeAt
theorem walks : Frame.WalksLaid [("mintmark/perm.accesses", Rows.laid_mintmark_perm_accesses), ("mintmark/perm.letters", Rows.laid_mintmark_perm_letters)] 3 Tryd.f3 := by
  intro H enc W base args ds ps hL hval hA
  rw [Tryd.params3] at hA hval
  obtain ⟨v0, v1, v2, d0, d1, d2, p0, p1, p2, hargs, rfl, rfl, h0, h1, h2⟩ := trodAll_three hA
  obtain rfl : args = #[v0, v1, v2] := by cases args; simp_all
  obtain ⟨x0, rfl, rfl, rfl, w0⟩ := open_int Tryd.underlying3 (hval 0 3 v0 rfl rfl) h0
  obtain ⟨x1, rfl, rfl, rfl, w1⟩ := open_int Tryd.underlying22 (hval 1 22 v1 rfl rfl) h1
  obtain ⟨x2, rfl, rfl, rfl, w2⟩ := open_int Tryd.underlying22 (hval 2 22 v2 rfl rfl) h2
  obtain ⟨X1, rfl⟩ := Frame.wf_u64 w1
  obtain ⟨X2, rfl⟩ := Frame.wf_u64 w2
  exact walk x0 X1 X2 W (tabs_of_laid hL)
set_option maxRecDepth 100000 in
theorem said : Rows.PermTellsSaid :=
  OpenClaim.holds_of_wide 3 Tryd.f3 rfl rfl rfl rfl rfl rfl rfl ⟨rfl, rfl, rfl, rfl, rfl⟩ rfl rfl rfl rfl rfl (by kernel_rfl) Tryd.func3 (by kernel_rfl)
    (of_decide_eq_true (by kernel_rfl)) (by unfold Func.isWrapper; first | (rw [if_pos (by decide +kernel)]; kernel_rfl) | (rw [if_neg (by decide +kernel)]; exact ⟨rfl, rfl⟩))
    (fun os started H enc _ => Frame.liftLaid [("mintmark/perm.accesses", Rows.laid_mintmark_perm_accesses), ("mintmark/perm.letters", Rows.laid_mintmark_perm_letters)] os started H enc _ _ Rows.permTellsSpec 4 (by kernel_rfl) Tryd.func3 Tryd.underlying4 (by kernel_rfl) rfl (by kernel_rfl)
      (fun ds h => by match ds, h with | [_, _, _], _ => exact ⟨rfl, rfl, rfl⟩)
      (ChangeSpec.witness_shaped (enc := enc) (C := Tryd.checked) (os := os) (X := fun w _ => laidMetH Tryd.prog [("mintmark/perm.accesses", Rows.laid_mintmark_perm_accesses), ("mintmark/perm.letters", Rows.laid_mintmark_perm_letters)] w) false (World.doorLaid Tryd.prog 400 os) #[.int .i64 0, .int .u64 0, .int .u64 0] 8 rfl (World.shaped_of_RefB (by kernel_rfl) (by kernel_rfl)) (by kernel_rfl) (by kernel_rfl) (by kernel_rfl) (door_met2 os _)) walks)
set_option maxRecDepth 100000 in
theorem proved : Rows.PermTellsCardSaid :=
  Claim7.holds_tied_plain_at .later [] [.data, .data] true _ false said (fun _ h => by cases h) (by kernel_rfl) (fun _ h => by cases h) permTells_row_tie rfl ⟨rfl, rfl⟩ (by kernel_rfl) rfl
    (fun f fn hf hfn => by
      obtain rfl : f = 3 := Option.some.inj ((show Tryd.prog.funcNamed "mintmark/mintmarklaw04.PermTells" = some 3 by kernel_rfl).symm.trans hf) |>.symm
      obtain rfl : fn = Tryd.f3 := (Option.some.inj (Tryd.func3.symm.trans hfn)).symm
      exact ⟨by kernel_rfl, fun j t ht => by
        rw [Tryd.params3] at ht
        have hm : t ∈ [3, 22] := by have := Array.mem_of_getElem? ht; simp at this; simp; omega
        have hall : ([3, 22].all fun u => !Tryd.prog.wantsStandIn u) = true := by kernel_rfl
        exact (show Tryd.prog.wantsStandIn t = false by simpa using List.all_eq_true.1 hall t hm)⟩)
    (by kernel_rfl)
end Go.Proofs.YteakjajnaoiilaaDoor.PermTells
