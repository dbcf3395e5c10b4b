/-
  PermParses holds: for every text the law returns true and turns nothing that was there, where the letters' table holds what the program's text lays.
-/
import Derived.Test.YteakjajnaoiilaaDoorPermRef3
import Derived.Test.YteakjajnaoiilaaDoorPermLaid
import Derived.ChangeMaps5
namespace Go.Proofs.YteakjajnaoiilaaDoor.PermParses
open Go.RowKit Words PermMath

theorem cut (s : ByteArray) (h : 300 < s.size) : (s.extract 0 300).size = 300 := by
  rw [ByteArray.size_extract]; omega

set_option maxHeartbeats 2000000 in
theorem walk (s : ByteArray) (w : World) (hT : TabL w) :
    Calls Tryd.prog 4 #[.string s] w fun e w' => e = .returned (.bool true) ∧ Below w.heap.size w w' := by
  have C3 : Hid (∀ W, TabL W → Calls Tryd.prog 15 #[.string ⟨#[120, 114]⟩] W (Makes (.tuple #[.int .u64 5, .bool true]) W)) := hide (fun W h => parse_any ⟨#[120, 114]⟩ W h)
  obtain ⟨z, hz, hsz⟩ : ∃ z, z = (if 300 < s.size then s.extract 0 300 else s) ∧ z.size ≤ 300 := by
    refine ⟨_, rfl, ?_⟩
    split
    · rename_i h; rw [cut s h]; omega
    · omega
  have c1 := fun W h => parse_any z W h
  have c2 := fun W => rparse_any z (by omega) W
  have hgt : decide (300 < (s.size : Int)) = decide (300 < s.size) := decide_eq_decide.mpr (by omega)
  have LB := ltB_add
  have LS := ltB_self
  by_cases h : 300 < s.size
  · rw [if_pos h] at hz
    have hsl : ∀ W, (Instr.slice 9 (.string s) none (some (.int .i64 300)) none).run Tryd.prog W = .ok (.string z) W := fun W => by
      rw [hz]
      simp [go_sem]
      omega
    have h2 : (300 : Int) < (s.size : Int) := by omega
    clear hz hgt
    cases hR : parseN (numsOf z) 0 with
    | none =>
      simp only [hR, parsedV] at c1 c2
      have C1 := hide c1
      have C2 := hide c2
      clear hR c1 c2
      go_enter Tryd.func4, Tryd.ntmps4
      go_wp2_with (first | (go_at_call 15; (with_reducible first | refine (C1.out _ ?_).mono ?_ | refine (C3.out _ ?_).mono ?_); (refine hT.behind ?_; repeat (first | with_reducible assumption | with_reducible exact Below.refl _ _ | with_reducible refine Below.drew ?_ | with_reducible refine below_drewN ?_ _ | with_reducible refine bw_alloc ?_ _ | (with_reducible refine bw_set ?_ ?_ _; focus (dsimp only; omega)) | (with_reducible apply bw_behind; with_reducible assumption))); rintro e w1 ⟨rfl, hb1⟩) | (go_at_call 16; (with_reducible refine (C2.out _).mono ?_); rintro e w1 ⟨rfl, n1, rfl⟩))
      go_ret
      refine ⟨rfl, ?_⟩
      repeat (first | with_reducible assumption | with_reducible exact Below.refl _ _ | with_reducible refine Below.drew ?_ | with_reducible refine below_drewN ?_ _ | with_reducible refine bw_alloc ?_ _ | (with_reducible refine bw_set ?_ ?_ _; focus (dsimp only; omega)) | (with_reducible apply bw_behind; with_reducible assumption))
    | some a =>
      simp only [hR, parsedV] at c1 c2
      have C1 := hide c1
      have C2 := hide c2
      clear hR c1 c2
      go_enter Tryd.func4, Tryd.ntmps4
      go_wp2_with (first | (go_at_call 15; (with_reducible first | refine (C1.out _ ?_).mono ?_ | refine (C3.out _ ?_).mono ?_); (refine hT.behind ?_; repeat (first | with_reducible assumption | with_reducible exact Below.refl _ _ | with_reducible refine Below.drew ?_ | with_reducible refine below_drewN ?_ _ | with_reducible refine bw_alloc ?_ _ | (with_reducible refine bw_set ?_ ?_ _; focus (dsimp only; omega)) | (with_reducible apply bw_behind; with_reducible assumption))); rintro e w1 ⟨rfl, hb1⟩) | (go_at_call 16; (with_reducible refine (C2.out _).mono ?_); rintro e w1 ⟨rfl, n1, rfl⟩))
      go_ret
      refine ⟨rfl, ?_⟩
      repeat (first | with_reducible assumption | with_reducible exact Below.refl _ _ | with_reducible refine Below.drew ?_ | with_reducible refine below_drewN ?_ _ | with_reducible refine bw_alloc ?_ _ | (with_reducible refine bw_set ?_ ?_ _; focus (dsimp only; omega)) | (with_reducible apply bw_behind; with_reducible assumption))
  · rw [if_neg h] at hz
    subst hz
    have h2 : ¬ (300 : Int) < (z.size : Int) := by omega
    clear hgt
    cases hR : parseN (numsOf z) 0 with
    | none =>
      simp only [hR, parsedV] at c1 c2
      have C1 := hide c1
      have C2 := hide c2
      clear hR c1 c2
      go_enter Tryd.func4, Tryd.ntmps4
      go_wp2_with (first | (go_at_call 15; (with_reducible first | refine (C1.out _ ?_).mono ?_ | refine (C3.out _ ?_).mono ?_); (refine hT.behind ?_; repeat (first | with_reducible assumption | with_reducible exact Below.refl _ _ | with_reducible refine Below.drew ?_ | with_reducible refine below_drewN ?_ _ | with_reducible refine bw_alloc ?_ _ | (with_reducible refine bw_set ?_ ?_ _; focus (dsimp only; omega)) | (with_reducible apply bw_behind; with_reducible assumption))); rintro e w1 ⟨rfl, hb1⟩) | (go_at_call 16; (with_reducible refine (C2.out _).mono ?_); rintro e w1 ⟨rfl, n1, rfl⟩))
      go_ret
      refine ⟨rfl, ?_⟩
      repeat (first | with_reducible assumption | with_reducible exact Below.refl _ _ | with_reducible refine Below.drew ?_ | with_reducible refine below_drewN ?_ _ | with_reducible refine bw_alloc ?_ _ | (with_reducible refine bw_set ?_ ?_ _; focus (dsimp only; omega)) | (with_reducible apply bw_behind; with_reducible assumption))
    | some a =>
      simp only [hR, parsedV] at c1 c2
      have C1 := hide c1
      have C2 := hide c2
      clear hR c1 c2
      go_enter Tryd.func4, Tryd.ntmps4
      go_wp2_with (first | (go_at_call 15; (with_reducible first | refine (C1.out _ ?_).mono ?_ | refine (C3.out _ ?_).mono ?_); (refine hT.behind ?_; repeat (first | with_reducible assumption | with_reducible exact Below.refl _ _ | with_reducible refine Below.drew ?_ | with_reducible refine below_drewN ?_ _ | with_reducible refine bw_alloc ?_ _ | (with_reducible refine bw_set ?_ ?_ _; focus (dsimp only; omega)) | (with_reducible apply bw_behind; with_reducible assumption))); rintro e w1 ⟨rfl, hb1⟩) | (go_at_call 16; (with_reducible refine (C2.out _).mono ?_); rintro e w1 ⟨rfl, n1, rfl⟩))
      go_ret
      refine ⟨rfl, ?_⟩
      repeat (first | with_reducible assumption | with_reducible exact Below.refl _ _ | with_reducible refine Below.drew ?_ | with_reducible refine below_drewN ?_ _ | with_reducible refine bw_alloc ?_ _ | (with_reducible refine bw_set ?_ ?_ _; focus (dsimp only; omega)) | (with_reducible apply bw_behind; with_reducible assumption))

open Go.ChangeShapes Go.WideShapes Go.ChangeAt Go.ChangeMaps
theorem walks : Frame.WalksLaid [("mintmark/perm.letters", Rows.laid_mintmark_perm_letters)] 4 Tryd.f4 := by
  intro H enc W base args ds ps hL hval hA
  rw [Tryd.params4] at hA hval
  obtain ⟨v0, d0, hargs, rfl, h0⟩ := trodAll_one hA
  obtain rfl : args = #[v0] := by cases args; simp_all
  obtain ⟨x0, rfl, rfl, rfl, w0⟩ := open_string Tryd.underlying9 (hval 0 9 v0 rfl rfl) h0
  exact walk x0 W (tabL_of_laid hL)
set_option maxRecDepth 100000 in
theorem said : Rows.PermParsesSaid :=
  OpenClaim.holds_of_wide 4 Tryd.f4 rfl rfl rfl rfl rfl rfl rfl ⟨rfl, rfl, rfl, rfl, rfl⟩ rfl rfl rfl rfl rfl (by kernel_rfl) Tryd.func4 (by kernel_rfl)
    (of_decide_eq_true (by kernel_rfl)) (by unfold Func.isWrapper; first | (rw [if_pos (by decide +kernel)]; kernel_rfl) | (rw [if_neg (by decide +kernel)]; exact ⟨rfl, rfl⟩))
    (fun os started H enc _ => Frame.liftLaid [("mintmark/perm.letters", Rows.laid_mintmark_perm_letters)] os started H enc _ _ Rows.permParsesSpec 4 (by kernel_rfl) Tryd.func4 Tryd.underlying4 (by kernel_rfl) rfl (by kernel_rfl)
      (fun ds h => by match ds, h with | [_], _ => exact ⟨rfl, rfl, rfl⟩)
      (ChangeSpec.witness_shaped (enc := enc) (C := Tryd.checked) (os := os) (X := fun w _ => laidMetH Tryd.prog [("mintmark/perm.letters", Rows.laid_mintmark_perm_letters)] w) false (World.doorLaid Tryd.prog 400 os) #[.string ⟨#[]⟩] 8 rfl (World.shaped_of_RefB (by kernel_rfl) (by kernel_rfl)) (by kernel_rfl) (by kernel_rfl) (by kernel_rfl) (door_met1 os _)) walks)
set_option maxRecDepth 100000 in
theorem proved : Rows.PermParsesCardSaid :=
  Claim7.holds_tied_plain_at .later [] [.data] true _ false said (fun _ h => by cases h) (by kernel_rfl) (fun _ h => by cases h) permParses_row_tie rfl ⟨rfl, rfl⟩ (by kernel_rfl) rfl
    (fun f fn hf hfn => by
      obtain rfl : f = 4 := Option.some.inj ((show Tryd.prog.funcNamed "mintmark/mintmarklaw04.PermParses" = some 4 by kernel_rfl).symm.trans hf) |>.symm
      obtain rfl : fn = Tryd.f4 := (Option.some.inj (Tryd.func4.symm.trans hfn)).symm
      exact ⟨by kernel_rfl, fun j t ht => by
        rw [Tryd.params4] at ht
        have hm : t ∈ [9] := by have := Array.mem_of_getElem? ht; simp at this; simp; omega
        have hall : ([9].all fun u => !Tryd.prog.wantsStandIn u) = true := by kernel_rfl
        exact (show Tryd.prog.wantsStandIn t = false by simpa using List.all_eq_true.1 hall t hm)⟩)
    (by kernel_rfl)
end Go.Proofs.YteakjajnaoiilaaDoor.PermParses
