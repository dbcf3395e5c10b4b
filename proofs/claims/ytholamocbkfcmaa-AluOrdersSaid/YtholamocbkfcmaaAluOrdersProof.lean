/-
  AluOrders holds: for every two numbers the law returns true and turns nothing that was there.
-/
import Derived.Test.YtholamocbkfcmaaAluOne
import Derived.Test.YtholamocbkfcmaaAlu3
import Derived.Test.YtholamocbkfcmaaLawFrame
namespace Go.Proofs.Ytholamocbkfcmaa.AluOrders
open Go.RowKit Words

theorem eq_cases (a b : BitVec 64) : ((a == b) = true ∧ a.slt b = false ∧ b.slt a = false ∧ a.ult b = false ∧ b.ult a = false) ∨
    ((a == b) = false ∧ (a.slt b = true ∧ b.slt a = false ∨ a.slt b = false ∧ b.slt a = true) ∧ (a.ult b = true ∧ b.ult a = false ∨ a.ult b = false ∧ b.ult a = true)) := by
  by_cases h : a = b
  · subst h
    left
    simp [BitVec.slt, BitVec.ult]
  · right
    refine ⟨by simpa using h, ?_, ?_⟩
    · have h2 : a.toInt ≠ b.toInt := fun e => h (BitVec.toInt_inj.1 e)
      simp only [BitVec.slt, decide_eq_true_eq, decide_eq_false_iff_not]
      omega
    · have h2 : a.toNat ≠ b.toNat := fun e => h (BitVec.toNat_inj.1 e)
      simp only [BitVec.ult, decide_eq_true_eq, decide_eq_false_iff_not]
      omega

set_option maxRecDepth 100000 in
set_option maxHeartbeats 4000000 in
theorem walk (a b : BitVec 64) (w : World) : Calls Try.prog 3 #[.int .u64 (a.toNat : Int), .int .u64 (b.toNat : Int)] w (Makes (.bool true) w) := by
  have c5 := takes_5 a b
  have c6 := takes_6 a b
  have c7 := takes_7 a b
  have c8 := takes_8 a b
  have c9 := takes_9 a b
  have c10 := takes_10 a b
  have g7 := takes_7 b a
  have g9 := takes_9 b a
  have d34 := do_34 a b
  have d35 := do_35 a b
  have o1 := one_any
  rcases eq_cases a b with ⟨h1, h2, h3, h4, h5⟩ | ⟨h1, ⟨h2, h3⟩ | ⟨h2, h3⟩, ⟨h4, h5⟩ | ⟨h4, h5⟩⟩
  all_goals
    rw [h1] at c5 c6
    rw [h2] at c7 c8 d34
    rw [h3] at g7
    rw [h4] at c9 c10 d35
    rw [h5] at g9
    simp only [Bool.not_true, Bool.not_false, one_yes, one_no] at c6 c8 c10 d34 d35
    clear h1 h2 h3 h4 h5
    have Cc5 := hide c5
    have Cc6 := hide c6
    have Cc7 := hide c7
    have Cc8 := hide c8
    have Cc9 := hide c9
    have Cc10 := hide c10
    have Cg7 := hide g7
    have Cg9 := hide g9
    have Cd34 := hide d34
    have Cd35 := hide d35
    have Co1 := hide o1
    clear c5 c6 c7 c8 c9 c10 g7 g9 d34 d35 o1
    go_enter Try.func3, Try.ntmps3
    go_wp2_with (first | (go_at_call 6; (with_reducible first | refine (Cc5.out _).mono ?_ | refine (Cc6.out _).mono ?_ | refine (Cc7.out _).mono ?_ | refine (Cc8.out _).mono ?_ | refine (Cc9.out _).mono ?_ | refine (Cc10.out _).mono ?_ | refine (Cg7.out _).mono ?_ | refine (Cg9.out _).mono ?_); rintro e w1 ⟨rfl, hb1⟩) | (go_at_call 7; (with_reducible first | refine (Cd34.out _).mono ?_ | refine (Cd35.out _).mono ?_); rintro e w2 ⟨rfl, hb2⟩) | (go_at_call 8; (with_reducible first | refine (Co1.out _).mono ?_); rintro e w3 ⟨rfl, hb3⟩))
    refine wp_loop_rounds 3 ?_
    rw [rounds_succ]
    go_wp2_with (first | (go_at_call 6; (with_reducible first | refine (Cc5.out _).mono ?_ | refine (Cc6.out _).mono ?_ | refine (Cc7.out _).mono ?_ | refine (Cc8.out _).mono ?_ | refine (Cc9.out _).mono ?_ | refine (Cc10.out _).mono ?_ | refine (Cg7.out _).mono ?_ | refine (Cg9.out _).mono ?_); rintro e w1 ⟨rfl, hb1⟩) | (go_at_call 7; (with_reducible first | refine (Cd34.out _).mono ?_ | refine (Cd35.out _).mono ?_); rintro e w2 ⟨rfl, hb2⟩) | (go_at_call 8; (with_reducible first | refine (Co1.out _).mono ?_); rintro e w3 ⟨rfl, hb3⟩))
    rw [rounds_succ]
    go_wp2_with (first | (go_at_call 6; (with_reducible first | refine (Cc5.out _).mono ?_ | refine (Cc6.out _).mono ?_ | refine (Cc7.out _).mono ?_ | refine (Cc8.out _).mono ?_ | refine (Cc9.out _).mono ?_ | refine (Cc10.out _).mono ?_ | refine (Cg7.out _).mono ?_ | refine (Cg9.out _).mono ?_); rintro e w1 ⟨rfl, hb1⟩) | (go_at_call 7; (with_reducible first | refine (Cd34.out _).mono ?_ | refine (Cd35.out _).mono ?_); rintro e w2 ⟨rfl, hb2⟩) | (go_at_call 8; (with_reducible first | refine (Co1.out _).mono ?_); rintro e w3 ⟨rfl, hb3⟩))
    rw [rounds_succ]
    go_wp2_with (first | (go_at_call 6; (with_reducible first | refine (Cc5.out _).mono ?_ | refine (Cc6.out _).mono ?_ | refine (Cc7.out _).mono ?_ | refine (Cc8.out _).mono ?_ | refine (Cc9.out _).mono ?_ | refine (Cc10.out _).mono ?_ | refine (Cg7.out _).mono ?_ | refine (Cg9.out _).mono ?_); rintro e w1 ⟨rfl, hb1⟩) | (go_at_call 7; (with_reducible first | refine (Cd34.out _).mono ?_ | refine (Cd35.out _).mono ?_); rintro e w2 ⟨rfl, hb2⟩) | (go_at_call 8; (with_reducible first | refine (Co1.out _).mono ?_); rintro e w3 ⟨rfl, hb3⟩))
    refine bodyPost_ret (v := .bool true) (by simp (maxDischargeDepth := 4) [results, Try.results3, go_sem, *]) rfl ?_
    refine ⟨rfl, ?_⟩
    repeat (first | with_reducible assumption | with_reducible exact Below.refl _ _ | with_reducible refine Below.drew ?_ | with_reducible refine below_drewN ?_ _ | with_reducible refine bw_alloc ?_ _ | (with_reducible refine bw_set ?_ ?_ _; focus (dsimp only; omega)) | (with_reducible apply bw_behind; with_reducible assumption))
open Go.ChangeShapes Go.WideShapes Go.ChangeAt
theorem walks : Frame.Walks 3 Try.f3 := by
  intro H enc W base args ds ps hval hA
  rw [Try.params3] at hA hval
  obtain ⟨v0, v1, d0, d1, p0, p1, hargs, rfl, rfl, h0, h1⟩ := trodAll_two hA
  obtain rfl : args = #[v0, v1] := by cases args; simp_all
  obtain ⟨x0, rfl, rfl, rfl, w0⟩ := open_int Try.underlying22 (hval 0 22 v0 rfl rfl) h0
  obtain ⟨x1, rfl, rfl, rfl, w1⟩ := open_int Try.underlying22 (hval 1 22 v1 rfl rfl) h1
  obtain ⟨X0, rfl⟩ := Frame.wf_u64 w0
  obtain ⟨X1, rfl⟩ := Frame.wf_u64 w1
  exact walk X0 X1 W
set_option maxRecDepth 100000 in
theorem proved : Rows.AluOrdersSaid :=
  OpenClaim.holds_of_wide 3 Try.f3 rfl rfl rfl rfl rfl rfl rfl ⟨rfl, rfl, rfl, rfl, rfl⟩ rfl rfl rfl rfl rfl (by kernel_rfl) Try.func3 (by kernel_rfl)
    (of_decide_eq_true (by kernel_rfl)) (by unfold Func.isWrapper; first | (rw [if_pos (by decide +kernel)]; kernel_rfl) | (rw [if_neg (by decide +kernel)]; exact ⟨rfl, rfl⟩))
    (fun os started H enc _ => Frame.lift os started H enc _ _ Rows.aluOrdersSpec 4 (by kernel_rfl) Try.func3 Try.underlying4 (by kernel_rfl) rfl (by kernel_rfl)
      (fun ds h => by match ds, h with | [_, _], _ => exact ⟨rfl, rfl, rfl⟩)
      (ChangeSpec.witness6 (enc := enc) (C := Try.checked) false ⟨#[], #[.int .u64 0, .int .u64 0], []⟩ 8 (by kernel_rfl) (by kernel_rfl) (by kernel_rfl) (by kernel_rfl)) walks)
end Go.Proofs.Ytholamocbkfcmaa.AluOrders
