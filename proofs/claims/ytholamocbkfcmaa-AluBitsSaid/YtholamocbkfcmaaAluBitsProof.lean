/-
  AluBits holds: for every two numbers the law returns true and turns nothing that was there.
-/
import Derived.Test.YtholamocbkfcmaaAluOne
import Derived.Test.YtholamocbkfcmaaLawFrame
namespace Go.Proofs.Ytholamocbkfcmaa.AluBits
open Go.RowKit Words

theorem or_is (a b : BitVec 64) : (a &&& b) ||| (a ^^^ b) = a ||| b := by
  refine ext64 fun i hi => ?_
  simp only [BitVec.getLsbD_or, BitVec.getLsbD_and, BitVec.getLsbD_xor]
  cases a.getLsbD i <;> cases b.getLsbD i <;> rfl
theorem none_is (a b : BitVec 64) : (a &&& b) &&& (a ^^^ b) = 0 := by
  refine ext64 fun i hi => ?_
  simp only [BitVec.getLsbD_and, BitVec.getLsbD_xor]
  cases a.getLsbD i <;> cases b.getLsbD i <;> simp
theorem back_is (a b : BitVec 64) : (a ^^^ b) ^^^ b = a := by
  refine ext64 fun i hi => ?_
  simp only [BitVec.getLsbD_xor]
  cases a.getLsbD i <;> cases b.getLsbD i <;> rfl
theorem sum_is (a b : BitVec 64) : (a &&& b) + (a ||| b) = a + b := by
  have h1 : a = (a &&& b) + (a &&& ~~~b) := by
    rw [BitVec.add_eq_or_of_and_eq_zero]
    · refine ext64 fun i hi => ?_
      simp only [BitVec.getLsbD_or, BitVec.getLsbD_and, BitVec.getLsbD_not]
      cases a.getLsbD i <;> cases b.getLsbD i <;> simp [hi]
    · refine ext64 fun i hi => ?_
      simp only [BitVec.getLsbD_and, BitVec.getLsbD_not]
      cases a.getLsbD i <;> cases b.getLsbD i <;> simp
  have h2 : a ||| b = b + (a &&& ~~~b) := by
    rw [BitVec.add_eq_or_of_and_eq_zero]
    · refine ext64 fun i hi => ?_
      simp only [BitVec.getLsbD_or, BitVec.getLsbD_and, BitVec.getLsbD_not]
      cases a.getLsbD i <;> cases b.getLsbD i <;> simp [hi]
    · refine ext64 fun i hi => ?_
      simp only [BitVec.getLsbD_and, BitVec.getLsbD_not]
      cases a.getLsbD i <;> cases b.getLsbD i <;> simp
  calc (a &&& b) + (a ||| b) = (a &&& b) + (b + (a &&& ~~~b)) := by rw [h2]
    _ = ((a &&& b) + (a &&& ~~~b)) + b := by rw [BitVec.add_comm b, BitVec.add_assoc]
    _ = a + b := by rw [← h1]

set_option maxRecDepth 100000 in
set_option maxHeartbeats 4000000 in
theorem walk (a b : BitVec 64) (w : World) : Calls Try.prog 5 #[.int .u64 (a.toNat : Int), .int .u64 (b.toNat : Int)] w (Makes (.bool true) w) := by
  have c40 := do_40 a b
  have c39 := do_39 a b
  have c36 := do_36 a b
  have g36 := do_36 (a ^^^ b) b
  have c31 := do_31 (a &&& b) (a ||| b)
  have g31 := do_31 a b
  have c25 := do_25 a b
  have o1 := one_any
  rw [back_is] at g36
  rw [sum_is] at c31
  have h1 := or_bv (a &&& b) (a ^^^ b)
  have h2 := and_bv (a &&& b) (a ^^^ b)
  rw [or_is] at h1
  rw [none_is] at h2
  generalize a &&& b = K at *
  generalize a ||| b = L at *
  generalize a ^^^ b = X at *
  generalize a + b = S at *
  have Cc40 := hide c40
  have Cc39 := hide c39
  have Cc36 := hide c36
  have Cg36 := hide g36
  have Cc31 := hide c31
  have Cg31 := hide g31
  have Cc25 := hide c25
  have Co1 := hide o1
  clear c40 c39 c36 g36 c31 g31 c25 o1
  go_enter Try.func5, Try.ntmps5
  go_wp2_with (first | (go_at_call 7; (with_reducible first | refine (Cc40.out _).mono ?_ | refine (Cc39.out _).mono ?_ | refine (Cc36.out _).mono ?_ | refine (Cg36.out _).mono ?_ | refine (Cc31.out _).mono ?_ | refine (Cg31.out _).mono ?_ | refine (Cc25.out _).mono ?_); rintro e w2 ⟨rfl, hb2⟩) | (go_at_call 8; (with_reducible first | refine (Co1.out _).mono ?_); rintro e w3 ⟨rfl, hb3⟩))
  refine bodyPost_ret (v := .bool true) (by simp (maxDischargeDepth := 4) [results, Try.results5, go_sem, *]) rfl ?_
  refine ⟨rfl, ?_⟩
  repeat (first | with_reducible assumption | with_reducible exact Below.refl _ _ | with_reducible refine Below.drew ?_ | with_reducible refine below_drewN ?_ _ | with_reducible refine bw_alloc ?_ _ | (with_reducible refine bw_set ?_ ?_ _; focus (dsimp only; omega)) | (with_reducible apply bw_behind; with_reducible assumption))
open Go.ChangeShapes Go.WideShapes Go.ChangeAt
theorem walks : Frame.Walks 5 Try.f5 := by
  intro H enc W base args ds ps hval hA
  rw [Try.params5] at hA hval
  obtain ⟨v0, v1, d0, d1, p0, p1, hargs, rfl, rfl, h0, h1⟩ := trodAll_two hA
  obtain rfl : args = #[v0, v1] := by cases args; simp_all
  obtain ⟨x0, rfl, rfl, rfl, w0⟩ := open_int Try.underlying22 (hval 0 22 v0 rfl rfl) h0
  obtain ⟨x1, rfl, rfl, rfl, w1⟩ := open_int Try.underlying22 (hval 1 22 v1 rfl rfl) h1
  obtain ⟨X0, rfl⟩ := Frame.wf_u64 w0
  obtain ⟨X1, rfl⟩ := Frame.wf_u64 w1
  exact walk X0 X1 W
set_option maxRecDepth 100000 in
theorem proved : Rows.AluBitsSaid :=
  OpenClaim.holds_of_wide 5 Try.f5 rfl rfl rfl rfl rfl rfl rfl ⟨rfl, rfl, rfl, rfl, rfl⟩ rfl rfl rfl rfl rfl (by kernel_rfl) Try.func5 (by kernel_rfl)
    (of_decide_eq_true (by kernel_rfl)) (by unfold Func.isWrapper; first | (rw [if_pos (by decide +kernel)]; kernel_rfl) | (rw [if_neg (by decide +kernel)]; exact ⟨rfl, rfl⟩))
    (fun os started H enc _ => Frame.lift os started H enc _ _ Rows.aluBitsSpec 4 (by kernel_rfl) Try.func5 Try.underlying4 (by kernel_rfl) rfl (by kernel_rfl)
      (fun ds h => by match ds, h with | [_, _], _ => exact ⟨rfl, rfl, rfl⟩)
      (ChangeSpec.witness6 (enc := enc) (C := Try.checked) false ⟨#[], #[.int .u64 0, .int .u64 0], []⟩ 8 (by kernel_rfl) (by kernel_rfl) (by kernel_rfl) (by kernel_rfl)) walks)
end Go.Proofs.Ytholamocbkfcmaa.AluBits
