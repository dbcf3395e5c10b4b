/-
  AluShifts holds: for every two numbers the law returns true and turns nothing that was there.
-/
import Derived.Test.YtholamocbkfcmaaAluOne
import Derived.Test.YtholamocbkfcmaaLawFrame
namespace Go.Proofs.Ytholamocbkfcmaa.AluShifts
open Go.RowKit Words

theorem down_is (a : BitVec 64) (n : Nat) : a <<< n >>> n = a &&& (18446744073709551615#64 >>> n) := by
  refine ext64 fun i hi => ?_
  have e : (18446744073709551615#64).getLsbD (n + i) = decide (n + i < 64) := by
    have : 18446744073709551615#64 = BitVec.allOnes 64 := by decide
    rw [this, BitVec.getLsbD_allOnes]
  simp only [BitVec.getLsbD_ushiftRight, BitVec.getLsbD_shiftLeft, BitVec.getLsbD_and, e]
  have e1 : ¬ n + i < n := by omega
  have e2 : n + i - n = i := by omega
  simp only [e1, e2, decide_false, Bool.not_false, Bool.and_true]
  rw [Bool.and_comm]
theorem ones_bit (j : Nat) : (18446744073709551615#64).getLsbD j = decide (j < 64) := by
  have : 18446744073709551615#64 = BitVec.allOnes 64 := by decide
  rw [this, BitVec.getLsbD_allOnes]
theorem signed_is (a : BitVec 64) (n : Nat) (hn : n < 64) : (a <<< n).sshiftRight n = (a &&& (18446744073709551615#64 >>> n)) ||| (if a.getLsbD (63 - n) then ~~~(18446744073709551615#64 >>> n) else 0) := by
  have hM := ones_bit
  generalize 18446744073709551615#64 = M at hM
  refine ext64 fun i hi => ?_
  have e0 : ¬ 64 ≤ i := by omega
  have e1 : ¬ n + i < n := by omega
  have e2 : n + i - n = i := by omega
  have e4 : ¬ 63 < n := by omega
  have e5 : 63 - n < 64 := by omega
  have e6 : n + 63 - n = 63 := by omega
  simp only [BitVec.getLsbD_or, BitVec.getLsbD_and, BitVec.getLsbD_ushiftRight, hM, BitVec.getLsbD_sshiftRight, BitVec.getLsbD_shiftLeft, BitVec.msb_eq_getLsbD_last, e0, e1, e2, e4, decide_false, Bool.not_false, Bool.true_and]
  by_cases ht : a.getLsbD (63 - n) = true
  · simp only [ht, if_true, BitVec.getLsbD_not, BitVec.getLsbD_ushiftRight, hM, hi, decide_true, Bool.true_and]
    by_cases h : n + i < 64
    · simp only [h, if_true, decide_true, Bool.true_and, Bool.and_true, Bool.not_true, Bool.or_false]
    · simp only [h, if_false, decide_false, Bool.and_false, Bool.not_false, Bool.or_true]
      simp
  · have ht' : a.getLsbD (63 - n) = false := by simpa using ht
    have ez : (0 : BitVec 64).getLsbD i = false := by simp
    simp only [ht', Bool.false_eq_true, if_false, ez, Bool.or_false]
    by_cases h : n + i < 64
    · simp only [h, if_true, decide_true, Bool.true_and, Bool.and_true]
    · simp only [h, if_false, decide_false, Bool.and_false]
theorem test_is (a : BitVec 64) (k : Nat) : (bits .and .u64 ((a.toNat : Int) / 2 ^ k) 1 == 1) = a.getLsbD k := by
  have h := and_bv (a >>> k) 1#64
  rw [← shr_bv] at h
  have e1 : ((1#64).toNat : Int) = 1 := rfl
  rw [e1] at h
  rw [h]
  have h2 : (a >>> k) &&& 1#64 = if a.getLsbD k then 1#64 else 0 := by
    refine ext64 fun i hi => ?_
    simp only [BitVec.getLsbD_and, BitVec.getLsbD_ushiftRight, BitVec.getLsbD_one]
    by_cases h0 : i = 0
    · subst h0; cases a.getLsbD k <;> simp_all
    · cases a.getLsbD k <;> simp [h0]
  rw [h2]
  cases a.getLsbD k <;> rfl
theorem not_is (m : BitVec 64) : bits .xor .u64 IntKind.u64.max (m.toNat : Int) = ((~~~m).toNat : Int) := by
  have h := xor_bv (BitVec.allOnes 64) m
  rw [BitVec.allOnes_xor] at h
  exact h
theorem or_zero (m : BitVec 64) : bits .or .u64 (m.toNat : Int) 0 = (m.toNat : Int) := by
  have h := or_bv m 0
  simpa using h

set_option maxRecDepth 100000 in
set_option maxHeartbeats 4000000 in
theorem walk (a b : BitVec 64) (w : World) : Calls Try.prog 4 #[.int .u64 (a.toNat : Int), .int .u64 (b.toNat : Int)] w (Makes (.bool true) w) := by
  obtain ⟨n, hn⟩ : ∃ n, b.toNat % 64 = n := ⟨_, rfl⟩
  have hn1 : n < 64 := by omega
  have hlt : (b.toNat : Int) % 64 < 64 := by omega
  have c33 := do_33 a b
  have c37 := do_37 (a <<< (b.toNat % 64)) b
  have c38 := do_38 (a <<< (b.toNat % 64)) b
  have c31 := do_31 a b
  have c32 := do_32 (a + b) b
  have o1 := one_any
  rw [hn] at c33 c37 c38
  have e1 := down_is a n
  have e2 := signed_is a n hn1
  have hT := test_is a (63 - n)
  have hM : (18446744073709551615 : Int) / 2 ^ n = ((18446744073709551615#64 >>> n).toNat : Int) := shr_bv 18446744073709551615#64 n
  have hA := and_bv a (18446744073709551615#64 >>> n)
  have hX := not_is (18446744073709551615#64 >>> n)
  have hZ : a + b - b = a := BitVec.add_sub_cancel a b
  rw [hZ] at c32
  clear hZ
  generalize 18446744073709551615#64 >>> n = M at *
  have hO := or_bv (a &&& M) (~~~M)
  have hO0 := or_zero (a &&& M)
  generalize ~~~M = NM at *
  rw [e1] at c37
  rw [e2] at c38
  clear e1 e2
  generalize a &&& M = D at *
  generalize a <<< n = V at *
  generalize a + b = S at *
  generalize a.getLsbD (63 - n) = t at *
  generalize hg : (D ||| if t then NM else 0) = G at *
  have hsg : IntKind.u64.signed = false := rfl
  cases t
  · have hg' : G = D := by rw [← hg]; simp
    clear hg hO hX
    subst hg'
    have Cc33 := hide c33
    have Cc37 := hide c37
    have Cc38 := hide c38
    have Cc31 := hide c31
    have Cc32 := hide c32
    have Co1 := hide o1
    clear c33 c37 c38 c31 c32 o1
    go_enter Try.func4, Try.ntmps4
    go_wp2_with (first | (go_at_call 7; (with_reducible first | refine (Cc33.out _).mono ?_ | refine (Cc37.out _).mono ?_ | refine (Cc38.out _).mono ?_ | refine (Cc31.out _).mono ?_ | refine (Cc32.out _).mono ?_); rintro e w2 ⟨rfl, hb2⟩) | (go_at_call 8; (with_reducible first | refine (Co1.out _).mono ?_); rintro e w3 ⟨rfl, hb3⟩))
    refine bodyPost_ret (v := .bool true) (by simp (maxDischargeDepth := 4) [results, Try.results4, go_sem, *]) rfl ?_
    refine ⟨rfl, ?_⟩
    repeat (first | with_reducible assumption | with_reducible exact Below.refl _ _ | with_reducible refine Below.drew ?_ | with_reducible refine below_drewN ?_ _ | with_reducible refine bw_alloc ?_ _ | (with_reducible refine bw_set ?_ ?_ _; focus (dsimp only; omega)) | (with_reducible apply bw_behind; with_reducible assumption))
  · have hg' : D ||| NM = G := by rw [← hg]; simp
    clear hg hO0
    rw [hg'] at hO
    clear hg'
    have Cc33 := hide c33
    have Cc37 := hide c37
    have Cc38 := hide c38
    have Cc31 := hide c31
    have Cc32 := hide c32
    have Co1 := hide o1
    clear c33 c37 c38 c31 c32 o1
    go_enter Try.func4, Try.ntmps4
    go_wp2_with (first | (go_at_call 7; (with_reducible first | refine (Cc33.out _).mono ?_ | refine (Cc37.out _).mono ?_ | refine (Cc38.out _).mono ?_ | refine (Cc31.out _).mono ?_ | refine (Cc32.out _).mono ?_); rintro e w2 ⟨rfl, hb2⟩) | (go_at_call 8; (with_reducible first | refine (Co1.out _).mono ?_); rintro e w3 ⟨rfl, hb3⟩))
    refine bodyPost_ret (v := .bool true) (by simp (maxDischargeDepth := 4) [results, Try.results4, go_sem, *]) rfl ?_
    refine ⟨rfl, ?_⟩
    repeat (first | with_reducible assumption | with_reducible exact Below.refl _ _ | with_reducible refine Below.drew ?_ | with_reducible refine below_drewN ?_ _ | with_reducible refine bw_alloc ?_ _ | (with_reducible refine bw_set ?_ ?_ _; focus (dsimp only; omega)) | (with_reducible apply bw_behind; with_reducible assumption))
open Go.ChangeShapes Go.WideShapes Go.ChangeAt
theorem walks : Frame.Walks 4 Try.f4 := by
  intro H enc W base args ds ps hval hA
  rw [Try.params4] at hA hval
  obtain ⟨v0, v1, d0, d1, p0, p1, hargs, rfl, rfl, h0, h1⟩ := trodAll_two hA
  obtain rfl : args = #[v0, v1] := by cases args; simp_all
  obtain ⟨x0, rfl, rfl, rfl, w0⟩ := open_int Try.underlying22 (hval 0 22 v0 rfl rfl) h0
  obtain ⟨x1, rfl, rfl, rfl, w1⟩ := open_int Try.underlying22 (hval 1 22 v1 rfl rfl) h1
  obtain ⟨X0, rfl⟩ := Frame.wf_u64 w0
  obtain ⟨X1, rfl⟩ := Frame.wf_u64 w1
  exact walk X0 X1 W
set_option maxRecDepth 100000 in
theorem proved : Rows.AluShiftsSaid :=
  OpenClaim.holds_of_wide 4 Try.f4 rfl rfl rfl rfl rfl rfl rfl ⟨rfl, rfl, rfl, rfl, rfl⟩ rfl rfl rfl rfl rfl (by kernel_rfl) Try.func4 (by kernel_rfl)
    (of_decide_eq_true (by kernel_rfl)) (by unfold Func.isWrapper; first | (rw [if_pos (by decide +kernel)]; kernel_rfl) | (rw [if_neg (by decide +kernel)]; exact ⟨rfl, rfl⟩))
    (fun os started H enc _ => Frame.lift os started H enc _ _ Rows.aluShiftsSpec 4 (by kernel_rfl) Try.func4 Try.underlying4 (by kernel_rfl) rfl (by kernel_rfl)
      (fun ds h => by match ds, h with | [_, _], _ => exact ⟨rfl, rfl, rfl⟩)
      (ChangeSpec.witness6 (enc := enc) (C := Try.checked) false ⟨#[], #[.int .u64 0, .int .u64 0], []⟩ 8 (by kernel_rfl) (by kernel_rfl) (by kernel_rfl) (by kernel_rfl)) walks)
end Go.Proofs.Ytholamocbkfcmaa.AluShifts
