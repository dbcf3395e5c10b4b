/-
  What Do answers at each instruction's number.
-/
import Derived.Test.YtholamocbkfcmaaDoorAlu1
namespace Go.Proofs.YtholamocbkfcmaaDoor
open Go.RowKit Words

set_option maxHeartbeats 1000000 in
theorem operation_31 : ∀ w, Calls Tryd.prog 18 #[.int .i64 31] w (Quiet (.func (.func 26) #[] #[]) w) := fun w => by
  go_enter Tryd.func18, Tryd.ntmps18
  go_wp2_with (go_in)
  go_ret
  exact ⟨rfl, 0, rfl⟩

set_option maxHeartbeats 1000000 in
theorem do_31 (a b : BitVec 64) : ∀ w, Calls Tryd.prog 5 #[.int .i64 31, .int .u64 (a.toNat : Int), .int .u64 (b.toNat : Int)] w (Makes (.tuple #[.int .u64 ((a + b).toNat : Int), .bool true]) w) := fun w => by
  have C1 := hide operation_31
  have C2 := hide (op1_any a b)
  have hnil := nil_do (.func 26) #[] #[]
  go_enter Tryd.func5, Tryd.ntmps5
  go_wp2_with (first | (go_at_call 18; (with_reducible refine (C1.out _).mono ?_); rintro e w1 ⟨rfl, n1, rfl⟩) | (go_at_call 26; (with_reducible refine (C2.out _).mono ?_); rintro e w2 ⟨rfl, n2, rfl⟩))
  refine bodyPost_ret (v := .tuple #[.int .u64 ((a + b).toNat : Int), .bool true]) (by simp (maxDischargeDepth := 4) [results, Tryd.results5, go_sem, *]) rfl ?_
  exact ⟨rfl, by first | exact below_drewN (Below.refl _ _) _ | exact below_drewN (below_drewN (Below.refl _ _) _) _⟩

set_option maxHeartbeats 1000000 in
theorem operation_22 : ∀ w, Calls Tryd.prog 18 #[.int .i64 22] w (Quiet (.func (.func 26) #[] #[]) w) := fun w => by
  go_enter Tryd.func18, Tryd.ntmps18
  go_wp2_with (go_in)
  go_ret
  exact ⟨rfl, 0, rfl⟩

set_option maxHeartbeats 1000000 in
theorem do_22 (a b : BitVec 64) : ∀ w, Calls Tryd.prog 5 #[.int .i64 22, .int .u64 (a.toNat : Int), .int .u64 (b.toNat : Int)] w (Makes (.tuple #[.int .u64 ((a + b).toNat : Int), .bool true]) w) := fun w => by
  have C1 := hide operation_22
  have C2 := hide (op1_any a b)
  have hnil := nil_do (.func 26) #[] #[]
  go_enter Tryd.func5, Tryd.ntmps5
  go_wp2_with (first | (go_at_call 18; (with_reducible refine (C1.out _).mono ?_); rintro e w1 ⟨rfl, n1, rfl⟩) | (go_at_call 26; (with_reducible refine (C2.out _).mono ?_); rintro e w2 ⟨rfl, n2, rfl⟩))
  refine bodyPost_ret (v := .tuple #[.int .u64 ((a + b).toNat : Int), .bool true]) (by simp (maxDischargeDepth := 4) [results, Tryd.results5, go_sem, *]) rfl ?_
  exact ⟨rfl, by first | exact below_drewN (Below.refl _ _) _ | exact below_drewN (below_drewN (Below.refl _ _) _) _⟩

set_option maxHeartbeats 1000000 in
theorem operation_32 : ∀ w, Calls Tryd.prog 18 #[.int .i64 32] w (Quiet (.func (.func 27) #[] #[]) w) := fun w => by
  go_enter Tryd.func18, Tryd.ntmps18
  go_wp2_with (go_in)
  go_ret
  exact ⟨rfl, 0, rfl⟩

set_option maxHeartbeats 1000000 in
theorem do_32 (a b : BitVec 64) : ∀ w, Calls Tryd.prog 5 #[.int .i64 32, .int .u64 (a.toNat : Int), .int .u64 (b.toNat : Int)] w (Makes (.tuple #[.int .u64 ((a - b).toNat : Int), .bool true]) w) := fun w => by
  have C1 := hide operation_32
  have C2 := hide (op2_any a b)
  have hnil := nil_do (.func 27) #[] #[]
  go_enter Tryd.func5, Tryd.ntmps5
  go_wp2_with (first | (go_at_call 18; (with_reducible refine (C1.out _).mono ?_); rintro e w1 ⟨rfl, n1, rfl⟩) | (go_at_call 27; (with_reducible refine (C2.out _).mono ?_); rintro e w2 ⟨rfl, n2, rfl⟩))
  refine bodyPost_ret (v := .tuple #[.int .u64 ((a - b).toNat : Int), .bool true]) (by simp (maxDischargeDepth := 4) [results, Tryd.results5, go_sem, *]) rfl ?_
  exact ⟨rfl, by first | exact below_drewN (Below.refl _ _) _ | exact below_drewN (below_drewN (Below.refl _ _) _) _⟩

set_option maxHeartbeats 1000000 in
theorem operation_40 : ∀ w, Calls Tryd.prog 18 #[.int .i64 40] w (Quiet (.func (.func 28) #[] #[]) w) := fun w => by
  go_enter Tryd.func18, Tryd.ntmps18
  go_wp2_with (go_in)
  go_ret
  exact ⟨rfl, 0, rfl⟩

set_option maxHeartbeats 1000000 in
theorem do_40 (a b : BitVec 64) : ∀ w, Calls Tryd.prog 5 #[.int .i64 40, .int .u64 (a.toNat : Int), .int .u64 (b.toNat : Int)] w (Makes (.tuple #[.int .u64 ((a &&& b).toNat : Int), .bool true]) w) := fun w => by
  have C1 := hide operation_40
  have C2 := hide (op3_any a b)
  have hnil := nil_do (.func 28) #[] #[]
  go_enter Tryd.func5, Tryd.ntmps5
  go_wp2_with (first | (go_at_call 18; (with_reducible refine (C1.out _).mono ?_); rintro e w1 ⟨rfl, n1, rfl⟩) | (go_at_call 28; (with_reducible refine (C2.out _).mono ?_); rintro e w2 ⟨rfl, n2, rfl⟩))
  refine bodyPost_ret (v := .tuple #[.int .u64 ((a &&& b).toNat : Int), .bool true]) (by simp (maxDischargeDepth := 4) [results, Tryd.results5, go_sem, *]) rfl ?_
  exact ⟨rfl, by first | exact below_drewN (Below.refl _ _) _ | exact below_drewN (below_drewN (Below.refl _ _) _) _⟩

set_option maxHeartbeats 1000000 in
theorem operation_27 : ∀ w, Calls Tryd.prog 18 #[.int .i64 27] w (Quiet (.func (.func 28) #[] #[]) w) := fun w => by
  go_enter Tryd.func18, Tryd.ntmps18
  go_wp2_with (go_in)
  go_ret
  exact ⟨rfl, 0, rfl⟩

set_option maxHeartbeats 1000000 in
theorem do_27 (a b : BitVec 64) : ∀ w, Calls Tryd.prog 5 #[.int .i64 27, .int .u64 (a.toNat : Int), .int .u64 (b.toNat : Int)] w (Makes (.tuple #[.int .u64 ((a &&& b).toNat : Int), .bool true]) w) := fun w => by
  have C1 := hide operation_27
  have C2 := hide (op3_any a b)
  have hnil := nil_do (.func 28) #[] #[]
  go_enter Tryd.func5, Tryd.ntmps5
  go_wp2_with (first | (go_at_call 18; (with_reducible refine (C1.out _).mono ?_); rintro e w1 ⟨rfl, n1, rfl⟩) | (go_at_call 28; (with_reducible refine (C2.out _).mono ?_); rintro e w2 ⟨rfl, n2, rfl⟩))
  refine bodyPost_ret (v := .tuple #[.int .u64 ((a &&& b).toNat : Int), .bool true]) (by simp (maxDischargeDepth := 4) [results, Tryd.results5, go_sem, *]) rfl ?_
  exact ⟨rfl, by first | exact below_drewN (Below.refl _ _) _ | exact below_drewN (below_drewN (Below.refl _ _) _) _⟩

set_option maxHeartbeats 1000000 in
theorem operation_39 : ∀ w, Calls Tryd.prog 18 #[.int .i64 39] w (Quiet (.func (.func 29) #[] #[]) w) := fun w => by
  go_enter Tryd.func18, Tryd.ntmps18
  go_wp2_with (go_in)
  go_ret
  exact ⟨rfl, 0, rfl⟩

set_option maxHeartbeats 1000000 in
theorem do_39 (a b : BitVec 64) : ∀ w, Calls Tryd.prog 5 #[.int .i64 39, .int .u64 (a.toNat : Int), .int .u64 (b.toNat : Int)] w (Makes (.tuple #[.int .u64 ((a ||| b).toNat : Int), .bool true]) w) := fun w => by
  have C1 := hide operation_39
  have C2 := hide (op4_any a b)
  have hnil := nil_do (.func 29) #[] #[]
  go_enter Tryd.func5, Tryd.ntmps5
  go_wp2_with (first | (go_at_call 18; (with_reducible refine (C1.out _).mono ?_); rintro e w1 ⟨rfl, n1, rfl⟩) | (go_at_call 29; (with_reducible refine (C2.out _).mono ?_); rintro e w2 ⟨rfl, n2, rfl⟩))
  refine bodyPost_ret (v := .tuple #[.int .u64 ((a ||| b).toNat : Int), .bool true]) (by simp (maxDischargeDepth := 4) [results, Tryd.results5, go_sem, *]) rfl ?_
  exact ⟨rfl, by first | exact below_drewN (Below.refl _ _) _ | exact below_drewN (below_drewN (Below.refl _ _) _) _⟩

set_option maxHeartbeats 1000000 in
theorem operation_26 : ∀ w, Calls Tryd.prog 18 #[.int .i64 26] w (Quiet (.func (.func 29) #[] #[]) w) := fun w => by
  go_enter Tryd.func18, Tryd.ntmps18
  go_wp2_with (go_in)
  go_ret
  exact ⟨rfl, 0, rfl⟩

set_option maxHeartbeats 1000000 in
theorem do_26 (a b : BitVec 64) : ∀ w, Calls Tryd.prog 5 #[.int .i64 26, .int .u64 (a.toNat : Int), .int .u64 (b.toNat : Int)] w (Makes (.tuple #[.int .u64 ((a ||| b).toNat : Int), .bool true]) w) := fun w => by
  have C1 := hide operation_26
  have C2 := hide (op4_any a b)
  have hnil := nil_do (.func 29) #[] #[]
  go_enter Tryd.func5, Tryd.ntmps5
  go_wp2_with (first | (go_at_call 18; (with_reducible refine (C1.out _).mono ?_); rintro e w1 ⟨rfl, n1, rfl⟩) | (go_at_call 29; (with_reducible refine (C2.out _).mono ?_); rintro e w2 ⟨rfl, n2, rfl⟩))
  refine bodyPost_ret (v := .tuple #[.int .u64 ((a ||| b).toNat : Int), .bool true]) (by simp (maxDischargeDepth := 4) [results, Tryd.results5, go_sem, *]) rfl ?_
  exact ⟨rfl, by first | exact below_drewN (Below.refl _ _) _ | exact below_drewN (below_drewN (Below.refl _ _) _) _⟩

set_option maxHeartbeats 1000000 in
theorem operation_36 : ∀ w, Calls Tryd.prog 18 #[.int .i64 36] w (Quiet (.func (.func 30) #[] #[]) w) := fun w => by
  go_enter Tryd.func18, Tryd.ntmps18
  go_wp2_with (go_in)
  go_ret
  exact ⟨rfl, 0, rfl⟩

set_option maxHeartbeats 1000000 in
theorem do_36 (a b : BitVec 64) : ∀ w, Calls Tryd.prog 5 #[.int .i64 36, .int .u64 (a.toNat : Int), .int .u64 (b.toNat : Int)] w (Makes (.tuple #[.int .u64 ((a ^^^ b).toNat : Int), .bool true]) w) := fun w => by
  have C1 := hide operation_36
  have C2 := hide (op5_any a b)
  have hnil := nil_do (.func 30) #[] #[]
  go_enter Tryd.func5, Tryd.ntmps5
  go_wp2_with (first | (go_at_call 18; (with_reducible refine (C1.out _).mono ?_); rintro e w1 ⟨rfl, n1, rfl⟩) | (go_at_call 30; (with_reducible refine (C2.out _).mono ?_); rintro e w2 ⟨rfl, n2, rfl⟩))
  refine bodyPost_ret (v := .tuple #[.int .u64 ((a ^^^ b).toNat : Int), .bool true]) (by simp (maxDischargeDepth := 4) [results, Tryd.results5, go_sem, *]) rfl ?_
  exact ⟨rfl, by first | exact below_drewN (Below.refl _ _) _ | exact below_drewN (below_drewN (Below.refl _ _) _) _⟩

set_option maxHeartbeats 1000000 in
theorem operation_25 : ∀ w, Calls Tryd.prog 18 #[.int .i64 25] w (Quiet (.func (.func 30) #[] #[]) w) := fun w => by
  go_enter Tryd.func18, Tryd.ntmps18
  go_wp2_with (go_in)
  go_ret
  exact ⟨rfl, 0, rfl⟩

set_option maxHeartbeats 1000000 in
theorem do_25 (a b : BitVec 64) : ∀ w, Calls Tryd.prog 5 #[.int .i64 25, .int .u64 (a.toNat : Int), .int .u64 (b.toNat : Int)] w (Makes (.tuple #[.int .u64 ((a ^^^ b).toNat : Int), .bool true]) w) := fun w => by
  have C1 := hide operation_25
  have C2 := hide (op5_any a b)
  have hnil := nil_do (.func 30) #[] #[]
  go_enter Tryd.func5, Tryd.ntmps5
  go_wp2_with (first | (go_at_call 18; (with_reducible refine (C1.out _).mono ?_); rintro e w1 ⟨rfl, n1, rfl⟩) | (go_at_call 30; (with_reducible refine (C2.out _).mono ?_); rintro e w2 ⟨rfl, n2, rfl⟩))
  refine bodyPost_ret (v := .tuple #[.int .u64 ((a ^^^ b).toNat : Int), .bool true]) (by simp (maxDischargeDepth := 4) [results, Tryd.results5, go_sem, *]) rfl ?_
  exact ⟨rfl, by first | exact below_drewN (Below.refl _ _) _ | exact below_drewN (below_drewN (Below.refl _ _) _) _⟩

set_option maxHeartbeats 1000000 in
theorem operation_33 : ∀ w, Calls Tryd.prog 18 #[.int .i64 33] w (Quiet (.func (.func 31) #[] #[]) w) := fun w => by
  go_enter Tryd.func18, Tryd.ntmps18
  go_wp2_with (go_in)
  go_ret
  exact ⟨rfl, 0, rfl⟩

set_option maxHeartbeats 1000000 in
theorem do_33 (a b : BitVec 64) : ∀ w, Calls Tryd.prog 5 #[.int .i64 33, .int .u64 (a.toNat : Int), .int .u64 (b.toNat : Int)] w (Makes (.tuple #[.int .u64 ((a <<< (b.toNat % 64)).toNat : Int), .bool true]) w) := fun w => by
  have C1 := hide operation_33
  have C2 := hide (op6_any a b)
  have hnil := nil_do (.func 31) #[] #[]
  go_enter Tryd.func5, Tryd.ntmps5
  go_wp2_with (first | (go_at_call 18; (with_reducible refine (C1.out _).mono ?_); rintro e w1 ⟨rfl, n1, rfl⟩) | (go_at_call 31; (with_reducible refine (C2.out _).mono ?_); rintro e w2 ⟨rfl, n2, rfl⟩))
  refine bodyPost_ret (v := .tuple #[.int .u64 ((a <<< (b.toNat % 64)).toNat : Int), .bool true]) (by simp (maxDischargeDepth := 4) [results, Tryd.results5, go_sem, *]) rfl ?_
  exact ⟨rfl, by first | exact below_drewN (Below.refl _ _) _ | exact below_drewN (below_drewN (Below.refl _ _) _) _⟩

set_option maxHeartbeats 1000000 in
theorem operation_28 : ∀ w, Calls Tryd.prog 18 #[.int .i64 28] w (Quiet (.func (.func 31) #[] #[]) w) := fun w => by
  go_enter Tryd.func18, Tryd.ntmps18
  go_wp2_with (go_in)
  go_ret
  exact ⟨rfl, 0, rfl⟩

set_option maxHeartbeats 1000000 in
theorem do_28 (a b : BitVec 64) : ∀ w, Calls Tryd.prog 5 #[.int .i64 28, .int .u64 (a.toNat : Int), .int .u64 (b.toNat : Int)] w (Makes (.tuple #[.int .u64 ((a <<< (b.toNat % 64)).toNat : Int), .bool true]) w) := fun w => by
  have C1 := hide operation_28
  have C2 := hide (op6_any a b)
  have hnil := nil_do (.func 31) #[] #[]
  go_enter Tryd.func5, Tryd.ntmps5
  go_wp2_with (first | (go_at_call 18; (with_reducible refine (C1.out _).mono ?_); rintro e w1 ⟨rfl, n1, rfl⟩) | (go_at_call 31; (with_reducible refine (C2.out _).mono ?_); rintro e w2 ⟨rfl, n2, rfl⟩))
  refine bodyPost_ret (v := .tuple #[.int .u64 ((a <<< (b.toNat % 64)).toNat : Int), .bool true]) (by simp (maxDischargeDepth := 4) [results, Tryd.results5, go_sem, *]) rfl ?_
  exact ⟨rfl, by first | exact below_drewN (Below.refl _ _) _ | exact below_drewN (below_drewN (Below.refl _ _) _) _⟩

set_option maxHeartbeats 1000000 in
theorem operation_37 : ∀ w, Calls Tryd.prog 18 #[.int .i64 37] w (Quiet (.func (.func 32) #[] #[]) w) := fun w => by
  go_enter Tryd.func18, Tryd.ntmps18
  go_wp2_with (go_in)
  go_ret
  exact ⟨rfl, 0, rfl⟩

set_option maxHeartbeats 1000000 in
theorem do_37 (a b : BitVec 64) : ∀ w, Calls Tryd.prog 5 #[.int .i64 37, .int .u64 (a.toNat : Int), .int .u64 (b.toNat : Int)] w (Makes (.tuple #[.int .u64 ((a >>> (b.toNat % 64)).toNat : Int), .bool true]) w) := fun w => by
  have C1 := hide operation_37
  have C2 := hide (op7_any a b)
  have hnil := nil_do (.func 32) #[] #[]
  go_enter Tryd.func5, Tryd.ntmps5
  go_wp2_with (first | (go_at_call 18; (with_reducible refine (C1.out _).mono ?_); rintro e w1 ⟨rfl, n1, rfl⟩) | (go_at_call 32; (with_reducible refine (C2.out _).mono ?_); rintro e w2 ⟨rfl, n2, rfl⟩))
  refine bodyPost_ret (v := .tuple #[.int .u64 ((a >>> (b.toNat % 64)).toNat : Int), .bool true]) (by simp (maxDischargeDepth := 4) [results, Tryd.results5, go_sem, *]) rfl ?_
  exact ⟨rfl, by first | exact below_drewN (Below.refl _ _) _ | exact below_drewN (below_drewN (Below.refl _ _) _) _⟩

set_option maxHeartbeats 1000000 in
theorem operation_29 : ∀ w, Calls Tryd.prog 18 #[.int .i64 29] w (Quiet (.func (.func 32) #[] #[]) w) := fun w => by
  go_enter Tryd.func18, Tryd.ntmps18
  go_wp2_with (go_in)
  go_ret
  exact ⟨rfl, 0, rfl⟩

set_option maxHeartbeats 1000000 in
theorem do_29 (a b : BitVec 64) : ∀ w, Calls Tryd.prog 5 #[.int .i64 29, .int .u64 (a.toNat : Int), .int .u64 (b.toNat : Int)] w (Makes (.tuple #[.int .u64 ((a >>> (b.toNat % 64)).toNat : Int), .bool true]) w) := fun w => by
  have C1 := hide operation_29
  have C2 := hide (op7_any a b)
  have hnil := nil_do (.func 32) #[] #[]
  go_enter Tryd.func5, Tryd.ntmps5
  go_wp2_with (first | (go_at_call 18; (with_reducible refine (C1.out _).mono ?_); rintro e w1 ⟨rfl, n1, rfl⟩) | (go_at_call 32; (with_reducible refine (C2.out _).mono ?_); rintro e w2 ⟨rfl, n2, rfl⟩))
  refine bodyPost_ret (v := .tuple #[.int .u64 ((a >>> (b.toNat % 64)).toNat : Int), .bool true]) (by simp (maxDischargeDepth := 4) [results, Tryd.results5, go_sem, *]) rfl ?_
  exact ⟨rfl, by first | exact below_drewN (Below.refl _ _) _ | exact below_drewN (below_drewN (Below.refl _ _) _) _⟩

set_option maxHeartbeats 1000000 in
theorem operation_38 : ∀ w, Calls Tryd.prog 18 #[.int .i64 38] w (Quiet (.func (.func 33) #[] #[]) w) := fun w => by
  go_enter Tryd.func18, Tryd.ntmps18
  go_wp2_with (go_in)
  go_ret
  exact ⟨rfl, 0, rfl⟩

set_option maxHeartbeats 1000000 in
theorem do_38 (a b : BitVec 64) : ∀ w, Calls Tryd.prog 5 #[.int .i64 38, .int .u64 (a.toNat : Int), .int .u64 (b.toNat : Int)] w (Makes (.tuple #[.int .u64 ((a.sshiftRight (b.toNat % 64)).toNat : Int), .bool true]) w) := fun w => by
  have C1 := hide operation_38
  have C2 := hide (op8_any a b)
  have hnil := nil_do (.func 33) #[] #[]
  go_enter Tryd.func5, Tryd.ntmps5
  go_wp2_with (first | (go_at_call 18; (with_reducible refine (C1.out _).mono ?_); rintro e w1 ⟨rfl, n1, rfl⟩) | (go_at_call 33; (with_reducible refine (C2.out _).mono ?_); rintro e w2 ⟨rfl, n2, rfl⟩))
  refine bodyPost_ret (v := .tuple #[.int .u64 ((a.sshiftRight (b.toNat % 64)).toNat : Int), .bool true]) (by simp (maxDischargeDepth := 4) [results, Tryd.results5, go_sem, *]) rfl ?_
  exact ⟨rfl, by first | exact below_drewN (Below.refl _ _) _ | exact below_drewN (below_drewN (Below.refl _ _) _) _⟩

set_option maxHeartbeats 1000000 in
theorem operation_30 : ∀ w, Calls Tryd.prog 18 #[.int .i64 30] w (Quiet (.func (.func 33) #[] #[]) w) := fun w => by
  go_enter Tryd.func18, Tryd.ntmps18
  go_wp2_with (go_in)
  go_ret
  exact ⟨rfl, 0, rfl⟩

set_option maxHeartbeats 1000000 in
theorem do_30 (a b : BitVec 64) : ∀ w, Calls Tryd.prog 5 #[.int .i64 30, .int .u64 (a.toNat : Int), .int .u64 (b.toNat : Int)] w (Makes (.tuple #[.int .u64 ((a.sshiftRight (b.toNat % 64)).toNat : Int), .bool true]) w) := fun w => by
  have C1 := hide operation_30
  have C2 := hide (op8_any a b)
  have hnil := nil_do (.func 33) #[] #[]
  go_enter Tryd.func5, Tryd.ntmps5
  go_wp2_with (first | (go_at_call 18; (with_reducible refine (C1.out _).mono ?_); rintro e w1 ⟨rfl, n1, rfl⟩) | (go_at_call 33; (with_reducible refine (C2.out _).mono ?_); rintro e w2 ⟨rfl, n2, rfl⟩))
  refine bodyPost_ret (v := .tuple #[.int .u64 ((a.sshiftRight (b.toNat % 64)).toNat : Int), .bool true]) (by simp (maxDischargeDepth := 4) [results, Tryd.results5, go_sem, *]) rfl ?_
  exact ⟨rfl, by first | exact below_drewN (Below.refl _ _) _ | exact below_drewN (below_drewN (Below.refl _ _) _) _⟩

set_option maxHeartbeats 1000000 in
theorem operation_34 : ∀ w, Calls Tryd.prog 18 #[.int .i64 34] w (Holds1 (.func (.func 43) #[] #[.pointer (some ⟨w.heap.size, 0, none⟩)]) (.func (.func 44) #[] #[]) w) := fun w => by
  go_enter Tryd.func18, Tryd.ntmps18
  go_wp2_with (go_in)
  refine bodyPost_ret (v := .func (.func 43) #[] #[.pointer (some ⟨w.heap.size, 0, none⟩)]) (by simp (maxDischargeDepth := 4) [results, Tryd.results18, go_sem, *]) rfl ?_
  exact ⟨rfl, by simp [go_sem], (Below.refl _ _).alloc (Nat.le_refl _) _⟩

set_option maxHeartbeats 1000000 in
theorem do_34 (a b : BitVec 64) : ∀ w, Calls Tryd.prog 5 #[.int .i64 34, .int .u64 (a.toNat : Int), .int .u64 (b.toNat : Int)] w (Makes (.tuple #[.int .u64 ((oneB (a.slt b)).toNat : Int), .bool true]) w) := fun w => by
  have C1 := hide operation_34
  have C2 := hide (fun n w h => one_less1 a b n w h)
  have hnil := nil_do (.func 43) #[] #[.pointer (some ⟨w.heap.size, 0, none⟩)]
  go_enter Tryd.func5, Tryd.ntmps5
  go_wp2_with (first | (go_at_call 18; (with_reducible refine (C1.out _).mono ?_); rintro e w1 ⟨rfl, hc1, hb1⟩) | (go_at_call 43; (with_reducible refine (C2.out _ _ (by assumption)).mono ?_); rintro e w2 ⟨rfl, n2, rfl⟩))
  refine bodyPost_ret (v := .tuple #[.int .u64 ((oneB (a.slt b)).toNat : Int), .bool true]) (by simp (maxDischargeDepth := 4) [results, Tryd.results5, go_sem, *]) rfl ?_
  exact ⟨rfl, below_drewN hb1 _⟩

set_option maxHeartbeats 1000000 in
theorem operation_23 : ∀ w, Calls Tryd.prog 18 #[.int .i64 23] w (Holds1 (.func (.func 43) #[] #[.pointer (some ⟨w.heap.size, 0, none⟩)]) (.func (.func 44) #[] #[]) w) := fun w => by
  go_enter Tryd.func18, Tryd.ntmps18
  go_wp2_with (go_in)
  refine bodyPost_ret (v := .func (.func 43) #[] #[.pointer (some ⟨w.heap.size, 0, none⟩)]) (by simp (maxDischargeDepth := 4) [results, Tryd.results18, go_sem, *]) rfl ?_
  exact ⟨rfl, by simp [go_sem], (Below.refl _ _).alloc (Nat.le_refl _) _⟩

set_option maxHeartbeats 1000000 in
theorem do_23 (a b : BitVec 64) : ∀ w, Calls Tryd.prog 5 #[.int .i64 23, .int .u64 (a.toNat : Int), .int .u64 (b.toNat : Int)] w (Makes (.tuple #[.int .u64 ((oneB (a.slt b)).toNat : Int), .bool true]) w) := fun w => by
  have C1 := hide operation_23
  have C2 := hide (fun n w h => one_less1 a b n w h)
  have hnil := nil_do (.func 43) #[] #[.pointer (some ⟨w.heap.size, 0, none⟩)]
  go_enter Tryd.func5, Tryd.ntmps5
  go_wp2_with (first | (go_at_call 18; (with_reducible refine (C1.out _).mono ?_); rintro e w1 ⟨rfl, hc1, hb1⟩) | (go_at_call 43; (with_reducible refine (C2.out _ _ (by assumption)).mono ?_); rintro e w2 ⟨rfl, n2, rfl⟩))
  refine bodyPost_ret (v := .tuple #[.int .u64 ((oneB (a.slt b)).toNat : Int), .bool true]) (by simp (maxDischargeDepth := 4) [results, Tryd.results5, go_sem, *]) rfl ?_
  exact ⟨rfl, below_drewN hb1 _⟩

set_option maxHeartbeats 1000000 in
theorem operation_35 : ∀ w, Calls Tryd.prog 18 #[.int .i64 35] w (Holds1 (.func (.func 43) #[] #[.pointer (some ⟨w.heap.size, 0, none⟩)]) (.func (.func 45) #[] #[]) w) := fun w => by
  go_enter Tryd.func18, Tryd.ntmps18
  go_wp2_with (go_in)
  refine bodyPost_ret (v := .func (.func 43) #[] #[.pointer (some ⟨w.heap.size, 0, none⟩)]) (by simp (maxDischargeDepth := 4) [results, Tryd.results18, go_sem, *]) rfl ?_
  exact ⟨rfl, by simp [go_sem], (Below.refl _ _).alloc (Nat.le_refl _) _⟩

set_option maxHeartbeats 1000000 in
theorem do_35 (a b : BitVec 64) : ∀ w, Calls Tryd.prog 5 #[.int .i64 35, .int .u64 (a.toNat : Int), .int .u64 (b.toNat : Int)] w (Makes (.tuple #[.int .u64 ((oneB (a.ult b)).toNat : Int), .bool true]) w) := fun w => by
  have C1 := hide operation_35
  have C2 := hide (fun n w h => one_less2 a b n w h)
  have hnil := nil_do (.func 43) #[] #[.pointer (some ⟨w.heap.size, 0, none⟩)]
  go_enter Tryd.func5, Tryd.ntmps5
  go_wp2_with (first | (go_at_call 18; (with_reducible refine (C1.out _).mono ?_); rintro e w1 ⟨rfl, hc1, hb1⟩) | (go_at_call 43; (with_reducible refine (C2.out _ _ (by assumption)).mono ?_); rintro e w2 ⟨rfl, n2, rfl⟩))
  refine bodyPost_ret (v := .tuple #[.int .u64 ((oneB (a.ult b)).toNat : Int), .bool true]) (by simp (maxDischargeDepth := 4) [results, Tryd.results5, go_sem, *]) rfl ?_
  exact ⟨rfl, below_drewN hb1 _⟩

set_option maxHeartbeats 1000000 in
theorem operation_24 : ∀ w, Calls Tryd.prog 18 #[.int .i64 24] w (Holds1 (.func (.func 43) #[] #[.pointer (some ⟨w.heap.size, 0, none⟩)]) (.func (.func 45) #[] #[]) w) := fun w => by
  go_enter Tryd.func18, Tryd.ntmps18
  go_wp2_with (go_in)
  refine bodyPost_ret (v := .func (.func 43) #[] #[.pointer (some ⟨w.heap.size, 0, none⟩)]) (by simp (maxDischargeDepth := 4) [results, Tryd.results18, go_sem, *]) rfl ?_
  exact ⟨rfl, by simp [go_sem], (Below.refl _ _).alloc (Nat.le_refl _) _⟩

set_option maxHeartbeats 1000000 in
theorem do_24 (a b : BitVec 64) : ∀ w, Calls Tryd.prog 5 #[.int .i64 24, .int .u64 (a.toNat : Int), .int .u64 (b.toNat : Int)] w (Makes (.tuple #[.int .u64 ((oneB (a.ult b)).toNat : Int), .bool true]) w) := fun w => by
  have C1 := hide operation_24
  have C2 := hide (fun n w h => one_less2 a b n w h)
  have hnil := nil_do (.func 43) #[] #[.pointer (some ⟨w.heap.size, 0, none⟩)]
  go_enter Tryd.func5, Tryd.ntmps5
  go_wp2_with (first | (go_at_call 18; (with_reducible refine (C1.out _).mono ?_); rintro e w1 ⟨rfl, hc1, hb1⟩) | (go_at_call 43; (with_reducible refine (C2.out _ _ (by assumption)).mono ?_); rintro e w2 ⟨rfl, n2, rfl⟩))
  refine bodyPost_ret (v := .tuple #[.int .u64 ((oneB (a.ult b)).toNat : Int), .bool true]) (by simp (maxDischargeDepth := 4) [results, Tryd.results5, go_sem, *]) rfl ?_
  exact ⟨rfl, below_drewN hb1 _⟩
end Go.Proofs.YtholamocbkfcmaaDoor
