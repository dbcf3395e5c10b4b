/-
  What Takes answers at each instruction's number.
-/
import Derived.Test.YtholamocbkfcmaaDoorAlu1
namespace Go.Proofs.YtholamocbkfcmaaDoor
open Go.RowKit Words

set_option maxHeartbeats 1000000 in
theorem condition_5 : ∀ w, Calls Tryd.prog 22 #[.int .i64 5] w (Quiet (.func (.func 36) #[] #[]) w) := fun w => by
  go_enter Tryd.func22, Tryd.ntmps22
  go_wp2_with (go_in)
  go_ret
  exact ⟨rfl, 0, rfl⟩

set_option maxHeartbeats 1000000 in
theorem takes_5 (a b : BitVec 64) : ∀ w, Calls Tryd.prog 7 #[.int .i64 5, .int .u64 (a.toNat : Int), .int .u64 (b.toNat : Int)] w (Makes (.tuple #[.bool (a == b), .bool true]) w) := fun w => by
  have C1 := hide condition_5
  have C2 := hide (cond1_any a b)
  have hnil := nil_takes (.func 36) #[] #[]
  go_enter Tryd.func7, Tryd.ntmps7
  go_wp2_with (first | (go_at_call 22; (with_reducible refine (C1.out _).mono ?_); rintro e w1 ⟨rfl, n1, rfl⟩) | (go_at_call 36; (with_reducible refine (C2.out _).mono ?_); rintro e w2 ⟨rfl, n2, rfl⟩))
  refine bodyPost_ret (v := .tuple #[.bool (a == b), .bool true]) (by simp (maxDischargeDepth := 4) [results, Tryd.results7, go_sem, *]) rfl ?_
  exact ⟨rfl, by first | exact below_drewN (Below.refl _ _) _ | exact below_drewN (below_drewN (Below.refl _ _) _) _⟩

set_option maxHeartbeats 1000000 in
theorem condition_6 : ∀ w, Calls Tryd.prog 22 #[.int .i64 6] w (Quiet (.func (.func 37) #[] #[]) w) := fun w => by
  go_enter Tryd.func22, Tryd.ntmps22
  go_wp2_with (go_in)
  go_ret
  exact ⟨rfl, 0, rfl⟩

set_option maxHeartbeats 1000000 in
theorem takes_6 (a b : BitVec 64) : ∀ w, Calls Tryd.prog 7 #[.int .i64 6, .int .u64 (a.toNat : Int), .int .u64 (b.toNat : Int)] w (Makes (.tuple #[.bool (!(a == b)), .bool true]) w) := fun w => by
  have C1 := hide condition_6
  have C2 := hide (cond2_any a b)
  have hnil := nil_takes (.func 37) #[] #[]
  go_enter Tryd.func7, Tryd.ntmps7
  go_wp2_with (first | (go_at_call 22; (with_reducible refine (C1.out _).mono ?_); rintro e w1 ⟨rfl, n1, rfl⟩) | (go_at_call 37; (with_reducible refine (C2.out _).mono ?_); rintro e w2 ⟨rfl, n2, rfl⟩))
  refine bodyPost_ret (v := .tuple #[.bool (!(a == b)), .bool true]) (by simp (maxDischargeDepth := 4) [results, Tryd.results7, go_sem, *]) rfl ?_
  exact ⟨rfl, by first | exact below_drewN (Below.refl _ _) _ | exact below_drewN (below_drewN (Below.refl _ _) _) _⟩

set_option maxHeartbeats 1000000 in
theorem condition_7 : ∀ w, Calls Tryd.prog 22 #[.int .i64 7] w (Quiet (.func (.func 44) #[] #[]) w) := fun w => by
  go_enter Tryd.func22, Tryd.ntmps22
  go_wp2_with (go_in)
  go_ret
  exact ⟨rfl, 0, rfl⟩

set_option maxHeartbeats 1000000 in
theorem takes_7 (a b : BitVec 64) : ∀ w, Calls Tryd.prog 7 #[.int .i64 7, .int .u64 (a.toNat : Int), .int .u64 (b.toNat : Int)] w (Makes (.tuple #[.bool (a.slt b), .bool true]) w) := fun w => by
  have C1 := hide condition_7
  have C2 := hide (less1_any a b)
  have hnil := nil_takes (.func 44) #[] #[]
  go_enter Tryd.func7, Tryd.ntmps7
  go_wp2_with (first | (go_at_call 22; (with_reducible refine (C1.out _).mono ?_); rintro e w1 ⟨rfl, n1, rfl⟩) | (go_at_call 44; (with_reducible refine (C2.out _).mono ?_); rintro e w2 ⟨rfl, n2, rfl⟩))
  refine bodyPost_ret (v := .tuple #[.bool (a.slt b), .bool true]) (by simp (maxDischargeDepth := 4) [results, Tryd.results7, go_sem, *]) rfl ?_
  exact ⟨rfl, by first | exact below_drewN (Below.refl _ _) _ | exact below_drewN (below_drewN (Below.refl _ _) _) _⟩

set_option maxHeartbeats 1000000 in
theorem condition_9 : ∀ w, Calls Tryd.prog 22 #[.int .i64 9] w (Quiet (.func (.func 45) #[] #[]) w) := fun w => by
  go_enter Tryd.func22, Tryd.ntmps22
  go_wp2_with (go_in)
  go_ret
  exact ⟨rfl, 0, rfl⟩

set_option maxHeartbeats 1000000 in
theorem takes_9 (a b : BitVec 64) : ∀ w, Calls Tryd.prog 7 #[.int .i64 9, .int .u64 (a.toNat : Int), .int .u64 (b.toNat : Int)] w (Makes (.tuple #[.bool (a.ult b), .bool true]) w) := fun w => by
  have C1 := hide condition_9
  have C2 := hide (less2_any a b)
  have hnil := nil_takes (.func 45) #[] #[]
  go_enter Tryd.func7, Tryd.ntmps7
  go_wp2_with (first | (go_at_call 22; (with_reducible refine (C1.out _).mono ?_); rintro e w1 ⟨rfl, n1, rfl⟩) | (go_at_call 45; (with_reducible refine (C2.out _).mono ?_); rintro e w2 ⟨rfl, n2, rfl⟩))
  refine bodyPost_ret (v := .tuple #[.bool (a.ult b), .bool true]) (by simp (maxDischargeDepth := 4) [results, Tryd.results7, go_sem, *]) rfl ?_
  exact ⟨rfl, by first | exact below_drewN (Below.refl _ _) _ | exact below_drewN (below_drewN (Below.refl _ _) _) _⟩

set_option maxHeartbeats 1000000 in
theorem condition_8 : ∀ w, Calls Tryd.prog 22 #[.int .i64 8] w (Holds1 (.func (.func 46) #[] #[.pointer (some ⟨w.heap.size, 0, none⟩)]) (.func (.func 44) #[] #[]) w) := fun w => by
  go_enter Tryd.func22, Tryd.ntmps22
  go_wp2_with (go_in)
  refine bodyPost_ret (v := .func (.func 46) #[] #[.pointer (some ⟨w.heap.size, 0, none⟩)]) (by simp (maxDischargeDepth := 4) [results, Tryd.results22, go_sem, *]) rfl ?_
  exact ⟨rfl, by simp [go_sem], (Below.refl _ _).alloc (Nat.le_refl _) _⟩

set_option maxHeartbeats 1000000 in
theorem takes_8 (a b : BitVec 64) : ∀ w, Calls Tryd.prog 7 #[.int .i64 8, .int .u64 (a.toNat : Int), .int .u64 (b.toNat : Int)] w (Makes (.tuple #[.bool (!(a.slt b)), .bool true]) w) := fun w => by
  have C1 := hide condition_8
  have C2 := hide (fun n w h => not_less1 a b n w h)
  have hnil := nil_takes (.func 46) #[] #[.pointer (some ⟨w.heap.size, 0, none⟩)]
  go_enter Tryd.func7, Tryd.ntmps7
  go_wp2_with (first | (go_at_call 22; (with_reducible refine (C1.out _).mono ?_); rintro e w1 ⟨rfl, hc1, hb1⟩) | (go_at_call 46; (with_reducible refine (C2.out _ _ (by assumption)).mono ?_); rintro e w2 ⟨rfl, n2, rfl⟩))
  refine bodyPost_ret (v := .tuple #[.bool (!(a.slt b)), .bool true]) (by simp (maxDischargeDepth := 4) [results, Tryd.results7, go_sem, *]) rfl ?_
  exact ⟨rfl, below_drewN hb1 _⟩

set_option maxHeartbeats 1000000 in
theorem condition_10 : ∀ w, Calls Tryd.prog 22 #[.int .i64 10] w (Holds1 (.func (.func 46) #[] #[.pointer (some ⟨w.heap.size, 0, none⟩)]) (.func (.func 45) #[] #[]) w) := fun w => by
  go_enter Tryd.func22, Tryd.ntmps22
  go_wp2_with (go_in)
  refine bodyPost_ret (v := .func (.func 46) #[] #[.pointer (some ⟨w.heap.size, 0, none⟩)]) (by simp (maxDischargeDepth := 4) [results, Tryd.results22, go_sem, *]) rfl ?_
  exact ⟨rfl, by simp [go_sem], (Below.refl _ _).alloc (Nat.le_refl _) _⟩

set_option maxHeartbeats 1000000 in
theorem takes_10 (a b : BitVec 64) : ∀ w, Calls Tryd.prog 7 #[.int .i64 10, .int .u64 (a.toNat : Int), .int .u64 (b.toNat : Int)] w (Makes (.tuple #[.bool (!(a.ult b)), .bool true]) w) := fun w => by
  have C1 := hide condition_10
  have C2 := hide (fun n w h => not_less2 a b n w h)
  have hnil := nil_takes (.func 46) #[] #[.pointer (some ⟨w.heap.size, 0, none⟩)]
  go_enter Tryd.func7, Tryd.ntmps7
  go_wp2_with (first | (go_at_call 22; (with_reducible refine (C1.out _).mono ?_); rintro e w1 ⟨rfl, hc1, hb1⟩) | (go_at_call 46; (with_reducible refine (C2.out _ _ (by assumption)).mono ?_); rintro e w2 ⟨rfl, n2, rfl⟩))
  refine bodyPost_ret (v := .tuple #[.bool (!(a.ult b)), .bool true]) (by simp (maxDischargeDepth := 4) [results, Tryd.results7, go_sem, *]) rfl ?_
  exact ⟨rfl, below_drewN hb1 _⟩
end Go.Proofs.YtholamocbkfcmaaDoor
