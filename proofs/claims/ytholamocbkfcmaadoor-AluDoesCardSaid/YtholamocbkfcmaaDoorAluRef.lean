/-
  What the document's own answers of layer 15 are: the same functions of the numbers.
-/
import Derived.Test.YtholamocbkfcmaaDoorGrows
import Derived.Test.YtholamocbkfcmaaDoorAluMath2
import Derived.Test.YtholamocbkfcmaaDoorRef01Walks
namespace Go.Proofs.YtholamocbkfcmaaDoor
open Go.RowKit Words FieldMath

theorem xor_top (x : BitVec 64) : bits .xor .u64 (x.toNat : Int) 9223372036854775808 = ((x ^^^ 9223372036854775808#64).toNat : Int) := xor_bv x 9223372036854775808#64
set_option maxHeartbeats 1000000 in
theorem rbelow_any (a b : BitVec 64) : ∀ w, Calls Tryd.prog 21 #[.int .u64 (a.toNat : Int), .int .u64 (b.toNat : Int)] w (Quiet (.bool (a.slt b)) w) := fun w => by
  have h1 := xor_top a
  have h2 := xor_top b
  have h3 := below_w a b
  generalize a ^^^ 9223372036854775808#64 = A at *
  generalize b ^^^ 9223372036854775808#64 = B at *
  go_enter Tryd.func21, Tryd.ntmps21
  go_wp2
  go_ret
  exact ⟨ret_bool (by rw [← h3]), 0, rfl⟩
set_option maxHeartbeats 1000000 in
theorem rone_any (t : Bool) : ∀ w, Calls Tryd.prog 20 #[.bool t] w (Quiet (.int .u64 ((oneB t).toNat : Int)) w) := fun w => by
  cases t
  all_goals
    go_enter Tryd.func20, Tryd.ntmps20
    go_wp2
    go_ret
    exact ⟨rfl, 0, rfl⟩

set_option maxHeartbeats 1000000 in
theorem rdo_22 (a b : BitVec 64) : ∀ w, Calls Tryd.prog 6 #[.int .i64 22, .int .u64 (a.toNat : Int), .int .u64 (b.toNat : Int)] w (Makes (.tuple #[.int .u64 ((a + b).toNat : Int), .bool true]) w) := fun w => by
  have hr := add_w a b
  generalize a + b = Z at *
  go_enter Tryd.func6, Tryd.ntmps6
  go_wp2
  refine bodyPost_ret (v := .tuple #[.int .u64 ((Z).toNat : Int), .bool true]) (by simp (maxDischargeDepth := 4) [results, Tryd.results6, go_sem, *]) rfl ?_
  refine ⟨rfl, ?_⟩
  repeat (first | with_reducible assumption | with_reducible exact Below.refl _ _ | with_reducible refine Below.drew ?_ | with_reducible refine below_drewN ?_ _ | with_reducible refine bw_alloc ?_ _ | (with_reducible refine bw_set ?_ ?_ _; focus (dsimp only; omega)) | (with_reducible apply bw_behind; with_reducible assumption))

set_option maxHeartbeats 1000000 in
theorem rdo_23 (a b : BitVec 64) : ∀ w, Calls Tryd.prog 6 #[.int .i64 23, .int .u64 (a.toNat : Int), .int .u64 (b.toNat : Int)] w (Makes (.tuple #[.int .u64 ((oneB (a.slt b)).toNat : Int), .bool true]) w) := fun w => by
  have c1 := rbelow_any a b
  have c2 := rone_any (a.slt b)
  generalize a.slt b = t at *
  have C1 := hide c1
  clear c1
  have C2 := hide c2
  clear c2
  go_enter Tryd.func6, Tryd.ntmps6
  go_wp2_with (first | (go_at_call 21; (with_reducible first | refine (C1.out _).mono ?_); rintro e w' ⟨rfl, n1, rfl⟩) | (go_at_call 20; (with_reducible first | refine (C2.out _).mono ?_); rintro e w' ⟨rfl, n1, rfl⟩))
  refine bodyPost_ret (v := .tuple #[.int .u64 ((oneB t).toNat : Int), .bool true]) (by simp (maxDischargeDepth := 4) [results, Tryd.results6, go_sem, *]) rfl ?_
  refine ⟨rfl, ?_⟩
  repeat (first | with_reducible assumption | with_reducible exact Below.refl _ _ | with_reducible refine Below.drew ?_ | with_reducible refine below_drewN ?_ _ | with_reducible refine bw_alloc ?_ _ | (with_reducible refine bw_set ?_ ?_ _; focus (dsimp only; omega)) | (with_reducible apply bw_behind; with_reducible assumption))

set_option maxHeartbeats 1000000 in
theorem rdo_24 (a b : BitVec 64) : ∀ w, Calls Tryd.prog 6 #[.int .i64 24, .int .u64 (a.toNat : Int), .int .u64 (b.toNat : Int)] w (Makes (.tuple #[.int .u64 ((oneB (a.ult b)).toNat : Int), .bool true]) w) := fun w => by
  have hu := ult_w a b
  have c2 := rone_any (a.ult b)
  generalize a.ult b = t at *
  have C2 := hide c2
  clear c2
  go_enter Tryd.func6, Tryd.ntmps6
  go_wp2_with (first | (go_at_call 20; (with_reducible first | refine (C2.out _).mono ?_); rintro e w' ⟨rfl, n1, rfl⟩))
  refine bodyPost_ret (v := .tuple #[.int .u64 ((oneB t).toNat : Int), .bool true]) (by simp (maxDischargeDepth := 4) [results, Tryd.results6, go_sem, *]) rfl ?_
  refine ⟨rfl, ?_⟩
  repeat (first | with_reducible assumption | with_reducible exact Below.refl _ _ | with_reducible refine Below.drew ?_ | with_reducible refine below_drewN ?_ _ | with_reducible refine bw_alloc ?_ _ | (with_reducible refine bw_set ?_ ?_ _; focus (dsimp only; omega)) | (with_reducible apply bw_behind; with_reducible assumption))

set_option maxHeartbeats 1000000 in
theorem rdo_25 (a b : BitVec 64) : ∀ w, Calls Tryd.prog 6 #[.int .i64 25, .int .u64 (a.toNat : Int), .int .u64 (b.toNat : Int)] w (Makes (.tuple #[.int .u64 ((a ^^^ b).toNat : Int), .bool true]) w) := fun w => by
  have hr := xor_bv a b
  generalize a ^^^ b = Z at *
  go_enter Tryd.func6, Tryd.ntmps6
  go_wp2
  refine bodyPost_ret (v := .tuple #[.int .u64 ((Z).toNat : Int), .bool true]) (by simp (maxDischargeDepth := 4) [results, Tryd.results6, go_sem, *]) rfl ?_
  refine ⟨rfl, ?_⟩
  repeat (first | with_reducible assumption | with_reducible exact Below.refl _ _ | with_reducible refine Below.drew ?_ | with_reducible refine below_drewN ?_ _ | with_reducible refine bw_alloc ?_ _ | (with_reducible refine bw_set ?_ ?_ _; focus (dsimp only; omega)) | (with_reducible apply bw_behind; with_reducible assumption))

set_option maxHeartbeats 1000000 in
theorem rdo_26 (a b : BitVec 64) : ∀ w, Calls Tryd.prog 6 #[.int .i64 26, .int .u64 (a.toNat : Int), .int .u64 (b.toNat : Int)] w (Makes (.tuple #[.int .u64 ((a ||| b).toNat : Int), .bool true]) w) := fun w => by
  have hr := or_bv a b
  generalize a ||| b = Z at *
  go_enter Tryd.func6, Tryd.ntmps6
  go_wp2
  refine bodyPost_ret (v := .tuple #[.int .u64 ((Z).toNat : Int), .bool true]) (by simp (maxDischargeDepth := 4) [results, Tryd.results6, go_sem, *]) rfl ?_
  refine ⟨rfl, ?_⟩
  repeat (first | with_reducible assumption | with_reducible exact Below.refl _ _ | with_reducible refine Below.drew ?_ | with_reducible refine below_drewN ?_ _ | with_reducible refine bw_alloc ?_ _ | (with_reducible refine bw_set ?_ ?_ _; focus (dsimp only; omega)) | (with_reducible apply bw_behind; with_reducible assumption))

set_option maxHeartbeats 1000000 in
theorem rdo_27 (a b : BitVec 64) : ∀ w, Calls Tryd.prog 6 #[.int .i64 27, .int .u64 (a.toNat : Int), .int .u64 (b.toNat : Int)] w (Makes (.tuple #[.int .u64 ((a &&& b).toNat : Int), .bool true]) w) := fun w => by
  have hr := and_bv a b
  generalize a &&& b = Z at *
  go_enter Tryd.func6, Tryd.ntmps6
  go_wp2
  refine bodyPost_ret (v := .tuple #[.int .u64 ((Z).toNat : Int), .bool true]) (by simp (maxDischargeDepth := 4) [results, Tryd.results6, go_sem, *]) rfl ?_
  refine ⟨rfl, ?_⟩
  repeat (first | with_reducible assumption | with_reducible exact Below.refl _ _ | with_reducible refine Below.drew ?_ | with_reducible refine below_drewN ?_ _ | with_reducible refine bw_alloc ?_ _ | (with_reducible refine bw_set ?_ ?_ _; focus (dsimp only; omega)) | (with_reducible apply bw_behind; with_reducible assumption))

set_option maxHeartbeats 1000000 in
theorem rdo_28 (a b : BitVec 64) : ∀ w, Calls Tryd.prog 6 #[.int .i64 28, .int .u64 (a.toNat : Int), .int .u64 (b.toNat : Int)] w (Makes (.tuple #[.int .u64 ((a <<< (b.toNat % 64)).toNat : Int), .bool true]) w) := fun w => by
  have hm : (b.toNat : Int) % 64 = ((b.toNat % 64 : Nat) : Int) := by omega
  have hn : b.toNat % 64 < 64 := Nat.mod_lt _ (by decide)
  have hr := shl_bv a (b.toNat % 64)
  generalize a <<< (b.toNat % 64) = Z at *
  generalize b.toNat % 64 = n at *
  go_enter Tryd.func6, Tryd.ntmps6
  go_wp2
  refine bodyPost_ret (v := .tuple #[.int .u64 ((Z).toNat : Int), .bool true]) (by simp (maxDischargeDepth := 4) [results, Tryd.results6, go_sem, *]) rfl ?_
  refine ⟨rfl, ?_⟩
  repeat (first | with_reducible assumption | with_reducible exact Below.refl _ _ | with_reducible refine Below.drew ?_ | with_reducible refine below_drewN ?_ _ | with_reducible refine bw_alloc ?_ _ | (with_reducible refine bw_set ?_ ?_ _; focus (dsimp only; omega)) | (with_reducible apply bw_behind; with_reducible assumption))

set_option maxHeartbeats 1000000 in
theorem rdo_29 (a b : BitVec 64) : ∀ w, Calls Tryd.prog 6 #[.int .i64 29, .int .u64 (a.toNat : Int), .int .u64 (b.toNat : Int)] w (Makes (.tuple #[.int .u64 ((a >>> (b.toNat % 64)).toNat : Int), .bool true]) w) := fun w => by
  have hm : (b.toNat : Int) % 64 = ((b.toNat % 64 : Nat) : Int) := by omega
  have hn : b.toNat % 64 < 64 := Nat.mod_lt _ (by decide)
  have hr := shr_bv a (b.toNat % 64)
  generalize a >>> (b.toNat % 64) = Z at *
  generalize b.toNat % 64 = n at *
  go_enter Tryd.func6, Tryd.ntmps6
  go_wp2
  refine bodyPost_ret (v := .tuple #[.int .u64 ((Z).toNat : Int), .bool true]) (by simp (maxDischargeDepth := 4) [results, Tryd.results6, go_sem, *]) rfl ?_
  refine ⟨rfl, ?_⟩
  repeat (first | with_reducible assumption | with_reducible exact Below.refl _ _ | with_reducible refine Below.drew ?_ | with_reducible refine below_drewN ?_ _ | with_reducible refine bw_alloc ?_ _ | (with_reducible refine bw_set ?_ ?_ _; focus (dsimp only; omega)) | (with_reducible apply bw_behind; with_reducible assumption))

set_option maxHeartbeats 1000000 in
theorem rdo_30 (a b : BitVec 64) : ∀ w, Calls Tryd.prog 6 #[.int .i64 30, .int .u64 (a.toNat : Int), .int .u64 (b.toNat : Int)] w (Makes (.tuple #[.int .u64 ((a.sshiftRight (b.toNat % 64)).toNat : Int), .bool true]) w) := fun w => by
  have hm : (b.toNat : Int) % 64 = ((b.toNat % 64 : Nat) : Int) := by omega
  have hn : b.toNat % 64 < 64 := Nat.mod_lt _ (by decide)
  have c1 := fun W => rsign_any (a >>> (b.toNat % 64)) (64 - ((b.toNat % 64 : Nat) : Int)) W
  rw [sar_sign _ _ hn] at c1
  have hs := shr_bv a (b.toNat % 64)
  generalize a.sshiftRight (b.toNat % 64) = Z at *
  generalize a >>> (b.toNat % 64) = Y at *
  generalize b.toNat % 64 = n at *
  have C1 := hide c1
  clear c1
  go_enter Tryd.func6, Tryd.ntmps6
  go_wp2_with (first | (go_at_call 19; (with_reducible first | refine (C1.out _).mono ?_); rintro e w' ⟨rfl, n1, rfl⟩))
  refine bodyPost_ret (v := .tuple #[.int .u64 ((Z).toNat : Int), .bool true]) (by simp (maxDischargeDepth := 4) [results, Tryd.results6, go_sem, *]) rfl ?_
  refine ⟨rfl, ?_⟩
  repeat (first | with_reducible assumption | with_reducible exact Below.refl _ _ | with_reducible refine Below.drew ?_ | with_reducible refine below_drewN ?_ _ | with_reducible refine bw_alloc ?_ _ | (with_reducible refine bw_set ?_ ?_ _; focus (dsimp only; omega)) | (with_reducible apply bw_behind; with_reducible assumption))

set_option maxHeartbeats 1000000 in
theorem rdo_31 (a b : BitVec 64) : ∀ w, Calls Tryd.prog 6 #[.int .i64 31, .int .u64 (a.toNat : Int), .int .u64 (b.toNat : Int)] w (Makes (.tuple #[.int .u64 ((a + b).toNat : Int), .bool true]) w) := fun w => by
  have hr := add_w a b
  generalize a + b = Z at *
  go_enter Tryd.func6, Tryd.ntmps6
  go_wp2
  refine bodyPost_ret (v := .tuple #[.int .u64 ((Z).toNat : Int), .bool true]) (by simp (maxDischargeDepth := 4) [results, Tryd.results6, go_sem, *]) rfl ?_
  refine ⟨rfl, ?_⟩
  repeat (first | with_reducible assumption | with_reducible exact Below.refl _ _ | with_reducible refine Below.drew ?_ | with_reducible refine below_drewN ?_ _ | with_reducible refine bw_alloc ?_ _ | (with_reducible refine bw_set ?_ ?_ _; focus (dsimp only; omega)) | (with_reducible apply bw_behind; with_reducible assumption))

set_option maxHeartbeats 1000000 in
theorem rdo_32 (a b : BitVec 64) : ∀ w, Calls Tryd.prog 6 #[.int .i64 32, .int .u64 (a.toNat : Int), .int .u64 (b.toNat : Int)] w (Makes (.tuple #[.int .u64 ((a - b).toNat : Int), .bool true]) w) := fun w => by
  have hr := sub_w a b
  generalize a - b = Z at *
  go_enter Tryd.func6, Tryd.ntmps6
  go_wp2
  refine bodyPost_ret (v := .tuple #[.int .u64 ((Z).toNat : Int), .bool true]) (by simp (maxDischargeDepth := 4) [results, Tryd.results6, go_sem, *]) rfl ?_
  refine ⟨rfl, ?_⟩
  repeat (first | with_reducible assumption | with_reducible exact Below.refl _ _ | with_reducible refine Below.drew ?_ | with_reducible refine below_drewN ?_ _ | with_reducible refine bw_alloc ?_ _ | (with_reducible refine bw_set ?_ ?_ _; focus (dsimp only; omega)) | (with_reducible apply bw_behind; with_reducible assumption))

set_option maxHeartbeats 1000000 in
theorem rdo_33 (a b : BitVec 64) : ∀ w, Calls Tryd.prog 6 #[.int .i64 33, .int .u64 (a.toNat : Int), .int .u64 (b.toNat : Int)] w (Makes (.tuple #[.int .u64 ((a <<< (b.toNat % 64)).toNat : Int), .bool true]) w) := fun w => by
  have hm : (b.toNat : Int) % 64 = ((b.toNat % 64 : Nat) : Int) := by omega
  have hn : b.toNat % 64 < 64 := Nat.mod_lt _ (by decide)
  have hr := shl_bv a (b.toNat % 64)
  generalize a <<< (b.toNat % 64) = Z at *
  generalize b.toNat % 64 = n at *
  go_enter Tryd.func6, Tryd.ntmps6
  go_wp2
  refine bodyPost_ret (v := .tuple #[.int .u64 ((Z).toNat : Int), .bool true]) (by simp (maxDischargeDepth := 4) [results, Tryd.results6, go_sem, *]) rfl ?_
  refine ⟨rfl, ?_⟩
  repeat (first | with_reducible assumption | with_reducible exact Below.refl _ _ | with_reducible refine Below.drew ?_ | with_reducible refine below_drewN ?_ _ | with_reducible refine bw_alloc ?_ _ | (with_reducible refine bw_set ?_ ?_ _; focus (dsimp only; omega)) | (with_reducible apply bw_behind; with_reducible assumption))

set_option maxHeartbeats 1000000 in
theorem rdo_34 (a b : BitVec 64) : ∀ w, Calls Tryd.prog 6 #[.int .i64 34, .int .u64 (a.toNat : Int), .int .u64 (b.toNat : Int)] w (Makes (.tuple #[.int .u64 ((oneB (a.slt b)).toNat : Int), .bool true]) w) := fun w => by
  have c1 := rbelow_any a b
  have c2 := rone_any (a.slt b)
  generalize a.slt b = t at *
  have C1 := hide c1
  clear c1
  have C2 := hide c2
  clear c2
  go_enter Tryd.func6, Tryd.ntmps6
  go_wp2_with (first | (go_at_call 21; (with_reducible first | refine (C1.out _).mono ?_); rintro e w' ⟨rfl, n1, rfl⟩) | (go_at_call 20; (with_reducible first | refine (C2.out _).mono ?_); rintro e w' ⟨rfl, n1, rfl⟩))
  refine bodyPost_ret (v := .tuple #[.int .u64 ((oneB t).toNat : Int), .bool true]) (by simp (maxDischargeDepth := 4) [results, Tryd.results6, go_sem, *]) rfl ?_
  refine ⟨rfl, ?_⟩
  repeat (first | with_reducible assumption | with_reducible exact Below.refl _ _ | with_reducible refine Below.drew ?_ | with_reducible refine below_drewN ?_ _ | with_reducible refine bw_alloc ?_ _ | (with_reducible refine bw_set ?_ ?_ _; focus (dsimp only; omega)) | (with_reducible apply bw_behind; with_reducible assumption))

set_option maxHeartbeats 1000000 in
theorem rdo_35 (a b : BitVec 64) : ∀ w, Calls Tryd.prog 6 #[.int .i64 35, .int .u64 (a.toNat : Int), .int .u64 (b.toNat : Int)] w (Makes (.tuple #[.int .u64 ((oneB (a.ult b)).toNat : Int), .bool true]) w) := fun w => by
  have hu := ult_w a b
  have c2 := rone_any (a.ult b)
  generalize a.ult b = t at *
  have C2 := hide c2
  clear c2
  go_enter Tryd.func6, Tryd.ntmps6
  go_wp2_with (first | (go_at_call 20; (with_reducible first | refine (C2.out _).mono ?_); rintro e w' ⟨rfl, n1, rfl⟩))
  refine bodyPost_ret (v := .tuple #[.int .u64 ((oneB t).toNat : Int), .bool true]) (by simp (maxDischargeDepth := 4) [results, Tryd.results6, go_sem, *]) rfl ?_
  refine ⟨rfl, ?_⟩
  repeat (first | with_reducible assumption | with_reducible exact Below.refl _ _ | with_reducible refine Below.drew ?_ | with_reducible refine below_drewN ?_ _ | with_reducible refine bw_alloc ?_ _ | (with_reducible refine bw_set ?_ ?_ _; focus (dsimp only; omega)) | (with_reducible apply bw_behind; with_reducible assumption))

set_option maxHeartbeats 1000000 in
theorem rdo_36 (a b : BitVec 64) : ∀ w, Calls Tryd.prog 6 #[.int .i64 36, .int .u64 (a.toNat : Int), .int .u64 (b.toNat : Int)] w (Makes (.tuple #[.int .u64 ((a ^^^ b).toNat : Int), .bool true]) w) := fun w => by
  have hr := xor_bv a b
  generalize a ^^^ b = Z at *
  go_enter Tryd.func6, Tryd.ntmps6
  go_wp2
  refine bodyPost_ret (v := .tuple #[.int .u64 ((Z).toNat : Int), .bool true]) (by simp (maxDischargeDepth := 4) [results, Tryd.results6, go_sem, *]) rfl ?_
  refine ⟨rfl, ?_⟩
  repeat (first | with_reducible assumption | with_reducible exact Below.refl _ _ | with_reducible refine Below.drew ?_ | with_reducible refine below_drewN ?_ _ | with_reducible refine bw_alloc ?_ _ | (with_reducible refine bw_set ?_ ?_ _; focus (dsimp only; omega)) | (with_reducible apply bw_behind; with_reducible assumption))

set_option maxHeartbeats 1000000 in
theorem rdo_37 (a b : BitVec 64) : ∀ w, Calls Tryd.prog 6 #[.int .i64 37, .int .u64 (a.toNat : Int), .int .u64 (b.toNat : Int)] w (Makes (.tuple #[.int .u64 ((a >>> (b.toNat % 64)).toNat : Int), .bool true]) w) := fun w => by
  have hm : (b.toNat : Int) % 64 = ((b.toNat % 64 : Nat) : Int) := by omega
  have hn : b.toNat % 64 < 64 := Nat.mod_lt _ (by decide)
  have hr := shr_bv a (b.toNat % 64)
  generalize a >>> (b.toNat % 64) = Z at *
  generalize b.toNat % 64 = n at *
  go_enter Tryd.func6, Tryd.ntmps6
  go_wp2
  refine bodyPost_ret (v := .tuple #[.int .u64 ((Z).toNat : Int), .bool true]) (by simp (maxDischargeDepth := 4) [results, Tryd.results6, go_sem, *]) rfl ?_
  refine ⟨rfl, ?_⟩
  repeat (first | with_reducible assumption | with_reducible exact Below.refl _ _ | with_reducible refine Below.drew ?_ | with_reducible refine below_drewN ?_ _ | with_reducible refine bw_alloc ?_ _ | (with_reducible refine bw_set ?_ ?_ _; focus (dsimp only; omega)) | (with_reducible apply bw_behind; with_reducible assumption))

set_option maxHeartbeats 1000000 in
theorem rdo_38 (a b : BitVec 64) : ∀ w, Calls Tryd.prog 6 #[.int .i64 38, .int .u64 (a.toNat : Int), .int .u64 (b.toNat : Int)] w (Makes (.tuple #[.int .u64 ((a.sshiftRight (b.toNat % 64)).toNat : Int), .bool true]) w) := fun w => by
  have hm : (b.toNat : Int) % 64 = ((b.toNat % 64 : Nat) : Int) := by omega
  have hn : b.toNat % 64 < 64 := Nat.mod_lt _ (by decide)
  have c1 := fun W => rsign_any (a >>> (b.toNat % 64)) (64 - ((b.toNat % 64 : Nat) : Int)) W
  rw [sar_sign _ _ hn] at c1
  have hs := shr_bv a (b.toNat % 64)
  generalize a.sshiftRight (b.toNat % 64) = Z at *
  generalize a >>> (b.toNat % 64) = Y at *
  generalize b.toNat % 64 = n at *
  have C1 := hide c1
  clear c1
  go_enter Tryd.func6, Tryd.ntmps6
  go_wp2_with (first | (go_at_call 19; (with_reducible first | refine (C1.out _).mono ?_); rintro e w' ⟨rfl, n1, rfl⟩))
  refine bodyPost_ret (v := .tuple #[.int .u64 ((Z).toNat : Int), .bool true]) (by simp (maxDischargeDepth := 4) [results, Tryd.results6, go_sem, *]) rfl ?_
  refine ⟨rfl, ?_⟩
  repeat (first | with_reducible assumption | with_reducible exact Below.refl _ _ | with_reducible refine Below.drew ?_ | with_reducible refine below_drewN ?_ _ | with_reducible refine bw_alloc ?_ _ | (with_reducible refine bw_set ?_ ?_ _; focus (dsimp only; omega)) | (with_reducible apply bw_behind; with_reducible assumption))

set_option maxHeartbeats 1000000 in
theorem rdo_39 (a b : BitVec 64) : ∀ w, Calls Tryd.prog 6 #[.int .i64 39, .int .u64 (a.toNat : Int), .int .u64 (b.toNat : Int)] w (Makes (.tuple #[.int .u64 ((a ||| b).toNat : Int), .bool true]) w) := fun w => by
  have hr := or_bv a b
  generalize a ||| b = Z at *
  go_enter Tryd.func6, Tryd.ntmps6
  go_wp2
  refine bodyPost_ret (v := .tuple #[.int .u64 ((Z).toNat : Int), .bool true]) (by simp (maxDischargeDepth := 4) [results, Tryd.results6, go_sem, *]) rfl ?_
  refine ⟨rfl, ?_⟩
  repeat (first | with_reducible assumption | with_reducible exact Below.refl _ _ | with_reducible refine Below.drew ?_ | with_reducible refine below_drewN ?_ _ | with_reducible refine bw_alloc ?_ _ | (with_reducible refine bw_set ?_ ?_ _; focus (dsimp only; omega)) | (with_reducible apply bw_behind; with_reducible assumption))

set_option maxHeartbeats 1000000 in
theorem rdo_40 (a b : BitVec 64) : ∀ w, Calls Tryd.prog 6 #[.int .i64 40, .int .u64 (a.toNat : Int), .int .u64 (b.toNat : Int)] w (Makes (.tuple #[.int .u64 ((a &&& b).toNat : Int), .bool true]) w) := fun w => by
  have hr := and_bv a b
  generalize a &&& b = Z at *
  go_enter Tryd.func6, Tryd.ntmps6
  go_wp2
  refine bodyPost_ret (v := .tuple #[.int .u64 ((Z).toNat : Int), .bool true]) (by simp (maxDischargeDepth := 4) [results, Tryd.results6, go_sem, *]) rfl ?_
  refine ⟨rfl, ?_⟩
  repeat (first | with_reducible assumption | with_reducible exact Below.refl _ _ | with_reducible refine Below.drew ?_ | with_reducible refine below_drewN ?_ _ | with_reducible refine bw_alloc ?_ _ | (with_reducible refine bw_set ?_ ?_ _; focus (dsimp only; omega)) | (with_reducible apply bw_behind; with_reducible assumption))

set_option maxHeartbeats 1000000 in
theorem rtakes_5 (a b : BitVec 64) : ∀ w, Calls Tryd.prog 8 #[.int .i64 5, .int .u64 (a.toNat : Int), .int .u64 (b.toNat : Int)] w (Makes (.tuple #[.bool (a == b), .bool true]) w) := fun w => by
  have hr := eq_w a b
  generalize (a == b) = t at *
  go_enter Tryd.func8, Tryd.ntmps8
  go_wp2
  refine bodyPost_ret (v := .tuple #[.bool (t), .bool true]) (by simp (maxDischargeDepth := 4) [results, Tryd.results8, go_sem, *]) rfl ?_
  refine ⟨rfl, ?_⟩
  repeat (first | with_reducible assumption | with_reducible exact Below.refl _ _ | with_reducible refine Below.drew ?_ | with_reducible refine below_drewN ?_ _ | with_reducible refine bw_alloc ?_ _ | (with_reducible refine bw_set ?_ ?_ _; focus (dsimp only; omega)) | (with_reducible apply bw_behind; with_reducible assumption))

set_option maxHeartbeats 1000000 in
theorem rtakes_6 (a b : BitVec 64) : ∀ w, Calls Tryd.prog 8 #[.int .i64 6, .int .u64 (a.toNat : Int), .int .u64 (b.toNat : Int)] w (Makes (.tuple #[.bool (!(a == b)), .bool true]) w) := fun w => by
  have hr := ne_w a b
  generalize (!(a == b)) = t at *
  go_enter Tryd.func8, Tryd.ntmps8
  go_wp2
  refine bodyPost_ret (v := .tuple #[.bool (t), .bool true]) (by simp (maxDischargeDepth := 4) [results, Tryd.results8, go_sem, *]) rfl ?_
  refine ⟨rfl, ?_⟩
  repeat (first | with_reducible assumption | with_reducible exact Below.refl _ _ | with_reducible refine Below.drew ?_ | with_reducible refine below_drewN ?_ _ | with_reducible refine bw_alloc ?_ _ | (with_reducible refine bw_set ?_ ?_ _; focus (dsimp only; omega)) | (with_reducible apply bw_behind; with_reducible assumption))

set_option maxHeartbeats 1000000 in
theorem rtakes_7 (a b : BitVec 64) : ∀ w, Calls Tryd.prog 8 #[.int .i64 7, .int .u64 (a.toNat : Int), .int .u64 (b.toNat : Int)] w (Makes (.tuple #[.bool (a.slt b), .bool true]) w) := fun w => by
  have c1 := rbelow_any a b
  generalize a.slt b = t at *
  have C1 := hide c1
  clear c1
  go_enter Tryd.func8, Tryd.ntmps8
  go_wp2_with (first | (go_at_call 21; (with_reducible first | refine (C1.out _).mono ?_); rintro e w' ⟨rfl, n1, rfl⟩))
  refine bodyPost_ret (v := .tuple #[.bool (t), .bool true]) (by simp (maxDischargeDepth := 4) [results, Tryd.results8, go_sem, *]) rfl ?_
  refine ⟨rfl, ?_⟩
  repeat (first | with_reducible assumption | with_reducible exact Below.refl _ _ | with_reducible refine Below.drew ?_ | with_reducible refine below_drewN ?_ _ | with_reducible refine bw_alloc ?_ _ | (with_reducible refine bw_set ?_ ?_ _; focus (dsimp only; omega)) | (with_reducible apply bw_behind; with_reducible assumption))

set_option maxHeartbeats 1000000 in
theorem rtakes_8 (a b : BitVec 64) : ∀ w, Calls Tryd.prog 8 #[.int .i64 8, .int .u64 (a.toNat : Int), .int .u64 (b.toNat : Int)] w (Makes (.tuple #[.bool (!(a.slt b)), .bool true]) w) := fun w => by
  have c1 := rbelow_any a b
  generalize a.slt b = t at *
  have C1 := hide c1
  clear c1
  go_enter Tryd.func8, Tryd.ntmps8
  go_wp2_with (first | (go_at_call 21; (with_reducible first | refine (C1.out _).mono ?_); rintro e w' ⟨rfl, n1, rfl⟩))
  refine bodyPost_ret (v := .tuple #[.bool (!t), .bool true]) (by simp (maxDischargeDepth := 4) [results, Tryd.results8, go_sem, *]) rfl ?_
  refine ⟨rfl, ?_⟩
  repeat (first | with_reducible assumption | with_reducible exact Below.refl _ _ | with_reducible refine Below.drew ?_ | with_reducible refine below_drewN ?_ _ | with_reducible refine bw_alloc ?_ _ | (with_reducible refine bw_set ?_ ?_ _; focus (dsimp only; omega)) | (with_reducible apply bw_behind; with_reducible assumption))

set_option maxHeartbeats 1000000 in
theorem rtakes_9 (a b : BitVec 64) : ∀ w, Calls Tryd.prog 8 #[.int .i64 9, .int .u64 (a.toNat : Int), .int .u64 (b.toNat : Int)] w (Makes (.tuple #[.bool (a.ult b), .bool true]) w) := fun w => by
  have hr := ult_w a b
  generalize a.ult b = t at *
  go_enter Tryd.func8, Tryd.ntmps8
  go_wp2
  refine bodyPost_ret (v := .tuple #[.bool (t), .bool true]) (by simp (maxDischargeDepth := 4) [results, Tryd.results8, go_sem, *]) rfl ?_
  refine ⟨rfl, ?_⟩
  repeat (first | with_reducible assumption | with_reducible exact Below.refl _ _ | with_reducible refine Below.drew ?_ | with_reducible refine below_drewN ?_ _ | with_reducible refine bw_alloc ?_ _ | (with_reducible refine bw_set ?_ ?_ _; focus (dsimp only; omega)) | (with_reducible apply bw_behind; with_reducible assumption))

set_option maxHeartbeats 1000000 in
theorem rtakes_10 (a b : BitVec 64) : ∀ w, Calls Tryd.prog 8 #[.int .i64 10, .int .u64 (a.toNat : Int), .int .u64 (b.toNat : Int)] w (Makes (.tuple #[.bool (!(a.ult b)), .bool true]) w) := fun w => by
  have hr : decide (b.toNat ≤ a.toNat) = !(a.ult b) := by rw [← ult_w, ← decide_not, decide_eq_decide]; omega
  generalize (!(a.ult b)) = t at *
  go_enter Tryd.func8, Tryd.ntmps8
  go_wp2
  refine bodyPost_ret (v := .tuple #[.bool (t), .bool true]) (by simp (maxDischargeDepth := 4) [results, Tryd.results8, go_sem, *]) rfl ?_
  refine ⟨rfl, ?_⟩
  repeat (first | with_reducible assumption | with_reducible exact Below.refl _ _ | with_reducible refine Below.drew ?_ | with_reducible refine below_drewN ?_ _ | with_reducible refine bw_alloc ?_ _ | (with_reducible refine bw_set ?_ ?_ _; focus (dsimp only; omega)) | (with_reducible apply bw_behind; with_reducible assumption))

set_option maxHeartbeats 2000000 in
theorem rdo_none (op : Int) (a b : BitVec 64) (h : op < 22 ∨ 40 < op) : ∀ w, Calls Tryd.prog 6 #[.int .i64 op, .int .u64 (a.toNat : Int), .int .u64 (b.toNat : Int)] w (Makes (.tuple #[.int .u64 0, .bool false]) w) := fun w => by
  have n22 : (op == 22) = false := by simp; omega
  have n23 : (op == 23) = false := by simp; omega
  have n24 : (op == 24) = false := by simp; omega
  have n25 : (op == 25) = false := by simp; omega
  have n26 : (op == 26) = false := by simp; omega
  have n27 : (op == 27) = false := by simp; omega
  have n28 : (op == 28) = false := by simp; omega
  have n29 : (op == 29) = false := by simp; omega
  have n30 : (op == 30) = false := by simp; omega
  have n31 : (op == 31) = false := by simp; omega
  have n32 : (op == 32) = false := by simp; omega
  have n33 : (op == 33) = false := by simp; omega
  have n34 : (op == 34) = false := by simp; omega
  have n35 : (op == 35) = false := by simp; omega
  have n36 : (op == 36) = false := by simp; omega
  have n37 : (op == 37) = false := by simp; omega
  have n38 : (op == 38) = false := by simp; omega
  have n39 : (op == 39) = false := by simp; omega
  have n40 : (op == 40) = false := by simp; omega
  clear h
  go_enter Tryd.func6, Tryd.ntmps6
  go_wp2
  refine bodyPost_ret (v := .tuple #[.int .u64 0, .bool false]) (by simp (maxDischargeDepth := 4) [results, Tryd.results6, go_sem, *]) rfl ?_
  refine ⟨rfl, ?_⟩
  repeat (first | with_reducible assumption | with_reducible exact Below.refl _ _ | with_reducible refine Below.drew ?_ | with_reducible refine below_drewN ?_ _ | with_reducible refine bw_alloc ?_ _ | (with_reducible refine bw_set ?_ ?_ _; focus (dsimp only; omega)) | (with_reducible apply bw_behind; with_reducible assumption))

set_option maxHeartbeats 2000000 in
theorem rtakes_none (op : Int) (a b : BitVec 64) (h : op < 5 ∨ 10 < op) : ∀ w, Calls Tryd.prog 8 #[.int .i64 op, .int .u64 (a.toNat : Int), .int .u64 (b.toNat : Int)] w (Makes (.tuple #[.bool false, .bool false]) w) := fun w => by
  have n5 : (op == 5) = false := by simp; omega
  have n6 : (op == 6) = false := by simp; omega
  have n7 : (op == 7) = false := by simp; omega
  have n8 : (op == 8) = false := by simp; omega
  have n9 : (op == 9) = false := by simp; omega
  have n10 : (op == 10) = false := by simp; omega
  clear h
  go_enter Tryd.func8, Tryd.ntmps8
  go_wp2
  refine bodyPost_ret (v := .tuple #[.bool false, .bool false]) (by simp (maxDischargeDepth := 4) [results, Tryd.results8, go_sem, *]) rfl ?_
  refine ⟨rfl, ?_⟩
  repeat (first | with_reducible assumption | with_reducible exact Below.refl _ _ | with_reducible refine Below.drew ?_ | with_reducible refine below_drewN ?_ _ | with_reducible refine bw_alloc ?_ _ | (with_reducible refine bw_set ?_ ?_ _; focus (dsimp only; omega)) | (with_reducible apply bw_behind; with_reducible assumption))

theorem rdo_zero (op : Int) (a b : BitVec 64) (h : op < 22 ∨ 40 < op) : isDo op = false ∧ doV op a b = 0 := by
  constructor
  · exact decide_eq_false (by omega)
  · unfold doV
    split <;> first | omega | rfl
theorem rdo_any (op : Int) (a b : BitVec 64) : ∀ w, Calls Tryd.prog 6 #[.int .i64 op, .int .u64 (a.toNat : Int), .int .u64 (b.toNat : Int)] w (Makes (.tuple #[.int .u64 ((doV op a b).toNat : Int), .bool (isDo op)]) w) := fun w => by
  by_cases h : 22 ≤ op ∧ op ≤ 40
  · obtain rfl | rfl | rfl | rfl | rfl | rfl | rfl | rfl | rfl | rfl | rfl | rfl | rfl | rfl | rfl | rfl | rfl | rfl | rfl : op = 22 ∨ op = 23 ∨ op = 24 ∨ op = 25 ∨ op = 26 ∨ op = 27 ∨ op = 28 ∨ op = 29 ∨ op = 30 ∨ op = 31 ∨ op = 32 ∨ op = 33 ∨ op = 34 ∨ op = 35 ∨ op = 36 ∨ op = 37 ∨ op = 38 ∨ op = 39 ∨ op = 40 := by omega
    · exact rdo_22 a b w
    · exact rdo_23 a b w
    · exact rdo_24 a b w
    · exact rdo_25 a b w
    · exact rdo_26 a b w
    · exact rdo_27 a b w
    · exact rdo_28 a b w
    · exact rdo_29 a b w
    · exact rdo_30 a b w
    · exact rdo_31 a b w
    · exact rdo_32 a b w
    · exact rdo_33 a b w
    · exact rdo_34 a b w
    · exact rdo_35 a b w
    · exact rdo_36 a b w
    · exact rdo_37 a b w
    · exact rdo_38 a b w
    · exact rdo_39 a b w
    · exact rdo_40 a b w
  · obtain ⟨h1, h2⟩ := rdo_zero op a b (by omega)
    rw [h1, h2]
    exact rdo_none op a b (by omega) w

theorem rtakes_zero (op : Int) (a b : BitVec 64) (h : op < 5 ∨ 10 < op) : isTk op = false ∧ tkV op a b = false := by
  constructor
  · exact decide_eq_false (by omega)
  · unfold tkV
    split <;> first | omega | rfl
theorem rtakes_any (op : Int) (a b : BitVec 64) : ∀ w, Calls Tryd.prog 8 #[.int .i64 op, .int .u64 (a.toNat : Int), .int .u64 (b.toNat : Int)] w (Makes (.tuple #[.bool (tkV op a b), .bool (isTk op)]) w) := fun w => by
  by_cases h : 5 ≤ op ∧ op ≤ 10
  · obtain rfl | rfl | rfl | rfl | rfl | rfl : op = 5 ∨ op = 6 ∨ op = 7 ∨ op = 8 ∨ op = 9 ∨ op = 10 := by omega
    · exact rtakes_5 a b w
    · exact rtakes_6 a b w
    · exact rtakes_7 a b w
    · exact rtakes_8 a b w
    · exact rtakes_9 a b w
    · exact rtakes_10 a b w
  · obtain ⟨h1, h2⟩ := rtakes_zero op a b (by omega)
    rw [h1, h2]
    exact rtakes_none op a b (by omega) w

set_option maxHeartbeats 1000000 in
theorem rwidth_11 : ∀ w, Calls Tryd.prog 10 #[.int .i64 11] w (Quiet (.int .i64 1) w) := fun w => by
  go_enter Tryd.func10, Tryd.ntmps10
  go_wp2
  go_ret
  exact ⟨rfl, 0, rfl⟩

set_option maxHeartbeats 1000000 in
theorem rwidth_12 : ∀ w, Calls Tryd.prog 10 #[.int .i64 12] w (Quiet (.int .i64 2) w) := fun w => by
  go_enter Tryd.func10, Tryd.ntmps10
  go_wp2
  go_ret
  exact ⟨rfl, 0, rfl⟩

set_option maxHeartbeats 1000000 in
theorem rwidth_13 : ∀ w, Calls Tryd.prog 10 #[.int .i64 13] w (Quiet (.int .i64 4) w) := fun w => by
  go_enter Tryd.func10, Tryd.ntmps10
  go_wp2
  go_ret
  exact ⟨rfl, 0, rfl⟩

set_option maxHeartbeats 1000000 in
theorem rwidth_14 : ∀ w, Calls Tryd.prog 10 #[.int .i64 14] w (Quiet (.int .i64 8) w) := fun w => by
  go_enter Tryd.func10, Tryd.ntmps10
  go_wp2
  go_ret
  exact ⟨rfl, 0, rfl⟩

set_option maxHeartbeats 1000000 in
theorem rwidth_15 : ∀ w, Calls Tryd.prog 10 #[.int .i64 15] w (Quiet (.int .i64 1) w) := fun w => by
  go_enter Tryd.func10, Tryd.ntmps10
  go_wp2
  go_ret
  exact ⟨rfl, 0, rfl⟩

set_option maxHeartbeats 1000000 in
theorem rwidth_16 : ∀ w, Calls Tryd.prog 10 #[.int .i64 16] w (Quiet (.int .i64 2) w) := fun w => by
  go_enter Tryd.func10, Tryd.ntmps10
  go_wp2
  go_ret
  exact ⟨rfl, 0, rfl⟩

set_option maxHeartbeats 1000000 in
theorem rwidth_17 : ∀ w, Calls Tryd.prog 10 #[.int .i64 17] w (Quiet (.int .i64 4) w) := fun w => by
  go_enter Tryd.func10, Tryd.ntmps10
  go_wp2
  go_ret
  exact ⟨rfl, 0, rfl⟩

set_option maxHeartbeats 1000000 in
theorem rwidth_18 : ∀ w, Calls Tryd.prog 10 #[.int .i64 18] w (Quiet (.int .i64 1) w) := fun w => by
  go_enter Tryd.func10, Tryd.ntmps10
  go_wp2
  go_ret
  exact ⟨rfl, 0, rfl⟩

set_option maxHeartbeats 1000000 in
theorem rwidth_19 : ∀ w, Calls Tryd.prog 10 #[.int .i64 19] w (Quiet (.int .i64 2) w) := fun w => by
  go_enter Tryd.func10, Tryd.ntmps10
  go_wp2
  go_ret
  exact ⟨rfl, 0, rfl⟩

set_option maxHeartbeats 1000000 in
theorem rwidth_20 : ∀ w, Calls Tryd.prog 10 #[.int .i64 20] w (Quiet (.int .i64 4) w) := fun w => by
  go_enter Tryd.func10, Tryd.ntmps10
  go_wp2
  go_ret
  exact ⟨rfl, 0, rfl⟩

set_option maxHeartbeats 1000000 in
theorem rwidth_21 : ∀ w, Calls Tryd.prog 10 #[.int .i64 21] w (Quiet (.int .i64 8) w) := fun w => by
  go_enter Tryd.func10, Tryd.ntmps10
  go_wp2
  go_ret
  exact ⟨rfl, 0, rfl⟩

set_option maxHeartbeats 1000000 in
theorem rwidth_43 : ∀ w, Calls Tryd.prog 10 #[.int .i64 43] w (Quiet (.int .i64 16) w) := fun w => by
  go_enter Tryd.func10, Tryd.ntmps10
  go_wp2
  go_ret
  exact ⟨rfl, 0, rfl⟩

set_option maxHeartbeats 1000000 in
theorem rwidth_44 : ∀ w, Calls Tryd.prog 10 #[.int .i64 44] w (Quiet (.int .i64 16) w) := fun w => by
  go_enter Tryd.func10, Tryd.ntmps10
  go_wp2
  go_ret
  exact ⟨rfl, 0, rfl⟩

set_option maxHeartbeats 2000000 in
theorem rwidth_none (op : Int) (h : ¬ (op = 11 ∨ op = 12 ∨ op = 13 ∨ op = 14 ∨ op = 15 ∨ op = 16 ∨ op = 17 ∨ op = 18 ∨ op = 19 ∨ op = 20 ∨ op = 21 ∨ op = 43 ∨ op = 44)) : ∀ w, Calls Tryd.prog 10 #[.int .i64 op] w (Quiet (.int .i64 0) w) := fun w => by
  have n11 : (op == 11) = false := by simp; omega
  have n12 : (op == 12) = false := by simp; omega
  have n13 : (op == 13) = false := by simp; omega
  have n14 : (op == 14) = false := by simp; omega
  have n15 : (op == 15) = false := by simp; omega
  have n16 : (op == 16) = false := by simp; omega
  have n17 : (op == 17) = false := by simp; omega
  have n18 : (op == 18) = false := by simp; omega
  have n19 : (op == 19) = false := by simp; omega
  have n20 : (op == 20) = false := by simp; omega
  have n21 : (op == 21) = false := by simp; omega
  have n43 : (op == 43) = false := by simp; omega
  have n44 : (op == 44) = false := by simp; omega
  clear h
  go_enter Tryd.func10, Tryd.ntmps10
  go_wp2
  go_ret
  exact ⟨rfl, 0, rfl⟩
theorem wid_none (op : Int) (h : ¬ (op = 11 ∨ op = 12 ∨ op = 13 ∨ op = 14 ∨ op = 15 ∨ op = 16 ∨ op = 17 ∨ op = 18 ∨ op = 19 ∨ op = 20 ∨ op = 21 ∨ op = 43 ∨ op = 44)) : widI op = 0 := by
  unfold widI
  split
  · rfl
  · rename_i h0
    by_cases h2 : op < 45
    · obtain ⟨k, rfl⟩ : ∃ k : Nat, op = (k : Int) := ⟨op.toNat, by omega⟩
      have hk : k < 45 := by omega
      have hall : ∀ k : Nat, k < 45 → ¬ (k = 11 ∨ k = 12 ∨ k = 13 ∨ k = 14 ∨ k = 15 ∨ k = 16 ∨ k = 17 ∨ k = 18 ∨ k = 19 ∨ k = 20 ∨ k = 21 ∨ k = 43 ∨ k = 44) → wid k = 0 := by decide +kernel
      have := hall k hk (by omega)
      simp [this]
    · rw [wid_hi _ (by omega)]; rfl
theorem rwidth_any (op : Int) : ∀ w, Calls Tryd.prog 10 #[.int .i64 op] w (Quiet (.int .i64 (widI op)) w) := fun w => by
  by_cases h : op = 11 ∨ op = 12 ∨ op = 13 ∨ op = 14 ∨ op = 15 ∨ op = 16 ∨ op = 17 ∨ op = 18 ∨ op = 19 ∨ op = 20 ∨ op = 21 ∨ op = 43 ∨ op = 44
  · obtain rfl | rfl | rfl | rfl | rfl | rfl | rfl | rfl | rfl | rfl | rfl | rfl | rfl := h
    · exact rwidth_11 w
    · exact rwidth_12 w
    · exact rwidth_13 w
    · exact rwidth_14 w
    · exact rwidth_15 w
    · exact rwidth_16 w
    · exact rwidth_17 w
    · exact rwidth_18 w
    · exact rwidth_19 w
    · exact rwidth_20 w
    · exact rwidth_21 w
    · exact rwidth_43 w
    · exact rwidth_44 w
  · rw [wid_none op h]
    exact rwidth_none op h w

set_option maxHeartbeats 1000000 in
theorem rextend_11 (v : BitVec 64) : ∀ w, Calls Tryd.prog 12 #[.int .i64 11, .int .u64 (v.toNat : Int)] w (Quiet (.int .u64 ((signB v 8).toNat : Int)) w) := fun w => by
  have c1 := rwidth_11
  have c2 := (fun W => rsign_any v 8 W)
  generalize signB v 8 = R at *
  have C1 := hide c1
  have C2 := hide c2
  clear c1 c2
  go_enter Tryd.func12, Tryd.ntmps12
  go_wp2_with (first | (go_at_call 10; (with_reducible first | refine (C1.out _).mono ?_); rintro e w' ⟨rfl, n1, rfl⟩) | (go_at_call 19; (with_reducible first | refine (C2.out _).mono ?_); rintro e w' ⟨rfl, n1, rfl⟩))
  go_ret
  exact ⟨rfl, _, rfl⟩

set_option maxHeartbeats 1000000 in
theorem rextend_12 (v : BitVec 64) : ∀ w, Calls Tryd.prog 12 #[.int .i64 12, .int .u64 (v.toNat : Int)] w (Quiet (.int .u64 ((signB v 16).toNat : Int)) w) := fun w => by
  have c1 := rwidth_12
  have c2 := (fun W => rsign_any v 16 W)
  generalize signB v 16 = R at *
  have C1 := hide c1
  have C2 := hide c2
  clear c1 c2
  go_enter Tryd.func12, Tryd.ntmps12
  go_wp2_with (first | (go_at_call 10; (with_reducible first | refine (C1.out _).mono ?_); rintro e w' ⟨rfl, n1, rfl⟩) | (go_at_call 19; (with_reducible first | refine (C2.out _).mono ?_); rintro e w' ⟨rfl, n1, rfl⟩))
  go_ret
  exact ⟨rfl, _, rfl⟩

set_option maxHeartbeats 1000000 in
theorem rextend_13 (v : BitVec 64) : ∀ w, Calls Tryd.prog 12 #[.int .i64 13, .int .u64 (v.toNat : Int)] w (Quiet (.int .u64 ((signB v 32).toNat : Int)) w) := fun w => by
  have c1 := rwidth_13
  have c2 := (fun W => rsign_any v 32 W)
  generalize signB v 32 = R at *
  have C1 := hide c1
  have C2 := hide c2
  clear c1 c2
  go_enter Tryd.func12, Tryd.ntmps12
  go_wp2_with (first | (go_at_call 10; (with_reducible first | refine (C1.out _).mono ?_); rintro e w' ⟨rfl, n1, rfl⟩) | (go_at_call 19; (with_reducible first | refine (C2.out _).mono ?_); rintro e w' ⟨rfl, n1, rfl⟩))
  go_ret
  exact ⟨rfl, _, rfl⟩

set_option maxHeartbeats 1000000 in
theorem rextend_14 (v : BitVec 64) : ∀ w, Calls Tryd.prog 12 #[.int .i64 14, .int .u64 (v.toNat : Int)] w (Quiet (.int .u64 ((v).toNat : Int)) w) := fun w => by
  have c1 := rwidth_14
  have c2 := (fun W => rsign_any v 64 W)
  rw [sign_full] at c2
  obtain ⟨R, rfl⟩ : ∃ R, R = v := ⟨_, rfl⟩
  have C1 := hide c1
  have C2 := hide c2
  clear c1 c2
  go_enter Tryd.func12, Tryd.ntmps12
  go_wp2_with (first | (go_at_call 10; (with_reducible first | refine (C1.out _).mono ?_); rintro e w' ⟨rfl, n1, rfl⟩) | (go_at_call 19; (with_reducible first | refine (C2.out _).mono ?_); rintro e w' ⟨rfl, n1, rfl⟩))
  go_ret
  exact ⟨rfl, _, rfl⟩

set_option maxHeartbeats 1000000 in
theorem rextend_15 (v : BitVec 64) : ∀ w, Calls Tryd.prog 12 #[.int .i64 15, .int .u64 (v.toNat : Int)] w (Quiet (.int .u64 ((getB v 0 8).toNat : Int)) w) := fun w => by
  have c1 := rwidth_15
  have c2 := (fun W => rget_any v 0 8 W)
  generalize getB v 0 8 = R at *
  have C1 := hide c1
  have C2 := hide c2
  clear c1 c2
  go_enter Tryd.func12, Tryd.ntmps12
  go_wp2_with (first | (go_at_call 10; (with_reducible first | refine (C1.out _).mono ?_); rintro e w' ⟨rfl, n1, rfl⟩) | (go_at_call 25; (with_reducible first | refine (C2.out _).mono ?_); rintro e w' ⟨rfl, n1, rfl⟩))
  go_ret
  exact ⟨rfl, _, rfl⟩

set_option maxHeartbeats 1000000 in
theorem rextend_16 (v : BitVec 64) : ∀ w, Calls Tryd.prog 12 #[.int .i64 16, .int .u64 (v.toNat : Int)] w (Quiet (.int .u64 ((getB v 0 16).toNat : Int)) w) := fun w => by
  have c1 := rwidth_16
  have c2 := (fun W => rget_any v 0 16 W)
  generalize getB v 0 16 = R at *
  have C1 := hide c1
  have C2 := hide c2
  clear c1 c2
  go_enter Tryd.func12, Tryd.ntmps12
  go_wp2_with (first | (go_at_call 10; (with_reducible first | refine (C1.out _).mono ?_); rintro e w' ⟨rfl, n1, rfl⟩) | (go_at_call 25; (with_reducible first | refine (C2.out _).mono ?_); rintro e w' ⟨rfl, n1, rfl⟩))
  go_ret
  exact ⟨rfl, _, rfl⟩

set_option maxHeartbeats 1000000 in
theorem rextend_17 (v : BitVec 64) : ∀ w, Calls Tryd.prog 12 #[.int .i64 17, .int .u64 (v.toNat : Int)] w (Quiet (.int .u64 ((getB v 0 32).toNat : Int)) w) := fun w => by
  have c1 := rwidth_17
  have c2 := (fun W => rget_any v 0 32 W)
  generalize getB v 0 32 = R at *
  have C1 := hide c1
  have C2 := hide c2
  clear c1 c2
  go_enter Tryd.func12, Tryd.ntmps12
  go_wp2_with (first | (go_at_call 10; (with_reducible first | refine (C1.out _).mono ?_); rintro e w' ⟨rfl, n1, rfl⟩) | (go_at_call 25; (with_reducible first | refine (C2.out _).mono ?_); rintro e w' ⟨rfl, n1, rfl⟩))
  go_ret
  exact ⟨rfl, _, rfl⟩

set_option maxHeartbeats 1000000 in
theorem rextend_lo (op : Int) (v : BitVec 64) (h : op < 11) : ∀ w, Calls Tryd.prog 12 #[.int .i64 op, .int .u64 (v.toNat : Int)] w (Quiet (.int .u64 0) w) := fun w => by
  go_enter Tryd.func12, Tryd.ntmps12
  go_wp2
  go_ret
  exact ⟨rfl, 0, rfl⟩

set_option maxHeartbeats 1000000 in
theorem rextend_hi (op : Int) (v : BitVec 64) (h : 17 < op) : ∀ w, Calls Tryd.prog 12 #[.int .i64 op, .int .u64 (v.toNat : Int)] w (Quiet (.int .u64 0) w) := fun w => by
  have h0 : 11 ≤ op := by omega
  go_enter Tryd.func12, Tryd.ntmps12
  go_wp2
  go_ret
  exact ⟨rfl, 0, rfl⟩

theorem rext_zero (op : Int) (v : BitVec 64) (h : op < 11 ∨ 17 < op) : extV op v = 0 := by
  unfold extV
  split <;> first | omega | rfl
theorem rextend_any (op : Int) (v : BitVec 64) : ∀ w, Calls Tryd.prog 12 #[.int .i64 op, .int .u64 (v.toNat : Int)] w (Quiet (.int .u64 ((extV op v).toNat : Int)) w) := fun w => by
  by_cases h : 11 ≤ op ∧ op ≤ 17
  · obtain rfl | rfl | rfl | rfl | rfl | rfl | rfl : op = 11 ∨ op = 12 ∨ op = 13 ∨ op = 14 ∨ op = 15 ∨ op = 16 ∨ op = 17 := by omega
    · exact rextend_11 v w
    · exact rextend_12 v w
    · exact rextend_13 v w
    · exact rextend_14 v w
    · exact rextend_15 v w
    · exact rextend_16 v w
    · exact rextend_17 v w
  · rw [rext_zero op v (by omega)]
    by_cases h2 : op < 11
    · exact rextend_lo op v h2 w
    · exact rextend_hi op v (by omega) w
end Go.Proofs.YtholamocbkfcmaaDoor
