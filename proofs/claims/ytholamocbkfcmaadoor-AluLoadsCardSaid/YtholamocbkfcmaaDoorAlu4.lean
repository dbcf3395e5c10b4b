/-
  What Do and Takes answer at any number; Width (the table's cells are Tab), Extend, Loads, Stores, Branches, Immediate.
-/
import Derived.Test.YtholamocbkfcmaaDoorAlu2
import Derived.Test.YtholamocbkfcmaaDoorAlu3
import Derived.Test.YtholamocbkfcmaaDoorAluMath2
import Derived.Test.YtholamocbkfcmaaDoorKeep
import Derived.Test.YtholamocbkfcmaaDoorFieldWalks
namespace Go.Proofs.YtholamocbkfcmaaDoor
open Go.RowKit Words FieldMath

set_option maxHeartbeats 2000000 in
theorem do_none (op : Int) (a b : BitVec 64) (h : op < 22 ∨ 40 < op) : ∀ w, Calls Tryd.prog 5 #[.int .i64 op, .int .u64 (a.toNat : Int), .int .u64 (b.toNat : Int)] w (Makes (.tuple #[.int .u64 0, .bool false]) w) := fun w => by
  have n22 : (op == 22) = false := by simp; omega
  have n23 : (op == 23) = false := by simp; omega
  have n24 : (op == 24) = false := by simp; omega
  have n25 : (op == 25) = false := by simp; omega
  have n26 : (op == 26) = false := by simp; omega
  have n27 : (op == 27) = false := by simp; omega
  have n28 : (op == 28) = false := by simp; omega
  have n29 : (op == 29) = false := by simp; omega
  have n30 : (op == 30) = false := by simp; omega
  have n31 : (op == 31) = false := by simp; omega
  have n32 : (op == 32) = false := by simp; omega
  have n33 : (op == 33) = false := by simp; omega
  have n34 : (op == 34) = false := by simp; omega
  have n35 : (op == 35) = false := by simp; omega
  have n36 : (op == 36) = false := by simp; omega
  have n37 : (op == 37) = false := by simp; omega
  have n38 : (op == 38) = false := by simp; omega
  have n39 : (op == 39) = false := by simp; omega
  have n40 : (op == 40) = false := by simp; omega
  clear h
  have hnil := nil_do0
  go_enter Tryd.func5, Tryd.ntmps5
  go_wp2_with (go_in)
  refine bodyPost_ret (v := .tuple #[.int .u64 0, .bool false]) (by simp (maxDischargeDepth := 4) [results, Tryd.results5, go_sem, *]) rfl ?_
  exact ⟨rfl, Below.refl _ _⟩

set_option maxHeartbeats 2000000 in
theorem takes_none (op : Int) (a b : BitVec 64) (h : op < 5 ∨ 10 < op) : ∀ w, Calls Tryd.prog 7 #[.int .i64 op, .int .u64 (a.toNat : Int), .int .u64 (b.toNat : Int)] w (Makes (.tuple #[.bool false, .bool false]) w) := fun w => by
  have n5 : (op == 5) = false := by simp; omega
  have n6 : (op == 6) = false := by simp; omega
  have n7 : (op == 7) = false := by simp; omega
  have n8 : (op == 8) = false := by simp; omega
  have n9 : (op == 9) = false := by simp; omega
  have n10 : (op == 10) = false := by simp; omega
  clear h
  have hnil := nil_takes0
  go_enter Tryd.func7, Tryd.ntmps7
  go_wp2_with (go_in)
  refine bodyPost_ret (v := .tuple #[.bool false, .bool false]) (by simp (maxDischargeDepth := 4) [results, Tryd.results7, go_sem, *]) rfl ?_
  exact ⟨rfl, Below.refl _ _⟩

theorem do_zero (op : Int) (a b : BitVec 64) (h : op < 22 ∨ 40 < op) : isDo op = false ∧ doV op a b = 0 := by
  constructor
  · exact decide_eq_false (by omega)
  · unfold doV
    split <;> first | omega | rfl
theorem do_any (op : Int) (a b : BitVec 64) : ∀ w, Calls Tryd.prog 5 #[.int .i64 op, .int .u64 (a.toNat : Int), .int .u64 (b.toNat : Int)] w (Makes (.tuple #[.int .u64 ((doV op a b).toNat : Int), .bool (isDo op)]) w) := fun w => by
  by_cases h : 22 ≤ op ∧ op ≤ 40
  · obtain rfl | rfl | rfl | rfl | rfl | rfl | rfl | rfl | rfl | rfl | rfl | rfl | rfl | rfl | rfl | rfl | rfl | rfl | rfl : op = 22 ∨ op = 23 ∨ op = 24 ∨ op = 25 ∨ op = 26 ∨ op = 27 ∨ op = 28 ∨ op = 29 ∨ op = 30 ∨ op = 31 ∨ op = 32 ∨ op = 33 ∨ op = 34 ∨ op = 35 ∨ op = 36 ∨ op = 37 ∨ op = 38 ∨ op = 39 ∨ op = 40 := by omega
    · exact do_22 a b w
    · exact do_23 a b w
    · exact do_24 a b w
    · exact do_25 a b w
    · exact do_26 a b w
    · exact do_27 a b w
    · exact do_28 a b w
    · exact do_29 a b w
    · exact do_30 a b w
    · exact do_31 a b w
    · exact do_32 a b w
    · exact do_33 a b w
    · exact do_34 a b w
    · exact do_35 a b w
    · exact do_36 a b w
    · exact do_37 a b w
    · exact do_38 a b w
    · exact do_39 a b w
    · exact do_40 a b w
  · obtain ⟨h1, h2⟩ := do_zero op a b (by omega)
    rw [h1, h2]
    exact do_none op a b (by omega) w

theorem takes_zero (op : Int) (a b : BitVec 64) (h : op < 5 ∨ 10 < op) : isTk op = false ∧ tkV op a b = false := by
  constructor
  · exact decide_eq_false (by omega)
  · unfold tkV
    split <;> first | omega | rfl
theorem takes_any (op : Int) (a b : BitVec 64) : ∀ w, Calls Tryd.prog 7 #[.int .i64 op, .int .u64 (a.toNat : Int), .int .u64 (b.toNat : Int)] w (Makes (.tuple #[.bool (tkV op a b), .bool (isTk op)]) w) := fun w => by
  by_cases h : 5 ≤ op ∧ op ≤ 10
  · obtain rfl | rfl | rfl | rfl | rfl | rfl : op = 5 ∨ op = 6 ∨ op = 7 ∨ op = 8 ∨ op = 9 ∨ op = 10 := by omega
    · exact takes_5 a b w
    · exact takes_6 a b w
    · exact takes_7 a b w
    · exact takes_8 a b w
    · exact takes_9 a b w
    · exact takes_10 a b w
  · obtain ⟨h1, h2⟩ := takes_zero op a b (by omega)
    rw [h1, h2]
    exact takes_none op a b (by omega) w

/-- The table's cells. -/
def Tab (W : World) : Prop := ∀ k, k < 70 → W.cell? ⟨0, k, none⟩ = some (.int .i64 (wid k : Int))
theorem Tab.behind {W W' : World} (h : Tab W) (hb : Below W.heap.size W W') : Tab W' := fun k hk => c_be hb (h k hk)
set_option maxHeartbeats 1000000 in
theorem width_in (k : Nat) (hk : k < 70) (w : World) (hT : Tab w) : Calls Tryd.prog 9 #[.int .i64 (k : Int)] w (Makes (.int .i64 (wid k : Int)) w) := by
  have hc := hT k hk
  clear hT
  have h1 : (k : Int) < 70 := by omega
  generalize wid k = V at *
  go_enter Tryd.func9, Tryd.ntmps9
  go_wp2
  refine bodyPost_ret (v := .int .i64 (V : Int)) (by simp (maxDischargeDepth := 4) [results, Tryd.results9, go_sem, *]) rfl ?_
  refine ⟨rfl, ?_⟩
  repeat (first | with_reducible assumption | with_reducible exact Below.refl _ _ | with_reducible refine Below.drew ?_ | with_reducible refine below_drewN ?_ _ | with_reducible refine bw_alloc ?_ _ | (with_reducible refine bw_set ?_ ?_ _; focus (dsimp only; omega)) | (with_reducible apply bw_behind; with_reducible assumption))

set_option maxHeartbeats 1000000 in
theorem width_lo (op : Int) (h : op < 0) (w : World) : Calls Tryd.prog 9 #[.int .i64 op] w (Makes (.int .i64 0) w) := by
  go_enter Tryd.func9, Tryd.ntmps9
  go_wp2
  refine bodyPost_ret (v := .int .i64 0) (by simp (maxDischargeDepth := 4) [results, Tryd.results9, go_sem, *]) rfl ?_
  refine ⟨rfl, ?_⟩
  repeat (first | with_reducible assumption | with_reducible exact Below.refl _ _ | with_reducible refine Below.drew ?_ | with_reducible refine below_drewN ?_ _ | with_reducible refine bw_alloc ?_ _ | (with_reducible refine bw_set ?_ ?_ _; focus (dsimp only; omega)) | (with_reducible apply bw_behind; with_reducible assumption))

set_option maxHeartbeats 1000000 in
theorem width_hi (op : Int) (h : 70 ≤ op) (w : World) : Calls Tryd.prog 9 #[.int .i64 op] w (Makes (.int .i64 0) w) := by
  have h0 : 0 ≤ op := by omega
  go_enter Tryd.func9, Tryd.ntmps9
  go_wp2
  refine bodyPost_ret (v := .int .i64 0) (by simp (maxDischargeDepth := 4) [results, Tryd.results9, go_sem, *]) rfl ?_
  refine ⟨rfl, ?_⟩
  repeat (first | with_reducible assumption | with_reducible exact Below.refl _ _ | with_reducible refine Below.drew ?_ | with_reducible refine below_drewN ?_ _ | with_reducible refine bw_alloc ?_ _ | (with_reducible refine bw_set ?_ ?_ _; focus (dsimp only; omega)) | (with_reducible apply bw_behind; with_reducible assumption))

theorem width_any (op : Int) (w : World) (hT : Tab w) : Calls Tryd.prog 9 #[.int .i64 op] w (Makes (.int .i64 (widI op)) w) := by
  unfold widI
  by_cases h : op < 0
  · rw [if_pos h]; exact width_lo op h w
  · rw [if_neg h]
    by_cases h2 : op < 70
    · have h3 := width_in op.toNat (by omega) w hT
      rwa [show ((op.toNat : Nat) : Int) = op from by omega] at h3
    · rw [wid_hi _ (by omega)]
      exact width_hi op (by omega) w

set_option maxHeartbeats 1000000 in
theorem extend_11 (v : BitVec 64) (w : World) (hT : Tab w) : Calls Tryd.prog 11 #[.int .i64 11, .int .u64 (v.toNat : Int)] w (Makes (.int .u64 ((signB v 8).toNat : Int)) w) := by
  have c1 : Calls Tryd.prog 9 #[.int .i64 11] w (Makes (.int .i64 1) w) := width_in 11 (by decide) w hT
  clear hT
  have c2 := (fun W => sign_any v 8 W)
  generalize signB v 8 = R at *
  have C1 := hide c1
  have C2 := hide c2
  clear c1 c2
  go_enter Tryd.func11, Tryd.ntmps11
  go_wp2_with (first | (go_at_call 9; (with_reducible refine C1.out.mono ?_); rintro e w1 ⟨rfl, hb1⟩) | (go_at_call 23; (with_reducible first | refine (C2.out _).mono ?_); rintro e w' ⟨rfl, n1, rfl⟩))
  refine bodyPost_ret (v := .int .u64 (R.toNat : Int)) (by simp (maxDischargeDepth := 4) [results, Tryd.results11, go_sem, *]) rfl ?_
  refine ⟨rfl, ?_⟩
  repeat (first | with_reducible assumption | with_reducible exact Below.refl _ _ | with_reducible refine Below.drew ?_ | with_reducible refine below_drewN ?_ _ | with_reducible refine bw_alloc ?_ _ | (with_reducible refine bw_set ?_ ?_ _; focus (dsimp only; omega)) | (with_reducible apply bw_behind; with_reducible assumption))

set_option maxHeartbeats 1000000 in
theorem extend_12 (v : BitVec 64) (w : World) (hT : Tab w) : Calls Tryd.prog 11 #[.int .i64 12, .int .u64 (v.toNat : Int)] w (Makes (.int .u64 ((signB v 16).toNat : Int)) w) := by
  have c1 : Calls Tryd.prog 9 #[.int .i64 12] w (Makes (.int .i64 2) w) := width_in 12 (by decide) w hT
  clear hT
  have c2 := (fun W => sign_any v 16 W)
  generalize signB v 16 = R at *
  have C1 := hide c1
  have C2 := hide c2
  clear c1 c2
  go_enter Tryd.func11, Tryd.ntmps11
  go_wp2_with (first | (go_at_call 9; (with_reducible refine C1.out.mono ?_); rintro e w1 ⟨rfl, hb1⟩) | (go_at_call 23; (with_reducible first | refine (C2.out _).mono ?_); rintro e w' ⟨rfl, n1, rfl⟩))
  refine bodyPost_ret (v := .int .u64 (R.toNat : Int)) (by simp (maxDischargeDepth := 4) [results, Tryd.results11, go_sem, *]) rfl ?_
  refine ⟨rfl, ?_⟩
  repeat (first | with_reducible assumption | with_reducible exact Below.refl _ _ | with_reducible refine Below.drew ?_ | with_reducible refine below_drewN ?_ _ | with_reducible refine bw_alloc ?_ _ | (with_reducible refine bw_set ?_ ?_ _; focus (dsimp only; omega)) | (with_reducible apply bw_behind; with_reducible assumption))

set_option maxHeartbeats 1000000 in
theorem extend_13 (v : BitVec 64) (w : World) (hT : Tab w) : Calls Tryd.prog 11 #[.int .i64 13, .int .u64 (v.toNat : Int)] w (Makes (.int .u64 ((signB v 32).toNat : Int)) w) := by
  have c1 : Calls Tryd.prog 9 #[.int .i64 13] w (Makes (.int .i64 4) w) := width_in 13 (by decide) w hT
  clear hT
  have c2 := (fun W => sign_any v 32 W)
  generalize signB v 32 = R at *
  have C1 := hide c1
  have C2 := hide c2
  clear c1 c2
  go_enter Tryd.func11, Tryd.ntmps11
  go_wp2_with (first | (go_at_call 9; (with_reducible refine C1.out.mono ?_); rintro e w1 ⟨rfl, hb1⟩) | (go_at_call 23; (with_reducible first | refine (C2.out _).mono ?_); rintro e w' ⟨rfl, n1, rfl⟩))
  refine bodyPost_ret (v := .int .u64 (R.toNat : Int)) (by simp (maxDischargeDepth := 4) [results, Tryd.results11, go_sem, *]) rfl ?_
  refine ⟨rfl, ?_⟩
  repeat (first | with_reducible assumption | with_reducible exact Below.refl _ _ | with_reducible refine Below.drew ?_ | with_reducible refine below_drewN ?_ _ | with_reducible refine bw_alloc ?_ _ | (with_reducible refine bw_set ?_ ?_ _; focus (dsimp only; omega)) | (with_reducible apply bw_behind; with_reducible assumption))

set_option maxHeartbeats 1000000 in
theorem extend_14 (v : BitVec 64) (w : World) (hT : Tab w) : Calls Tryd.prog 11 #[.int .i64 14, .int .u64 (v.toNat : Int)] w (Makes (.int .u64 ((v).toNat : Int)) w) := by
  have c1 : Calls Tryd.prog 9 #[.int .i64 14] w (Makes (.int .i64 8) w) := width_in 14 (by decide) w hT
  clear hT
  have c2 := (fun W => get_any v 0 64 W)
  rw [get_all] at c2
  obtain ⟨R, rfl⟩ : ∃ R, R = v := ⟨_, rfl⟩
  have C1 := hide c1
  have C2 := hide c2
  clear c1 c2
  go_enter Tryd.func11, Tryd.ntmps11
  go_wp2_with (first | (go_at_call 9; (with_reducible refine C1.out.mono ?_); rintro e w1 ⟨rfl, hb1⟩) | (go_at_call 24; (with_reducible first | refine (C2.out _).mono ?_); rintro e w' ⟨rfl, n1, rfl⟩))
  refine bodyPost_ret (v := .int .u64 (R.toNat : Int)) (by simp (maxDischargeDepth := 4) [results, Tryd.results11, go_sem, *]) rfl ?_
  refine ⟨rfl, ?_⟩
  repeat (first | with_reducible assumption | with_reducible exact Below.refl _ _ | with_reducible refine Below.drew ?_ | with_reducible refine below_drewN ?_ _ | with_reducible refine bw_alloc ?_ _ | (with_reducible refine bw_set ?_ ?_ _; focus (dsimp only; omega)) | (with_reducible apply bw_behind; with_reducible assumption))

set_option maxHeartbeats 1000000 in
theorem extend_15 (v : BitVec 64) (w : World) (hT : Tab w) : Calls Tryd.prog 11 #[.int .i64 15, .int .u64 (v.toNat : Int)] w (Makes (.int .u64 ((getB v 0 8).toNat : Int)) w) := by
  have c1 : Calls Tryd.prog 9 #[.int .i64 15] w (Makes (.int .i64 1) w) := width_in 15 (by decide) w hT
  clear hT
  have c2 := (fun W => get_any v 0 8 W)
  generalize getB v 0 8 = R at *
  have C1 := hide c1
  have C2 := hide c2
  clear c1 c2
  go_enter Tryd.func11, Tryd.ntmps11
  go_wp2_with (first | (go_at_call 9; (with_reducible refine C1.out.mono ?_); rintro e w1 ⟨rfl, hb1⟩) | (go_at_call 24; (with_reducible first | refine (C2.out _).mono ?_); rintro e w' ⟨rfl, n1, rfl⟩))
  refine bodyPost_ret (v := .int .u64 (R.toNat : Int)) (by simp (maxDischargeDepth := 4) [results, Tryd.results11, go_sem, *]) rfl ?_
  refine ⟨rfl, ?_⟩
  repeat (first | with_reducible assumption | with_reducible exact Below.refl _ _ | with_reducible refine Below.drew ?_ | with_reducible refine below_drewN ?_ _ | with_reducible refine bw_alloc ?_ _ | (with_reducible refine bw_set ?_ ?_ _; focus (dsimp only; omega)) | (with_reducible apply bw_behind; with_reducible assumption))

set_option maxHeartbeats 1000000 in
theorem extend_16 (v : BitVec 64) (w : World) (hT : Tab w) : Calls Tryd.prog 11 #[.int .i64 16, .int .u64 (v.toNat : Int)] w (Makes (.int .u64 ((getB v 0 16).toNat : Int)) w) := by
  have c1 : Calls Tryd.prog 9 #[.int .i64 16] w (Makes (.int .i64 2) w) := width_in 16 (by decide) w hT
  clear hT
  have c2 := (fun W => get_any v 0 16 W)
  generalize getB v 0 16 = R at *
  have C1 := hide c1
  have C2 := hide c2
  clear c1 c2
  go_enter Tryd.func11, Tryd.ntmps11
  go_wp2_with (first | (go_at_call 9; (with_reducible refine C1.out.mono ?_); rintro e w1 ⟨rfl, hb1⟩) | (go_at_call 24; (with_reducible first | refine (C2.out _).mono ?_); rintro e w' ⟨rfl, n1, rfl⟩))
  refine bodyPost_ret (v := .int .u64 (R.toNat : Int)) (by simp (maxDischargeDepth := 4) [results, Tryd.results11, go_sem, *]) rfl ?_
  refine ⟨rfl, ?_⟩
  repeat (first | with_reducible assumption | with_reducible exact Below.refl _ _ | with_reducible refine Below.drew ?_ | with_reducible refine below_drewN ?_ _ | with_reducible refine bw_alloc ?_ _ | (with_reducible refine bw_set ?_ ?_ _; focus (dsimp only; omega)) | (with_reducible apply bw_behind; with_reducible assumption))

set_option maxHeartbeats 1000000 in
theorem extend_17 (v : BitVec 64) (w : World) (hT : Tab w) : Calls Tryd.prog 11 #[.int .i64 17, .int .u64 (v.toNat : Int)] w (Makes (.int .u64 ((getB v 0 32).toNat : Int)) w) := by
  have c1 : Calls Tryd.prog 9 #[.int .i64 17] w (Makes (.int .i64 4) w) := width_in 17 (by decide) w hT
  clear hT
  have c2 := (fun W => get_any v 0 32 W)
  generalize getB v 0 32 = R at *
  have C1 := hide c1
  have C2 := hide c2
  clear c1 c2
  go_enter Tryd.func11, Tryd.ntmps11
  go_wp2_with (first | (go_at_call 9; (with_reducible refine C1.out.mono ?_); rintro e w1 ⟨rfl, hb1⟩) | (go_at_call 24; (with_reducible first | refine (C2.out _).mono ?_); rintro e w' ⟨rfl, n1, rfl⟩))
  refine bodyPost_ret (v := .int .u64 (R.toNat : Int)) (by simp (maxDischargeDepth := 4) [results, Tryd.results11, go_sem, *]) rfl ?_
  refine ⟨rfl, ?_⟩
  repeat (first | with_reducible assumption | with_reducible exact Below.refl _ _ | with_reducible refine Below.drew ?_ | with_reducible refine below_drewN ?_ _ | with_reducible refine bw_alloc ?_ _ | (with_reducible refine bw_set ?_ ?_ _; focus (dsimp only; omega)) | (with_reducible apply bw_behind; with_reducible assumption))

set_option maxHeartbeats 1000000 in
theorem extend_none (op : Int) (v : BitVec 64) (h : op < 11 ∨ 17 < op) (w : World) (hT : Tab w) : Calls Tryd.prog 11 #[.int .i64 op, .int .u64 (v.toNat : Int)] w (Makes (.int .u64 0) w) := by
  have c1 := width_any op w hT
  clear hT
  have n11 : (op == 11) = false := by simp; omega
  have n12 : (op == 12) = false := by simp; omega
  have n13 : (op == 13) = false := by simp; omega
  have n14 : (op == 14) = false := by simp; omega
  have n15 : (op == 15) = false := by simp; omega
  have n16 : (op == 16) = false := by simp; omega
  have n17 : (op == 17) = false := by simp; omega
  clear h
  generalize widI op = V at *
  have C1 := hide c1
  clear c1
  go_enter Tryd.func11, Tryd.ntmps11
  go_wp2_with (go_at_call 9; (with_reducible refine C1.out.mono ?_); rintro e w1 ⟨rfl, hb1⟩)
  refine bodyPost_ret (v := .int .u64 0) (by simp (maxDischargeDepth := 4) [results, Tryd.results11, go_sem, *]) rfl ?_
  refine ⟨rfl, ?_⟩
  repeat (first | with_reducible assumption | with_reducible exact Below.refl _ _ | with_reducible refine Below.drew ?_ | with_reducible refine below_drewN ?_ _ | with_reducible refine bw_alloc ?_ _ | (with_reducible refine bw_set ?_ ?_ _; focus (dsimp only; omega)) | (with_reducible apply bw_behind; with_reducible assumption))

theorem ext_zero (op : Int) (v : BitVec 64) (h : op < 11 ∨ 17 < op) : extV op v = 0 := by
  unfold extV
  split <;> first | omega | rfl
theorem extend_any (op : Int) (v : BitVec 64) (w : World) (hT : Tab w) : Calls Tryd.prog 11 #[.int .i64 op, .int .u64 (v.toNat : Int)] w (Makes (.int .u64 ((extV op v).toNat : Int)) w) := by
  by_cases h : 11 ≤ op ∧ op ≤ 17
  · obtain rfl | rfl | rfl | rfl | rfl | rfl | rfl : op = 11 ∨ op = 12 ∨ op = 13 ∨ op = 14 ∨ op = 15 ∨ op = 16 ∨ op = 17 := by omega
    · exact extend_11 v w hT
    · exact extend_12 v w hT
    · exact extend_13 v w hT
    · exact extend_14 v w hT
    · exact extend_15 v w hT
    · exact extend_16 v w hT
    · exact extend_17 v w hT
  · rw [ext_zero op v (by omega)]
    exact extend_none op v (by omega) w hT

set_option maxHeartbeats 1000000 in
theorem loads_yes (op : Int) (h1 : 11 ≤ op) (h2 : op ≤ 17) : ∀ w, Calls Tryd.prog 13 #[.int .i64 op] w (Makes (.bool true) w) := fun w => by
  go_enter Tryd.func13, Tryd.ntmps13
  go_wp2
  refine bodyPost_ret (v := .bool true) (by simp (maxDischargeDepth := 4) [results, Tryd.results13, go_sem, *]) rfl ?_
  refine ⟨rfl, ?_⟩
  repeat (first | with_reducible assumption | with_reducible exact Below.refl _ _ | with_reducible refine Below.drew ?_ | with_reducible refine below_drewN ?_ _ | with_reducible refine bw_alloc ?_ _ | (with_reducible refine bw_set ?_ ?_ _; focus (dsimp only; omega)) | (with_reducible apply bw_behind; with_reducible assumption))

set_option maxHeartbeats 1000000 in
theorem loads_lo (op : Int) (h1 : op < 11) : ∀ w, Calls Tryd.prog 13 #[.int .i64 op] w (Makes (.bool false) w) := fun w => by
  go_enter Tryd.func13, Tryd.ntmps13
  go_wp2
  refine bodyPost_ret (v := .bool false) (by simp (maxDischargeDepth := 4) [results, Tryd.results13, go_sem, *]) rfl ?_
  refine ⟨rfl, ?_⟩
  repeat (first | with_reducible assumption | with_reducible exact Below.refl _ _ | with_reducible refine Below.drew ?_ | with_reducible refine below_drewN ?_ _ | with_reducible refine bw_alloc ?_ _ | (with_reducible refine bw_set ?_ ?_ _; focus (dsimp only; omega)) | (with_reducible apply bw_behind; with_reducible assumption))

set_option maxHeartbeats 1000000 in
theorem loads_hi (op : Int) (h1 : 11 ≤ op) (h2 : 17 < op) : ∀ w, Calls Tryd.prog 13 #[.int .i64 op] w (Makes (.bool false) w) := fun w => by
  go_enter Tryd.func13, Tryd.ntmps13
  go_wp2
  refine bodyPost_ret (v := .bool false) (by simp (maxDischargeDepth := 4) [results, Tryd.results13, go_sem, *]) rfl ?_
  refine ⟨rfl, ?_⟩
  repeat (first | with_reducible assumption | with_reducible exact Below.refl _ _ | with_reducible refine Below.drew ?_ | with_reducible refine below_drewN ?_ _ | with_reducible refine bw_alloc ?_ _ | (with_reducible refine bw_set ?_ ?_ _; focus (dsimp only; omega)) | (with_reducible apply bw_behind; with_reducible assumption))

set_option maxHeartbeats 1000000 in
theorem stores_yes (op : Int) (h1 : 18 ≤ op) (h2 : op ≤ 21) : ∀ w, Calls Tryd.prog 14 #[.int .i64 op] w (Makes (.bool true) w) := fun w => by
  go_enter Tryd.func14, Tryd.ntmps14
  go_wp2
  refine bodyPost_ret (v := .bool true) (by simp (maxDischargeDepth := 4) [results, Tryd.results14, go_sem, *]) rfl ?_
  refine ⟨rfl, ?_⟩
  repeat (first | with_reducible assumption | with_reducible exact Below.refl _ _ | with_reducible refine Below.drew ?_ | with_reducible refine below_drewN ?_ _ | with_reducible refine bw_alloc ?_ _ | (with_reducible refine bw_set ?_ ?_ _; focus (dsimp only; omega)) | (with_reducible apply bw_behind; with_reducible assumption))

set_option maxHeartbeats 1000000 in
theorem stores_lo (op : Int) (h1 : op < 18) : ∀ w, Calls Tryd.prog 14 #[.int .i64 op] w (Makes (.bool false) w) := fun w => by
  go_enter Tryd.func14, Tryd.ntmps14
  go_wp2
  refine bodyPost_ret (v := .bool false) (by simp (maxDischargeDepth := 4) [results, Tryd.results14, go_sem, *]) rfl ?_
  refine ⟨rfl, ?_⟩
  repeat (first | with_reducible assumption | with_reducible exact Below.refl _ _ | with_reducible refine Below.drew ?_ | with_reducible refine below_drewN ?_ _ | with_reducible refine bw_alloc ?_ _ | (with_reducible refine bw_set ?_ ?_ _; focus (dsimp only; omega)) | (with_reducible apply bw_behind; with_reducible assumption))

set_option maxHeartbeats 1000000 in
theorem stores_hi (op : Int) (h1 : 18 ≤ op) (h2 : 21 < op) : ∀ w, Calls Tryd.prog 14 #[.int .i64 op] w (Makes (.bool false) w) := fun w => by
  go_enter Tryd.func14, Tryd.ntmps14
  go_wp2
  refine bodyPost_ret (v := .bool false) (by simp (maxDischargeDepth := 4) [results, Tryd.results14, go_sem, *]) rfl ?_
  refine ⟨rfl, ?_⟩
  repeat (first | with_reducible assumption | with_reducible exact Below.refl _ _ | with_reducible refine Below.drew ?_ | with_reducible refine below_drewN ?_ _ | with_reducible refine bw_alloc ?_ _ | (with_reducible refine bw_set ?_ ?_ _; focus (dsimp only; omega)) | (with_reducible apply bw_behind; with_reducible assumption))

set_option maxHeartbeats 1000000 in
theorem branches_yes (op : Int) (h1 : 5 ≤ op) (h2 : op ≤ 10) : ∀ w, Calls Tryd.prog 15 #[.int .i64 op] w (Makes (.bool true) w) := fun w => by
  go_enter Tryd.func15, Tryd.ntmps15
  go_wp2
  refine bodyPost_ret (v := .bool true) (by simp (maxDischargeDepth := 4) [results, Tryd.results15, go_sem, *]) rfl ?_
  refine ⟨rfl, ?_⟩
  repeat (first | with_reducible assumption | with_reducible exact Below.refl _ _ | with_reducible refine Below.drew ?_ | with_reducible refine below_drewN ?_ _ | with_reducible refine bw_alloc ?_ _ | (with_reducible refine bw_set ?_ ?_ _; focus (dsimp only; omega)) | (with_reducible apply bw_behind; with_reducible assumption))

set_option maxHeartbeats 1000000 in
theorem branches_lo (op : Int) (h1 : op < 5) : ∀ w, Calls Tryd.prog 15 #[.int .i64 op] w (Makes (.bool false) w) := fun w => by
  go_enter Tryd.func15, Tryd.ntmps15
  go_wp2
  refine bodyPost_ret (v := .bool false) (by simp (maxDischargeDepth := 4) [results, Tryd.results15, go_sem, *]) rfl ?_
  refine ⟨rfl, ?_⟩
  repeat (first | with_reducible assumption | with_reducible exact Below.refl _ _ | with_reducible refine Below.drew ?_ | with_reducible refine below_drewN ?_ _ | with_reducible refine bw_alloc ?_ _ | (with_reducible refine bw_set ?_ ?_ _; focus (dsimp only; omega)) | (with_reducible apply bw_behind; with_reducible assumption))

set_option maxHeartbeats 1000000 in
theorem branches_hi (op : Int) (h1 : 5 ≤ op) (h2 : 10 < op) : ∀ w, Calls Tryd.prog 15 #[.int .i64 op] w (Makes (.bool false) w) := fun w => by
  go_enter Tryd.func15, Tryd.ntmps15
  go_wp2
  refine bodyPost_ret (v := .bool false) (by simp (maxDischargeDepth := 4) [results, Tryd.results15, go_sem, *]) rfl ?_
  refine ⟨rfl, ?_⟩
  repeat (first | with_reducible assumption | with_reducible exact Below.refl _ _ | with_reducible refine Below.drew ?_ | with_reducible refine below_drewN ?_ _ | with_reducible refine bw_alloc ?_ _ | (with_reducible refine bw_set ?_ ?_ _; focus (dsimp only; omega)) | (with_reducible apply bw_behind; with_reducible assumption))

set_option maxHeartbeats 1000000 in
theorem immediate_yes (op : Int) (h1 : 22 ≤ op) (h2 : op ≤ 30) : ∀ w, Calls Tryd.prog 16 #[.int .i64 op] w (Makes (.bool true) w) := fun w => by
  go_enter Tryd.func16, Tryd.ntmps16
  go_wp2
  refine bodyPost_ret (v := .bool true) (by simp (maxDischargeDepth := 4) [results, Tryd.results16, go_sem, *]) rfl ?_
  refine ⟨rfl, ?_⟩
  repeat (first | with_reducible assumption | with_reducible exact Below.refl _ _ | with_reducible refine Below.drew ?_ | with_reducible refine below_drewN ?_ _ | with_reducible refine bw_alloc ?_ _ | (with_reducible refine bw_set ?_ ?_ _; focus (dsimp only; omega)) | (with_reducible apply bw_behind; with_reducible assumption))

set_option maxHeartbeats 1000000 in
theorem immediate_lo (op : Int) (h1 : op < 22) : ∀ w, Calls Tryd.prog 16 #[.int .i64 op] w (Makes (.bool false) w) := fun w => by
  go_enter Tryd.func16, Tryd.ntmps16
  go_wp2
  refine bodyPost_ret (v := .bool false) (by simp (maxDischargeDepth := 4) [results, Tryd.results16, go_sem, *]) rfl ?_
  refine ⟨rfl, ?_⟩
  repeat (first | with_reducible assumption | with_reducible exact Below.refl _ _ | with_reducible refine Below.drew ?_ | with_reducible refine below_drewN ?_ _ | with_reducible refine bw_alloc ?_ _ | (with_reducible refine bw_set ?_ ?_ _; focus (dsimp only; omega)) | (with_reducible apply bw_behind; with_reducible assumption))

set_option maxHeartbeats 1000000 in
theorem immediate_hi (op : Int) (h1 : 22 ≤ op) (h2 : 30 < op) : ∀ w, Calls Tryd.prog 16 #[.int .i64 op] w (Makes (.bool false) w) := fun w => by
  go_enter Tryd.func16, Tryd.ntmps16
  go_wp2
  refine bodyPost_ret (v := .bool false) (by simp (maxDischargeDepth := 4) [results, Tryd.results16, go_sem, *]) rfl ?_
  refine ⟨rfl, ?_⟩
  repeat (first | with_reducible assumption | with_reducible exact Below.refl _ _ | with_reducible refine Below.drew ?_ | with_reducible refine below_drewN ?_ _ | with_reducible refine bw_alloc ?_ _ | (with_reducible refine bw_set ?_ ?_ _; focus (dsimp only; omega)) | (with_reducible apply bw_behind; with_reducible assumption))
end Go.Proofs.YtholamocbkfcmaaDoor
