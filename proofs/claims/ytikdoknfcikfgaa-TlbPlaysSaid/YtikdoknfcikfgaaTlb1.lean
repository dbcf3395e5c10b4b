/-
  What setOf, of, isOf and the three closures answer.
-/
import Derived.Test.YtikdoknfcikfgaaTlbMem
namespace Go.Proofs.Ytikdoknfcikfgaa
open Go.RowKit

set_option maxRecDepth 100000 in
set_option maxHeartbeats 400000 in
theorem setof_let (X Y : Int) (_h : X % 4 = Y) (_h0 : 0 ≤ X) (_h2 : IntKind.u64.wrap Y = Y) (_h3 : X.tmod 4 = Y) (w : World) : Calls Try.prog 21 #[.int .u64 X] w (Quiet (.int .u64 Y) w) := by
  go_enter Try.func21, Try.ntmps21
  go_wp2
  go_ret
  exact ⟨rfl, 0, rfl⟩
theorem setof_any (X : Int) (q : Nat) (h : X % 4 = (q : Int)) (h0 : 0 ≤ X) (w : World) : Calls Try.prog 21 #[.int .u64 X] w (Quiet (.int .u64 (q : Int)) w) :=
  setof_let X (q : Int) h h0 (by rw [IntKind.wrap_u64]; omega) (by rw [Int.tmod_eq_emod_of_nonneg h0]; exact h) w

set_option maxRecDepth 100000 in
set_option maxHeartbeats 400000 in
theorem isof_let (A B X a n : Int) (w : World) : Calls Try.prog 23 #[.agg #[.int .u64 A, .int .u64 B, .bool false, .bool false, .bool false, .bool false, .bool false, .bool false, .bool false, .bool false, .bool false, .bool false, .bool false, .bool false, .int .u64 0, .int .u64 X], .int .u64 a, .int .u64 n] w (Makes (.bool ((A == a) && (B == n))) w) := by
  have SS := cell_same
  have LB' := ltB_add
  have LS := ltB_self
  have LA' := alloc_reads
  have LH := alloc_holds
  by_cases e : A = a
  · subst e
    go_enter Try.func23, Try.ntmps23
    go_wp2
    go_ret
    refine ⟨by simp, ?_⟩
    repeat (first | with_reducible assumption | with_reducible exact Below.refl _ _ | with_reducible refine Below.drew ?_ | with_reducible refine below_drewN ?_ _ | with_reducible refine bw_alloc ?_ _ | (with_reducible refine bw_set ?_ ?_ _; focus (dsimp only; omega)) | (with_reducible apply bw_behind; with_reducible assumption))
  · have e2 : (A == a) = false := by simpa using e
    go_enter Try.func23, Try.ntmps23
    go_wp2
    go_ret
    refine ⟨by simp [e2], ?_⟩
    repeat (first | with_reducible assumption | with_reducible exact Below.refl _ _ | with_reducible refine Below.drew ?_ | with_reducible refine below_drewN ?_ _ | with_reducible refine bw_alloc ?_ _ | (with_reducible refine bw_set ?_ ?_ _; focus (dsimp only; omega)) | (with_reducible apply bw_behind; with_reducible assumption))

set_option maxRecDepth 100000 in
set_option maxHeartbeats 400000 in
theorem cdrop_let (A B X a n : Int) (ba bn : Nat) (w : World) (ga : w.cell? ⟨ba, 0, none⟩ = some (.int .u64 a)) (gn : w.cell? ⟨bn, 0, none⟩ = some (.int .u64 n)) : Calls Try.prog 25 #[.agg #[.int .u64 A, .int .u64 B, .bool false, .bool false, .bool false, .bool false, .bool false, .bool false, .bool false, .bool false, .bool false, .bool false, .bool false, .bool false, .int .u64 0, .int .u64 X], .pointer (some ⟨ba, 0, none⟩), .pointer (some ⟨bn, 0, none⟩)] w (Makes (.bool ((A == a) && (B == n))) w) := by
  have SS := cell_same
  have LB' := ltB_add
  have LS := ltB_self
  have LA' := alloc_reads
  have LH := alloc_holds
  have C1 := hide (fun W => isof_let A B X a n W)
  have hba : ltB ba w.heap.size = true := decide_eq_true (World.block_lt_of_cell? _ _ ga)
  have hbn : ltB bn w.heap.size = true := decide_eq_true (World.block_lt_of_cell? _ _ gn)
  go_enter Try.func25, Try.ntmps25
  go_wp2_with (go_at_call 23; (with_reducible refine (C1.out _).mono ?_); rintro e w1 ⟨rfl, hb1⟩; have hr1 := below_reads hb1; have hh1 := below_holds hb1; obtain ⟨m1, hs1⟩ := below_grew hb1)
  go_ret
  refine ⟨rfl, ?_⟩
  repeat (first | with_reducible assumption | with_reducible exact Below.refl _ _ | with_reducible refine Below.drew ?_ | with_reducible refine below_drewN ?_ _ | with_reducible refine bw_alloc ?_ _ | (with_reducible refine bw_set ?_ ?_ _; focus (dsimp only; omega)) | (with_reducible apply bw_behind; with_reducible assumption))

set_option maxRecDepth 100000 in
set_option maxHeartbeats 400000 in
theorem cflush_let (A B X a : Int) (ba : Nat) (w : World) (ga : w.cell? ⟨ba, 0, none⟩ = some (.int .u64 a)) : Calls Try.prog 26 #[.agg #[.int .u64 A, .int .u64 B, .bool false, .bool false, .bool false, .bool false, .bool false, .bool false, .bool false, .bool false, .bool false, .bool false, .bool false, .bool false, .int .u64 0, .int .u64 X], .pointer (some ⟨ba, 0, none⟩)] w (Makes (.bool (A == a)) w) := by
  have SS := cell_same
  have LB' := ltB_add
  have LS := ltB_self
  have LA' := alloc_reads
  have LH := alloc_holds
  have hba : ltB ba w.heap.size = true := decide_eq_true (World.block_lt_of_cell? _ _ ga)
  go_enter Try.func26, Try.ntmps26
  go_wp2
  go_ret
  refine ⟨rfl, ?_⟩
  repeat (first | with_reducible assumption | with_reducible exact Below.refl _ _ | with_reducible refine Below.drew ?_ | with_reducible refine below_drewN ?_ _ | with_reducible refine bw_alloc ?_ _ | (with_reducible refine bw_set ?_ ?_ _; focus (dsimp only; omega)) | (with_reducible apply bw_behind; with_reducible assumption))

set_option maxRecDepth 100000 in
set_option maxHeartbeats 400000 in
theorem cclear_let (A B X : Int) (w : World) : Calls Try.prog 27 #[.agg #[.int .u64 A, .int .u64 B, .bool false, .bool false, .bool false, .bool false, .bool false, .bool false, .bool false, .bool false, .bool false, .bool false, .bool false, .bool false, .int .u64 0, .int .u64 X]] w (Makes (.bool true) w) := by
  have SS := cell_same
  have LB' := ltB_add
  have LS := ltB_self
  have LA' := alloc_reads
  have LH := alloc_holds
  go_enter Try.func27, Try.ntmps27
  go_wp2
  go_ret
  refine ⟨rfl, ?_⟩
  repeat (first | with_reducible assumption | with_reducible exact Below.refl _ _ | with_reducible refine Below.drew ?_ | with_reducible refine below_drewN ?_ _ | with_reducible refine bw_alloc ?_ _ | (with_reducible refine bw_set ?_ ?_ _; focus (dsimp only; omega)) | (with_reducible apply bw_behind; with_reducible assumption))

set_option maxRecDepth 100000 in
set_option maxHeartbeats 400000 in
theorem of_let (N q : Nat) (n : Nat) (hn : n ≤ 2) (hq : q < 4) (w : World) (hc : w.cell? ⟨N, 128 + q, none⟩ = some (.int .i64 (n : Int))) : Calls Try.prog 22 #[.pointer (some ⟨N, 0, none⟩), .int .u64 (q : Int)] w (Quiet (.slice (some ⟨N, q * 32, none⟩) n n) w) := by
  have h1 : ¬ ((4 : Int) ≤ (q : Int)) := by omega
  have h2 : (q : Int) < 4 := by omega
  have h3 : (0 : Int) ≤ (q : Int) := by omega
  have h4 : (0 : Int) ≤ (n : Int) := by omega
  have h5 : (n : Int) ≤ 2 := by omega
  have h6 : (n : Int) ≤ ((2 : Nat) : Int) := by omega
  go_enter Try.func22, Try.ntmps22
  go_wp2
  trace_state
  go_ret
  exact ⟨rfl, 0, rfl⟩
end Go.Proofs.Ytikdoknfcikfgaa
