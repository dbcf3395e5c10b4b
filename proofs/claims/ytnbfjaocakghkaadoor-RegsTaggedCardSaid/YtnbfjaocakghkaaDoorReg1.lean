/-
  What isKept, Get, With, Set, Zero and replaced answer, and the document's Get and With.
-/
import Derived.Test.YtnbfjaocakghkaaDoorRegWp
import Derived.Test.YtnbfjaocakghkaaDoorRegBase
namespace Go.Proofs.YtnbfjaocakghkaaDoor
open Go.RowKit

set_option maxHeartbeats 1000000 in
theorem kept_yes (n : Int) (h1 : 1 ≤ n) (h2 : n < 32) (w : World) : Calls Tryd.prog 30 #[.int .i64 n] w (Quiet (.bool true) w) := by
  go_enter Tryd.func30, Tryd.ntmps30
  go_wp2
  go_ret
  exact ⟨ret_bool (by simp), 0, rfl⟩

set_option maxHeartbeats 1000000 in
theorem kept_no1 (n : Int) (h1 : ¬ 1 ≤ n) (w : World) : Calls Tryd.prog 30 #[.int .i64 n] w (Quiet (.bool false) w) := by
  go_enter Tryd.func30, Tryd.ntmps30
  go_wp2
  go_ret
  exact ⟨ret_bool (by simp), 0, rfl⟩

set_option maxHeartbeats 1000000 in
theorem kept_no2 (n : Int) (h1 : 1 ≤ n) (h2 : ¬ n < 32) (w : World) : Calls Tryd.prog 30 #[.int .i64 n] w (Quiet (.bool false) w) := by
  go_enter Tryd.func30, Tryd.ntmps30
  go_wp2
  go_ret
  exact ⟨ret_bool (by simp), 0, rfl⟩

theorem kept_no (n : Int) (h : ¬ (1 ≤ n ∧ n < 32)) (w : World) : Calls Tryd.prog 30 #[.int .i64 n] w (Quiet (.bool false) w) := by
  by_cases h1 : 1 ≤ n
  · exact kept_no2 n h1 (fun h2 => h ⟨h1, h2⟩) w
  · exact kept_no1 n h1 w

set_option maxHeartbeats 1000000 in
theorem get_yes (R : Nat → C3) (k : Nat) (h1 : 1 ≤ k) (h2 : k < 32) (w : World) : Calls Tryd.prog 10 #[.agg (ctxA R), .int .i64 (k : Int)] w (Makes (capV (R k)) w) := by
  have C1 := hide (fun W => kept_yes (k : Int) (by omega) (by omega) W)
  have e1 : (0 : Int) ≤ (k : Int) := by omega
  have e2 : (k : Int) < 32 := by omega
  have e3 : (1 : Int) ≤ (k : Int) := by omega
  have e4 : ¬ (k : Int) < 1 := by omega
  have e5 : ¬ (31 : Int) < (k : Int) := by omega
  have e6 : (k : Int) ≤ 31 := by omega
  obtain ⟨z0, z1, z2⟩ := ctxA_cells R k (by omega)
  generalize ctxA R = cs at *
  unfold capV
  generalize R k = c at *
  obtain ⟨t, m, a⟩ := c
  dsimp only at *
  go_enter Tryd.func10, Tryd.ntmps10
  go_wp2_with (first | (go_at_call 30; (with_reducible first | refine (C1.out _).mono ?_); rintro e w' ⟨rfl, n1, rfl⟩))
  refine bodyPost_ret (v := .agg #[.bool t, .int .u64 (m : Int), .int .u64 (a : Int)]) (by simp (maxDischargeDepth := 4) [results, Tryd.results10, go_sem, *]) rfl ?_
  refine ⟨rfl, ?_⟩
  repeat (first | with_reducible assumption | with_reducible exact Below.refl _ _ | with_reducible refine Below.drew ?_ | with_reducible refine below_drewN ?_ _ | with_reducible refine bw_alloc ?_ _ | (with_reducible refine bw_set ?_ ?_ _; focus (dsimp only; omega)) | (with_reducible apply bw_behind; with_reducible assumption))

set_option maxHeartbeats 1000000 in
theorem rget_yes (R : Nat → C3) (k : Nat) (h1 : 1 ≤ k) (h2 : k < 32) (w : World) : Calls Tryd.prog 11 #[.agg (ctxA R), .int .i64 (k : Int)] w (Makes (capV (R k)) w) := by
  have C1 := hide (fun W => kept_yes (k : Int) (by omega) (by omega) W)
  have e1 : (0 : Int) ≤ (k : Int) := by omega
  have e2 : (k : Int) < 32 := by omega
  have e3 : (1 : Int) ≤ (k : Int) := by omega
  have e4 : ¬ (k : Int) < 1 := by omega
  have e5 : ¬ (31 : Int) < (k : Int) := by omega
  have e6 : (k : Int) ≤ 31 := by omega
  obtain ⟨z0, z1, z2⟩ := ctxA_cells R k (by omega)
  generalize ctxA R = cs at *
  unfold capV
  generalize R k = c at *
  obtain ⟨t, m, a⟩ := c
  dsimp only at *
  go_enter Tryd.func11, Tryd.ntmps11
  go_wp2_with (first | (go_at_call 30; (with_reducible first | refine (C1.out _).mono ?_); rintro e w' ⟨rfl, n1, rfl⟩))
  refine bodyPost_ret (v := .agg #[.bool t, .int .u64 (m : Int), .int .u64 (a : Int)]) (by simp (maxDischargeDepth := 4) [results, Tryd.results11, go_sem, *]) rfl ?_
  refine ⟨rfl, ?_⟩
  repeat (first | with_reducible assumption | with_reducible exact Below.refl _ _ | with_reducible refine Below.drew ?_ | with_reducible refine below_drewN ?_ _ | with_reducible refine bw_alloc ?_ _ | (with_reducible refine bw_set ?_ ?_ _; focus (dsimp only; omega)) | (with_reducible apply bw_behind; with_reducible assumption))

set_option maxHeartbeats 1000000 in
theorem get_no (R : Nat → C3) (n : Int) (h : ¬ (1 ≤ n ∧ n < 32)) (w : World) : Calls Tryd.prog 10 #[.agg (ctxA R), .int .i64 n] w (Makes (capV zC) w) := by
  have C1 := hide (fun W => kept_no n (by omega) W)
  generalize ctxA R = cs
  unfold capV zC
  go_enter Tryd.func10, Tryd.ntmps10
  go_wp2_with (first | (go_at_call 30; (with_reducible first | refine (C1.out _).mono ?_); rintro e w' ⟨rfl, n1, rfl⟩))
  refine bodyPost_ret (v := .agg #[.bool false, .int .u64 ((0 : Nat) : Int), .int .u64 ((0 : Nat) : Int)]) (by simp (maxDischargeDepth := 4) [results, Tryd.results10, go_sem, *]) rfl ?_
  refine ⟨rfl, ?_⟩
  repeat (first | with_reducible assumption | with_reducible exact Below.refl _ _ | with_reducible refine Below.drew ?_ | with_reducible refine below_drewN ?_ _ | with_reducible refine bw_alloc ?_ _ | (with_reducible refine bw_set ?_ ?_ _; focus (dsimp only; omega)) | (with_reducible apply bw_behind; with_reducible assumption))

set_option maxHeartbeats 1000000 in
theorem rget_no1 (R : Nat → C3) (n : Int) (h1 : n < 1) (w : World) : Calls Tryd.prog 11 #[.agg (ctxA R), .int .i64 n] w (Makes (capV zC) w) := by
  have C1 := hide (fun W => kept_no n (by omega) W)
  generalize ctxA R = cs
  unfold capV zC
  go_enter Tryd.func11, Tryd.ntmps11
  go_wp2_with (first | (go_at_call 30; (with_reducible first | refine (C1.out _).mono ?_); rintro e w' ⟨rfl, n1, rfl⟩))
  refine bodyPost_ret (v := .agg #[.bool false, .int .u64 ((0 : Nat) : Int), .int .u64 ((0 : Nat) : Int)]) (by simp (maxDischargeDepth := 4) [results, Tryd.results11, go_sem, *]) rfl ?_
  refine ⟨rfl, ?_⟩
  repeat (first | with_reducible assumption | with_reducible exact Below.refl _ _ | with_reducible refine Below.drew ?_ | with_reducible refine below_drewN ?_ _ | with_reducible refine bw_alloc ?_ _ | (with_reducible refine bw_set ?_ ?_ _; focus (dsimp only; omega)) | (with_reducible apply bw_behind; with_reducible assumption))

set_option maxHeartbeats 1000000 in
theorem rget_no2 (R : Nat → C3) (n : Int) (h1 : ¬ n < 1) (h2 : 31 < n) (w : World) : Calls Tryd.prog 11 #[.agg (ctxA R), .int .i64 n] w (Makes (capV zC) w) := by
  have C1 := hide (fun W => kept_no n (by omega) W)
  generalize ctxA R = cs
  unfold capV zC
  go_enter Tryd.func11, Tryd.ntmps11
  go_wp2_with (first | (go_at_call 30; (with_reducible first | refine (C1.out _).mono ?_); rintro e w' ⟨rfl, n1, rfl⟩))
  refine bodyPost_ret (v := .agg #[.bool false, .int .u64 ((0 : Nat) : Int), .int .u64 ((0 : Nat) : Int)]) (by simp (maxDischargeDepth := 4) [results, Tryd.results11, go_sem, *]) rfl ?_
  refine ⟨rfl, ?_⟩
  repeat (first | with_reducible assumption | with_reducible exact Below.refl _ _ | with_reducible refine Below.drew ?_ | with_reducible refine below_drewN ?_ _ | with_reducible refine bw_alloc ?_ _ | (with_reducible refine bw_set ?_ ?_ _; focus (dsimp only; omega)) | (with_reducible apply bw_behind; with_reducible assumption))

/-- Register n. -/
def getR (R : Nat → C3) (n : Int) : C3 := if 1 ≤ n ∧ n < 32 then R n.toNat else zC
theorem get_all (R : Nat → C3) (n : Int) (w : World) : Calls Tryd.prog 10 #[.agg (ctxA R), .int .i64 n] w (Makes (capV (getR R n)) w) := by
  unfold getR
  by_cases h : 1 ≤ n ∧ n < 32
  · rw [if_pos h]
    have := get_yes R n.toNat (by omega) (by omega) w
    rwa [show ((n.toNat : Nat) : Int) = n by omega] at this
  · rw [if_neg h]
    exact get_no R n h w

theorem rget_all (R : Nat → C3) (n : Int) (w : World) : Calls Tryd.prog 11 #[.agg (ctxA R), .int .i64 n] w (Makes (capV (getR R n)) w) := by
  unfold getR
  by_cases h : 1 ≤ n ∧ n < 32
  · rw [if_pos h]
    have := rget_yes R n.toNat (by omega) (by omega) w
    rwa [show ((n.toNat : Nat) : Int) = n by omega] at this
  · rw [if_neg h]
    by_cases h1 : n < 1
    · exact rget_no1 R n h1 w
    · exact rget_no2 R n h1 (by omega) w

set_option maxRecDepth 100000 in
set_option maxHeartbeats 1000000 in
theorem with_yes (R : Nat → C3) (k : Nat) (t : Bool) (m a : Nat) (h1 : 1 ≤ k) (h2 : k < 32) (w : World) : Calls Tryd.prog 12 #[.agg (ctxA R), .int .i64 (k : Int), .agg #[.bool t, .int .u64 (m : Int), .int .u64 (a : Int)]] w (Makes (.agg (ctxA (updC R k (t, m, a)))) w) := by
  have C1 := hide (fun W => kept_yes (k : Int) (by omega) (by omega) W)
  have e1 : (0 : Int) ≤ (k : Int) := by omega
  have e2 : (k : Int) < 32 := by omega
  have e3 : (1 : Int) ≤ (k : Int) := by omega
  have e4 : ¬ (k : Int) < 1 := by omega
  have e5 : ¬ (31 : Int) < (k : Int) := by omega
  have e6 : (k : Int) ≤ 31 := by omega
  obtain ⟨Z, hz, hZe⟩ := ctx_zero ctx_p
  have hZs := ctxA_size (fun _ => zC)
  rw [← hZe] at hZs
  clear hZe
  generalize hcs : ctxA R = cs
  have HC := hide hcs
  clear hcs
  go_enter Tryd.func12, Tryd.ntmps12
  go_wp2_with (first | (go_at_call 30; (with_reducible first | refine (C1.out _).mono ?_); rintro e w' ⟨rfl, n1, rfl⟩) | ((refine wpList_store_cap rfl cap_p rfl (t, m, a) (k) rfl rfl (by omega) (by omega) (R := R) ?_ ?_); (focus ((repeat (first | with_reducible assumption | with_reducible refine Ctx.dr ?_ _ | with_reducible refine Ctx.d1 ?_ | with_reducible exact ctx_newE HC.out rfl | (with_reducible refine ctx_newE HC.out ?_; focus (simp [*]; done)) | with_reducible refine Ctx.al ?_ _ | (with_reducible refine x_set ?_ ?_; focus (dsimp only; omega)) | (with_reducible refine x_sc ?_ ?_; focus omega) | (with_reducible refine x_be (by with_reducible assumption) ?_))); done))) | ((refine wpList_load_ctx rfl ctx_p rfl rfl (R := updC R k (t, m, a)) ?_ ?_); (focus ((with_reducible refine ctx_put ?_ (by omega) _); (repeat (first | with_reducible assumption | with_reducible refine Ctx.dr ?_ _ | with_reducible refine Ctx.d1 ?_ | with_reducible exact ctx_newE HC.out rfl | (with_reducible refine ctx_newE HC.out ?_; focus (simp [*]; done)) | with_reducible refine Ctx.al ?_ _ | (with_reducible refine x_set ?_ ?_; focus (dsimp only; omega)) | (with_reducible refine x_sc ?_ ?_; focus omega) | (with_reducible refine x_be (by with_reducible assumption) ?_))); done))) | ((refine wpList_store_ctx rfl ctx_p rfl rfl rfl (R := updC R k (t, m, a)) ?_ ?_); (focus ((repeat (first | with_reducible assumption | exact Ctx.own (by with_reducible assumption) | with_reducible refine o_dr _ ?_ | with_reducible refine o_d1 ?_ | with_reducible refine o_set ?_ | with_reducible refine o_sc ?_ | (with_reducible refine o_new ?_ ?_; (focus (first | rfl | (simp [*]; done) | (simp [*]; omega))); (focus (first | omega | (simp; done)))) | with_reducible refine o_al _ ?_ | (with_reducible apply o_be; with_reducible assumption))); done))))
  refine bodyPost_ret (results_ctx rfl ctx_p rfl (R := updC R k (t, m, a)) ?_) rfl ⟨rfl, ?_⟩
  · refine ctx_store ?_ _
    (repeat (first | with_reducible assumption | exact Ctx.own (by with_reducible assumption) | with_reducible refine o_dr _ ?_ | with_reducible refine o_d1 ?_ | with_reducible refine o_set ?_ | with_reducible refine o_sc ?_ | (with_reducible refine o_new ?_ ?_; (focus (first | rfl | (simp [*]; done) | (simp [*]; omega))); (focus (first | omega | (simp; done)))) | with_reducible refine o_al _ ?_ | (with_reducible apply o_be; with_reducible assumption)))
  · repeat (first | with_reducible assumption | with_reducible exact Below.refl _ _ | with_reducible refine Below.drew ?_ | with_reducible refine below_drewN ?_ _ | with_reducible refine bw_alloc ?_ _ | (with_reducible refine bw_set ?_ ?_ _; focus (dsimp only; omega)) | (with_reducible apply bw_behind; with_reducible assumption) | (with_reducible refine bw_sc _ ?_ ?_; focus omega))

set_option maxRecDepth 100000 in
set_option maxHeartbeats 1000000 in
theorem rwith_yes (R : Nat → C3) (k : Nat) (t : Bool) (m a : Nat) (h1 : 1 ≤ k) (h2 : k < 32) (w : World) : Calls Tryd.prog 13 #[.agg (ctxA R), .int .i64 (k : Int), .agg #[.bool t, .int .u64 (m : Int), .int .u64 (a : Int)]] w (Makes (.agg (ctxA (updC R k (t, m, a)))) w) := by
  have C1 := hide (fun W => kept_yes (k : Int) (by omega) (by omega) W)
  have e1 : (0 : Int) ≤ (k : Int) := by omega
  have e2 : (k : Int) < 32 := by omega
  have e3 : (1 : Int) ≤ (k : Int) := by omega
  have e4 : ¬ (k : Int) < 1 := by omega
  have e5 : ¬ (31 : Int) < (k : Int) := by omega
  have e6 : (k : Int) ≤ 31 := by omega
  obtain ⟨Z, hz, hZe⟩ := ctx_zero ctx_d
  have hZs := ctxA_size (fun _ => zC)
  rw [← hZe] at hZs
  clear hZe
  generalize hcs : ctxA R = cs
  have HC := hide hcs
  clear hcs
  go_enter Tryd.func13, Tryd.ntmps13
  go_wp2_with (first | (go_at_call 30; (with_reducible first | refine (C1.out _).mono ?_); rintro e w' ⟨rfl, n1, rfl⟩) | ((refine wpList_store_cap rfl cap_d rfl (t, m, a) (k) rfl rfl (by omega) (by omega) (R := R) ?_ ?_); (focus ((repeat (first | with_reducible assumption | with_reducible refine Ctx.dr ?_ _ | with_reducible refine Ctx.d1 ?_ | with_reducible exact ctx_newE HC.out rfl | (with_reducible refine ctx_newE HC.out ?_; focus (simp [*]; done)) | with_reducible refine Ctx.al ?_ _ | (with_reducible refine x_set ?_ ?_; focus (dsimp only; omega)) | (with_reducible refine x_sc ?_ ?_; focus omega) | (with_reducible refine x_be (by with_reducible assumption) ?_))); done))) | ((refine wpList_load_ctx rfl ctx_d rfl rfl (R := updC R k (t, m, a)) ?_ ?_); (focus ((with_reducible refine ctx_put ?_ (by omega) _); (repeat (first | with_reducible assumption | with_reducible refine Ctx.dr ?_ _ | with_reducible refine Ctx.d1 ?_ | with_reducible exact ctx_newE HC.out rfl | (with_reducible refine ctx_newE HC.out ?_; focus (simp [*]; done)) | with_reducible refine Ctx.al ?_ _ | (with_reducible refine x_set ?_ ?_; focus (dsimp only; omega)) | (with_reducible refine x_sc ?_ ?_; focus omega) | (with_reducible refine x_be (by with_reducible assumption) ?_))); done))) | ((refine wpList_store_ctx rfl ctx_d rfl rfl rfl (R := updC R k (t, m, a)) ?_ ?_); (focus ((repeat (first | with_reducible assumption | exact Ctx.own (by with_reducible assumption) | with_reducible refine o_dr _ ?_ | with_reducible refine o_d1 ?_ | with_reducible refine o_set ?_ | with_reducible refine o_sc ?_ | (with_reducible refine o_new ?_ ?_; (focus (first | rfl | (simp [*]; done) | (simp [*]; omega))); (focus (first | omega | (simp; done)))) | with_reducible refine o_al _ ?_ | (with_reducible apply o_be; with_reducible assumption))); done))))
  refine bodyPost_ret (results_ctx rfl ctx_d rfl (R := updC R k (t, m, a)) ?_) rfl ⟨rfl, ?_⟩
  · refine ctx_store ?_ _
    (repeat (first | with_reducible assumption | exact Ctx.own (by with_reducible assumption) | with_reducible refine o_dr _ ?_ | with_reducible refine o_d1 ?_ | with_reducible refine o_set ?_ | with_reducible refine o_sc ?_ | (with_reducible refine o_new ?_ ?_; (focus (first | rfl | (simp [*]; done) | (simp [*]; omega))); (focus (first | omega | (simp; done)))) | with_reducible refine o_al _ ?_ | (with_reducible apply o_be; with_reducible assumption)))
  · repeat (first | with_reducible assumption | with_reducible exact Below.refl _ _ | with_reducible refine Below.drew ?_ | with_reducible refine below_drewN ?_ _ | with_reducible refine bw_alloc ?_ _ | (with_reducible refine bw_set ?_ ?_ _; focus (dsimp only; omega)) | (with_reducible apply bw_behind; with_reducible assumption) | (with_reducible refine bw_sc _ ?_ ?_; focus omega))

set_option maxRecDepth 100000 in
set_option maxHeartbeats 1000000 in
theorem with_no (R : Nat → C3) (n : Int) (t : Bool) (m a : Nat) (h : ¬ (1 ≤ n ∧ n < 32)) (w : World) : Calls Tryd.prog 12 #[.agg (ctxA R), .int .i64 n, .agg #[.bool t, .int .u64 (m : Int), .int .u64 (a : Int)]] w (Makes (.agg (ctxA R)) w) := by
  have C1 := hide (fun W => kept_no n (by omega) W)
  obtain ⟨Z, hz, hZe⟩ := ctx_zero ctx_p
  have hZs := ctxA_size (fun _ => zC)
  rw [← hZe] at hZs
  clear hZe
  generalize hcs : ctxA R = cs
  have HC := hide hcs
  clear hcs
  go_enter Tryd.func12, Tryd.ntmps12
  go_wp2_with (first | (go_at_call 30; (with_reducible first | refine (C1.out _).mono ?_); rintro e w' ⟨rfl, n1, rfl⟩) | ((refine wpList_load_ctx rfl ctx_p rfl rfl (R := R) ?_ ?_); (focus ((repeat (first | with_reducible assumption | with_reducible refine Ctx.dr ?_ _ | with_reducible refine Ctx.d1 ?_ | with_reducible exact ctx_newE HC.out rfl | (with_reducible refine ctx_newE HC.out ?_; focus (simp [*]; done)) | with_reducible refine Ctx.al ?_ _ | (with_reducible refine x_set ?_ ?_; focus (dsimp only; omega)) | (with_reducible refine x_sc ?_ ?_; focus omega) | (with_reducible refine x_be (by with_reducible assumption) ?_))); done))) | ((refine wpList_store_ctx rfl ctx_p rfl rfl rfl (R := R) ?_ ?_); (focus ((repeat (first | with_reducible assumption | exact Ctx.own (by with_reducible assumption) | with_reducible refine o_dr _ ?_ | with_reducible refine o_d1 ?_ | with_reducible refine o_set ?_ | with_reducible refine o_sc ?_ | (with_reducible refine o_new ?_ ?_; (focus (first | rfl | (simp [*]; done) | (simp [*]; omega))); (focus (first | omega | (simp; done)))) | with_reducible refine o_al _ ?_ | (with_reducible apply o_be; with_reducible assumption))); done))))
  rw [← HC.out]
  refine bodyPost_ret (results_ctx rfl ctx_p rfl (R := R) ?_) rfl ⟨rfl, ?_⟩
  · refine ctx_store ?_ _
    (repeat (first | with_reducible assumption | exact Ctx.own (by with_reducible assumption) | with_reducible refine o_dr _ ?_ | with_reducible refine o_d1 ?_ | with_reducible refine o_set ?_ | with_reducible refine o_sc ?_ | (with_reducible refine o_new ?_ ?_; (focus (first | rfl | (simp [*]; done) | (simp [*]; omega))); (focus (first | omega | (simp; done)))) | with_reducible refine o_al _ ?_ | (with_reducible apply o_be; with_reducible assumption)))
  · repeat (first | with_reducible assumption | with_reducible exact Below.refl _ _ | with_reducible refine Below.drew ?_ | with_reducible refine below_drewN ?_ _ | with_reducible refine bw_alloc ?_ _ | (with_reducible refine bw_set ?_ ?_ _; focus (dsimp only; omega)) | (with_reducible apply bw_behind; with_reducible assumption) | (with_reducible refine bw_sc _ ?_ ?_; focus omega))

set_option maxRecDepth 100000 in
set_option maxHeartbeats 1000000 in
theorem rwith_no1 (R : Nat → C3) (n : Int) (t : Bool) (m a : Nat) (h1 : ¬ 1 ≤ n) (w : World) : Calls Tryd.prog 13 #[.agg (ctxA R), .int .i64 n, .agg #[.bool t, .int .u64 (m : Int), .int .u64 (a : Int)]] w (Makes (.agg (ctxA R)) w) := by
  have C1 := hide (fun W => kept_no n (by omega) W)
  obtain ⟨Z, hz, hZe⟩ := ctx_zero ctx_d
  have hZs := ctxA_size (fun _ => zC)
  rw [← hZe] at hZs
  clear hZe
  generalize hcs : ctxA R = cs
  have HC := hide hcs
  clear hcs
  go_enter Tryd.func13, Tryd.ntmps13
  go_wp2_with (first | (go_at_call 30; (with_reducible first | refine (C1.out _).mono ?_); rintro e w' ⟨rfl, n1, rfl⟩) | ((refine wpList_load_ctx rfl ctx_d rfl rfl (R := R) ?_ ?_); (focus ((repeat (first | with_reducible assumption | with_reducible refine Ctx.dr ?_ _ | with_reducible refine Ctx.d1 ?_ | with_reducible exact ctx_newE HC.out rfl | (with_reducible refine ctx_newE HC.out ?_; focus (simp [*]; done)) | with_reducible refine Ctx.al ?_ _ | (with_reducible refine x_set ?_ ?_; focus (dsimp only; omega)) | (with_reducible refine x_sc ?_ ?_; focus omega) | (with_reducible refine x_be (by with_reducible assumption) ?_))); done))) | ((refine wpList_store_ctx rfl ctx_d rfl rfl rfl (R := R) ?_ ?_); (focus ((repeat (first | with_reducible assumption | exact Ctx.own (by with_reducible assumption) | with_reducible refine o_dr _ ?_ | with_reducible refine o_d1 ?_ | with_reducible refine o_set ?_ | with_reducible refine o_sc ?_ | (with_reducible refine o_new ?_ ?_; (focus (first | rfl | (simp [*]; done) | (simp [*]; omega))); (focus (first | omega | (simp; done)))) | with_reducible refine o_al _ ?_ | (with_reducible apply o_be; with_reducible assumption))); done))))
  rw [← HC.out]
  refine bodyPost_ret (results_ctx rfl ctx_d rfl (R := R) ?_) rfl ⟨rfl, ?_⟩
  · refine ctx_store ?_ _
    (repeat (first | with_reducible assumption | exact Ctx.own (by with_reducible assumption) | with_reducible refine o_dr _ ?_ | with_reducible refine o_d1 ?_ | with_reducible refine o_set ?_ | with_reducible refine o_sc ?_ | (with_reducible refine o_new ?_ ?_; (focus (first | rfl | (simp [*]; done) | (simp [*]; omega))); (focus (first | omega | (simp; done)))) | with_reducible refine o_al _ ?_ | (with_reducible apply o_be; with_reducible assumption)))
  · repeat (first | with_reducible assumption | with_reducible exact Below.refl _ _ | with_reducible refine Below.drew ?_ | with_reducible refine below_drewN ?_ _ | with_reducible refine bw_alloc ?_ _ | (with_reducible refine bw_set ?_ ?_ _; focus (dsimp only; omega)) | (with_reducible apply bw_behind; with_reducible assumption) | (with_reducible refine bw_sc _ ?_ ?_; focus omega))

set_option maxRecDepth 100000 in
set_option maxHeartbeats 1000000 in
theorem rwith_no2 (R : Nat → C3) (n : Int) (t : Bool) (m a : Nat) (h1 : 1 ≤ n) (h2 : ¬ n ≤ 31) (w : World) : Calls Tryd.prog 13 #[.agg (ctxA R), .int .i64 n, .agg #[.bool t, .int .u64 (m : Int), .int .u64 (a : Int)]] w (Makes (.agg (ctxA R)) w) := by
  have C1 := hide (fun W => kept_no n (by omega) W)
  obtain ⟨Z, hz, hZe⟩ := ctx_zero ctx_d
  have hZs := ctxA_size (fun _ => zC)
  rw [← hZe] at hZs
  clear hZe
  generalize hcs : ctxA R = cs
  have HC := hide hcs
  clear hcs
  go_enter Tryd.func13, Tryd.ntmps13
  go_wp2_with (first | (go_at_call 30; (with_reducible first | refine (C1.out _).mono ?_); rintro e w' ⟨rfl, n1, rfl⟩) | ((refine wpList_load_ctx rfl ctx_d rfl rfl (R := R) ?_ ?_); (focus ((repeat (first | with_reducible assumption | with_reducible refine Ctx.dr ?_ _ | with_reducible refine Ctx.d1 ?_ | with_reducible exact ctx_newE HC.out rfl | (with_reducible refine ctx_newE HC.out ?_; focus (simp [*]; done)) | with_reducible refine Ctx.al ?_ _ | (with_reducible refine x_set ?_ ?_; focus (dsimp only; omega)) | (with_reducible refine x_sc ?_ ?_; focus omega) | (with_reducible refine x_be (by with_reducible assumption) ?_))); done))) | ((refine wpList_store_ctx rfl ctx_d rfl rfl rfl (R := R) ?_ ?_); (focus ((repeat (first | with_reducible assumption | exact Ctx.own (by with_reducible assumption) | with_reducible refine o_dr _ ?_ | with_reducible refine o_d1 ?_ | with_reducible refine o_set ?_ | with_reducible refine o_sc ?_ | (with_reducible refine o_new ?_ ?_; (focus (first | rfl | (simp [*]; done) | (simp [*]; omega))); (focus (first | omega | (simp; done)))) | with_reducible refine o_al _ ?_ | (with_reducible apply o_be; with_reducible assumption))); done))))
  rw [← HC.out]
  refine bodyPost_ret (results_ctx rfl ctx_d rfl (R := R) ?_) rfl ⟨rfl, ?_⟩
  · refine ctx_store ?_ _
    (repeat (first | with_reducible assumption | exact Ctx.own (by with_reducible assumption) | with_reducible refine o_dr _ ?_ | with_reducible refine o_d1 ?_ | with_reducible refine o_set ?_ | with_reducible refine o_sc ?_ | (with_reducible refine o_new ?_ ?_; (focus (first | rfl | (simp [*]; done) | (simp [*]; omega))); (focus (first | omega | (simp; done)))) | with_reducible refine o_al _ ?_ | (with_reducible apply o_be; with_reducible assumption)))
  · repeat (first | with_reducible assumption | with_reducible exact Below.refl _ _ | with_reducible refine Below.drew ?_ | with_reducible refine below_drewN ?_ _ | with_reducible refine bw_alloc ?_ _ | (with_reducible refine bw_set ?_ ?_ _; focus (dsimp only; omega)) | (with_reducible apply bw_behind; with_reducible assumption) | (with_reducible refine bw_sc _ ?_ ?_; focus omega))

/-- With c in register n. -/
def withR (R : Nat → C3) (n : Int) (c : C3) : Nat → C3 := if 1 ≤ n ∧ n < 32 then updC R n.toNat c else R
theorem with_all (R : Nat → C3) (n : Int) (c : C3) (w : World) : Calls Tryd.prog 12 #[.agg (ctxA R), .int .i64 n, capV c] w (Makes (.agg (ctxA (withR R n c))) w) := by
  unfold withR capV
  obtain ⟨t, m, a⟩ := c
  by_cases h : 1 ≤ n ∧ n < 32
  · rw [if_pos h]
    have := with_yes R n.toNat t m a (by omega) (by omega) w
    rwa [show ((n.toNat : Nat) : Int) = n by omega] at this
  · rw [if_neg h]
    exact with_no R n t m a h w

theorem rwith_all (R : Nat → C3) (n : Int) (c : C3) (w : World) : Calls Tryd.prog 13 #[.agg (ctxA R), .int .i64 n, capV c] w (Makes (.agg (ctxA (withR R n c))) w) := by
  unfold withR capV
  obtain ⟨t, m, a⟩ := c
  by_cases h : 1 ≤ n ∧ n < 32
  · rw [if_pos h]
    have := rwith_yes R n.toNat t m a (by omega) (by omega) w
    rwa [show ((n.toNat : Nat) : Int) = n by omega] at this
  · rw [if_neg h]
    by_cases h1 : 1 ≤ n
    · exact rwith_no2 R n t m a h1 (by omega) w
    · exact rwith_no1 R n t m a h1 w

end Go.Proofs.YtnbfjaocakghkaaDoor
