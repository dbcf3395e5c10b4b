/-
  What Zero, Set and replaced answer, and the statements' Own.
-/
import Derived.Test.YtnbfjaocakghkaaDoorReg1
import Derived.Deep.DeepCutAuto
namespace Go.Proofs.YtnbfjaocakghkaaDoor
open Go.RowKit

set_option maxRecDepth 100000 in
theorem zero_cells (t : Bool) (m a : Nat) : ctxA (updC (fun _ => zC) 32 (t, m, a)) = ((((ctxA (fun _ => zC)).setIfInBounds 96 (.bool t)).setIfInBounds 97 (.int .u64 (m : Int))).setIfInBounds 98 (.int .u64 (a : Int))) := by kernel_rfl

set_option maxRecDepth 100000 in
set_option maxHeartbeats 1000000 in
theorem zero_let (t : Bool) (m a : Nat) (R : Nat → C3) (hR : R = updC (fun _ => zC) 32 (t, m, a)) (w : World) : Calls Tryd.prog 15 #[.agg #[.bool t, .int .u64 (m : Int), .int .u64 (a : Int)]] w (Makes (.agg (ctxA R)) w) := by
  obtain ⟨Z, hz, hZe⟩ := ctx_zero ctx_p
  have hZs := ctxA_size (fun _ => zC)
  rw [← hZe] at hZs
  have hY : ctxA R = (((Z.setIfInBounds 96 (.bool t)).setIfInBounds 97 (.int .u64 (m : Int))).setIfInBounds 98 (.int .u64 (a : Int))) := by rw [hR, hZe]; exact zero_cells t m a
  clear hR hZe
  have HY := hide hY
  clear hY
  generalize hV : Value.agg (ctxA R) = V
  go_enter Tryd.func15, Tryd.ntmps15
  go_wp2_with (first | ((refine wpList_store_ctxE rfl ctx_p rfl rfl rfl HY.out ?_ ?_); (focus ((repeat (first | with_reducible assumption | exact Ctx.own (by with_reducible assumption) | with_reducible refine o_dr _ ?_ | with_reducible refine o_d1 ?_ | with_reducible refine o_set ?_ | with_reducible refine o_sc ?_ | (with_reducible refine o_new ?_ ?_; (focus (first | rfl | (simp [*]; done) | (simp [*]; omega))); (focus (first | omega | (simp; done)))) | with_reducible refine o_al _ ?_ | (with_reducible apply o_be; with_reducible assumption))); done))))
  subst hV
  refine bodyPost_ret (results_ctx rfl ctx_p rfl (R := R) ?_) rfl ⟨rfl, ?_⟩
  · refine ctx_store ?_ _
    (repeat (first | with_reducible assumption | exact Ctx.own (by with_reducible assumption) | with_reducible refine o_dr _ ?_ | with_reducible refine o_d1 ?_ | with_reducible refine o_set ?_ | with_reducible refine o_sc ?_ | (with_reducible refine o_new ?_ ?_; (focus (first | rfl | (simp [*]; done) | (simp [*]; omega))); (focus (first | omega | (simp; done)))) | with_reducible refine o_al _ ?_ | (with_reducible apply o_be; with_reducible assumption)))
  · repeat (first | with_reducible assumption | with_reducible exact Below.refl _ _ | with_reducible refine Below.drew ?_ | with_reducible refine below_drewN ?_ _ | with_reducible refine bw_alloc ?_ _ | (with_reducible refine bw_set ?_ ?_ _; focus (dsimp only; omega)) | (with_reducible apply bw_behind; with_reducible assumption) | (with_reducible refine bw_sc _ ?_ ?_; focus omega))

theorem zero_all (c : C3) (w : World) : Calls Tryd.prog 15 #[capV c] w (Makes (.agg (ctxA (updC (fun _ => zC) 32 c))) w) := zero_let c.1 c.2.1 c.2.2 _ rfl w

set_option maxRecDepth 100000 in
set_option maxHeartbeats 1000000 in
theorem set_all (R : Nat → C3) (n : Int) (N : Nat) (w : World) : Calls Tryd.prog 14 #[.agg (ctxA R), .int .i64 n, .int .u64 (N : Int)] w (Makes (.agg (ctxA (withR R n (false, 0, N)))) w) := by
  have C1 := hide (fun W => null_all N W)
  have C2 := hide (fun W => with_all R n (false, 0, N) W)
  obtain ⟨Z, hz, hZe⟩ := ctx_zero ctx_p
  have hZs := ctxA_size (fun _ => zC)
  rw [← hZe] at hZs
  clear hZe
  generalize hcs : ctxA R = cs
  have HC := hide hcs
  clear hcs
  go_enter Tryd.func14, Tryd.ntmps14
  go_upto_region 1 with fail
  refine wp_abs (fun W => Below w.heap.size w W ∧ Ctx W w.heap.size R ∧ Own W (w.heap.size + 1) 99) ?_ ?_
  · refine ⟨?_, ?_, ?_⟩
    · repeat (first | with_reducible assumption | with_reducible exact Below.refl _ _ | with_reducible refine Below.drew ?_ | with_reducible refine below_drewN ?_ _ | with_reducible refine bw_alloc ?_ _ | (with_reducible refine bw_set ?_ ?_ _; focus (dsimp only; omega)) | (with_reducible apply bw_behind; with_reducible assumption) | (with_reducible refine bw_sc _ ?_ ?_; focus omega))
    · repeat (first | with_reducible assumption | with_reducible refine Ctx.dr ?_ _ | with_reducible refine Ctx.d1 ?_ | with_reducible exact ctx_newE HC.out rfl | (with_reducible refine ctx_newE HC.out ?_; focus (simp [*]; done)) | with_reducible refine Ctx.al ?_ _ | (with_reducible refine x_set ?_ ?_; focus (dsimp only; omega)) | (with_reducible refine x_sc ?_ ?_; focus omega) | (with_reducible refine x_be (by with_reducible assumption) ?_))
    · repeat (first | with_reducible assumption | exact Ctx.own (by with_reducible assumption) | with_reducible refine o_dr _ ?_ | with_reducible refine o_d1 ?_ | with_reducible refine o_set ?_ | with_reducible refine o_sc ?_ | (with_reducible refine o_new ?_ ?_; (focus (first | rfl | (simp [*]; done) | (simp [*]; omega))); (focus (first | omega | (simp; done)))) | with_reducible refine o_al _ ?_ | (with_reducible apply o_be; with_reducible assumption))
  rintro w0 ⟨hB0, hX0, hO0⟩
  refine wp_region_tail_lit (C := fun W => ∃ y : Behind w0.heap.size w0, W = y.world) 5 _ rfl (by kernel_rfl) (by kernel_rfl) (by kernel_rfl) ⟨⟨w0.drew, (Below.refl _ _).drew⟩, rfl⟩ ?_
  have yc := behind_c hX0
  have hsome := Behind.any w0
  simp only [List.take_succ_cons, List.take_zero, List.cons_append, List.nil_append, mute]
  repeat (first | ((with_reducible refine quiet_load_ctx rfl ctx_p rfl rfl yc ?_); simp only [Act.put, List.setIfInBounds_toArray, List.set_cons_succ, List.set_cons_zero]) | go_big_quiet_step (first | (go_at_call 31; with_reducible exact Behind.call C1.out _) | (go_at_call 12; with_reducible exact Behind.call C2.out _)))
  refine wpQuiet_nil ?_
  rintro _ ⟨y, rfl⟩
  have hO1 := o_be y.below hO0
  go_wp2_with (first | ((refine wpList_store_ctx rfl ctx_p rfl rfl rfl (R := withR R n (false, 0, N)) ?_ ?_); (focus ((repeat (first | with_reducible assumption | exact Ctx.own (by with_reducible assumption) | with_reducible refine o_dr _ ?_ | with_reducible refine o_d1 ?_ | with_reducible refine o_set ?_ | with_reducible refine o_sc ?_ | (with_reducible refine o_new ?_ ?_; (focus (first | rfl | (simp [*]; done) | (simp [*]; omega))); (focus (first | omega | (simp; done)))) | with_reducible refine o_al _ ?_ | (with_reducible apply o_be; with_reducible assumption))); done))))
  refine bodyPost_ret (results_ctx rfl ctx_p rfl (R := withR R n (false, 0, N)) (ctx_store hO1 _)) rfl ⟨rfl, ?_⟩
  exact (hB0.trans (y.below.mono hB0.size)).trans (be_sc _ (by omega))

set_option maxRecDepth 100000 in
set_option maxHeartbeats 1000000 in
theorem repl_pcc (R : Nat → C3) (t : Bool) (m a : Nat) (w : World) : Calls Tryd.prog 28 #[.agg (ctxA R), .int .i64 32, .agg #[.bool t, .int .u64 (m : Int), .int .u64 (a : Int)]] w (Makes (.agg (ctxA (updC R 32 (t, m, a)))) w) := by
  obtain ⟨Z, hz, hZe⟩ := ctx_zero ctx_p
  have hZs := ctxA_size (fun _ => zC)
  rw [← hZe] at hZs
  clear hZe
  generalize hcs : ctxA R = cs
  have HC := hide hcs
  clear hcs
  go_enter Tryd.func28, Tryd.ntmps28
  go_wp2_with (first | ((refine wpList_store_cap rfl cap_p rfl (t, m, a) (32) rfl rfl (by omega) (by omega) (R := R) ?_ ?_); (focus ((repeat (first | with_reducible assumption | with_reducible refine Ctx.dr ?_ _ | with_reducible refine Ctx.d1 ?_ | with_reducible exact ctx_newE HC.out rfl | (with_reducible refine ctx_newE HC.out ?_; focus (simp [*]; done)) | with_reducible refine Ctx.al ?_ _ | (with_reducible refine x_set ?_ ?_; focus (dsimp only; omega)) | (with_reducible refine x_sc ?_ ?_; focus omega) | (with_reducible refine x_be (by with_reducible assumption) ?_))); done))) | ((refine wpList_load_ctx rfl ctx_p rfl rfl (R := updC R 32 (t, m, a)) ?_ ?_); (focus ((with_reducible refine ctx_put ?_ (by omega) _); (repeat (first | with_reducible assumption | with_reducible refine Ctx.dr ?_ _ | with_reducible refine Ctx.d1 ?_ | with_reducible exact ctx_newE HC.out rfl | (with_reducible refine ctx_newE HC.out ?_; focus (simp [*]; done)) | with_reducible refine Ctx.al ?_ _ | (with_reducible refine x_set ?_ ?_; focus (dsimp only; omega)) | (with_reducible refine x_sc ?_ ?_; focus omega) | (with_reducible refine x_be (by with_reducible assumption) ?_))); done))) | ((refine wpList_store_ctx rfl ctx_p rfl rfl rfl (R := updC R 32 (t, m, a)) ?_ ?_); (focus ((repeat (first | with_reducible assumption | exact Ctx.own (by with_reducible assumption) | with_reducible refine o_dr _ ?_ | with_reducible refine o_d1 ?_ | with_reducible refine o_set ?_ | with_reducible refine o_sc ?_ | (with_reducible refine o_new ?_ ?_; (focus (first | rfl | (simp [*]; done) | (simp [*]; omega))); (focus (first | omega | (simp; done)))) | with_reducible refine o_al _ ?_ | (with_reducible apply o_be; with_reducible assumption))); done))))
  refine bodyPost_ret (results_ctx rfl ctx_p rfl (R := updC R 32 (t, m, a)) ?_) rfl ⟨rfl, ?_⟩
  · refine ctx_store ?_ _
    (repeat (first | with_reducible assumption | exact Ctx.own (by with_reducible assumption) | with_reducible refine o_dr _ ?_ | with_reducible refine o_d1 ?_ | with_reducible refine o_set ?_ | with_reducible refine o_sc ?_ | (with_reducible refine o_new ?_ ?_; (focus (first | rfl | (simp [*]; done) | (simp [*]; omega))); (focus (first | omega | (simp; done)))) | with_reducible refine o_al _ ?_ | (with_reducible apply o_be; with_reducible assumption)))
  · repeat (first | with_reducible assumption | with_reducible exact Below.refl _ _ | with_reducible refine Below.drew ?_ | with_reducible refine below_drewN ?_ _ | with_reducible refine bw_alloc ?_ _ | (with_reducible refine bw_set ?_ ?_ _; focus (dsimp only; omega)) | (with_reducible apply bw_behind; with_reducible assumption) | (with_reducible refine bw_sc _ ?_ ?_; focus omega))

set_option maxRecDepth 100000 in
set_option maxHeartbeats 1000000 in
theorem repl_reg (R : Nat → C3) (n : Int) (h : ¬ n = 32) (t : Bool) (m a : Nat) (w : World) : Calls Tryd.prog 28 #[.agg (ctxA R), .int .i64 n, .agg #[.bool t, .int .u64 (m : Int), .int .u64 (a : Int)]] w (Makes (.agg (ctxA (withR R n (t, m, a)))) w) := by
  have C1 : Hid (∀ W, Calls Tryd.prog 12 #[.agg (ctxA R), .int .i64 n, .agg #[.bool t, .int .u64 (m : Int), .int .u64 (a : Int)]] W (Makes (.agg (ctxA (withR R n (t, m, a)))) W)) := hide (fun W => with_all R n (t, m, a) W)
  obtain ⟨Z, hz, hZe⟩ := ctx_zero ctx_p
  have hZs := ctxA_size (fun _ => zC)
  rw [← hZe] at hZs
  clear hZe
  generalize hcs : ctxA R = cs
  have HC := hide hcs
  clear hcs
  go_enter Tryd.func28, Tryd.ntmps28
  go_wp2_with (first | (go_at_call 12; (with_reducible refine (C1.out _).mono ?_); rintro e w1 ⟨rfl, hb1⟩; have hs1 := hb1.size; (try simp only [size_al] at hs1)) | ((refine wpList_load_ctx rfl ctx_p rfl rfl (R := R) ?_ ?_); (focus ((repeat (first | with_reducible assumption | with_reducible refine Ctx.dr ?_ _ | with_reducible refine Ctx.d1 ?_ | with_reducible exact ctx_newE HC.out rfl | (with_reducible refine ctx_newE HC.out ?_; focus (simp [*]; done)) | with_reducible refine Ctx.al ?_ _ | (with_reducible refine x_set ?_ ?_; focus (dsimp only; omega)) | (with_reducible refine x_sc ?_ ?_; focus omega) | (with_reducible refine x_be (by with_reducible assumption) ?_))); done))) | ((refine wpList_store_ctx rfl ctx_p rfl rfl rfl (R := withR R n (t, m, a)) ?_ ?_); (focus ((repeat (first | with_reducible assumption | exact Ctx.own (by with_reducible assumption) | with_reducible refine o_dr _ ?_ | with_reducible refine o_d1 ?_ | with_reducible refine o_set ?_ | with_reducible refine o_sc ?_ | (with_reducible refine o_new ?_ ?_; (focus (first | rfl | (simp [*]; done) | (simp [*]; omega))); (focus (first | omega | (simp; done)))) | with_reducible refine o_al _ ?_ | (with_reducible apply o_be; with_reducible assumption))); done))))
  refine bodyPost_ret (results_ctx rfl ctx_p rfl (R := withR R n (t, m, a)) ?_) rfl ⟨rfl, ?_⟩
  · refine ctx_store ?_ _
    (repeat (first | with_reducible assumption | exact Ctx.own (by with_reducible assumption) | with_reducible refine o_dr _ ?_ | with_reducible refine o_d1 ?_ | with_reducible refine o_set ?_ | with_reducible refine o_sc ?_ | (with_reducible refine o_new ?_ ?_; (focus (first | rfl | (simp [*]; done) | (simp [*]; omega))); (focus (first | omega | (simp; done)))) | with_reducible refine o_al _ ?_ | (with_reducible apply o_be; with_reducible assumption)))
  · repeat (first | with_reducible assumption | with_reducible exact Below.refl _ _ | with_reducible refine Below.drew ?_ | with_reducible refine below_drewN ?_ _ | with_reducible refine bw_alloc ?_ _ | (with_reducible refine bw_set ?_ ?_ _; focus (dsimp only; omega)) | (with_reducible apply bw_behind; with_reducible assumption) | (with_reducible refine bw_sc _ ?_ ?_; focus omega))

/-- With c in register n, or as the Pcc. -/
theorem repl_all (R : Nat → C3) (k : Nat) (h1 : 1 ≤ k) (h2 : k ≤ 32) (c : C3) (w : World) : Calls Tryd.prog 28 #[.agg (ctxA R), .int .i64 (k : Int), capV c] w (Makes (.agg (ctxA (updC R k c))) w) := by
  obtain ⟨t, m, a⟩ := c
  by_cases h : k = 32
  · subst h
    exact repl_pcc R t m a w
  · have := repl_reg R (k : Int) (by omega) t m a w
    unfold withR at this
    rw [if_pos (by omega), Int.toNat_natCast] at this
    exact this

end Go.Proofs.YtnbfjaocakghkaaDoor
