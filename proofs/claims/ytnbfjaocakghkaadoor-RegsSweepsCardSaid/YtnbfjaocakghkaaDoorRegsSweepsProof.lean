/-
  RegsSweeps: sweeping of two spans, one behind the other, in any order, is sweeping of both; and of what was swept nothing is swept again. For every context and every four numbers.
-/
import Derived.Test.YtnbfjaocakghkaaDoorRegOne
import Derived.Test.YtnbfjaocakghkaaDoorRegTwice
import Derived.Test.YtnbfjaocakghkaaDoorRegLaid
namespace Go.Proofs.YtnbfjaocakghkaaDoor.RegsSweeps
open Go.RowKit

set_option maxRecDepth 100000 in
set_option maxHeartbeats 4000000 in
theorem walk (R : Nat → C3) (hW : ∀ i, Wf3 (R i)) (z0 z1 z2 z3 : BitVec 64) (w : World) (hT : Tab w) :
    Calls Tryd.prog 5 #[.agg (ctxA R), .agg #[.int .u64 (z0.toNat : Int), .int .u64 (z1.toNat : Int), .int .u64 (z2.toNat : Int), .int .u64 (z3.toNat : Int)]] w fun e w' => e = .returned (.bool true) ∧ Below w.heap.size w w' := by
  have hmf : ∀ (fn : Fn) (first cap : Array Value) (w : World), (Instr.makeFunc fn first cap).run Tryd.prog w = .ok (.func fn first cap) w := fun _ _ _ _ => rfl
  have hsf : ∀ (a : Addr) (fn : Fn) (first cap : Array Value) (m : Mode) (W : World), (store a (.func fn first cap) m).run Tryd.prog W = stored Tryd.prog W a (.func fn first cap) m := fun a fn first cap m W => run_store Tryd.prog W a _ m rfl
  have hsum := rc_two R (betw z0.toNat z1.toNat) (betw z2.toNat z3.toNat) 33 (by omega)
  have hle := rsC_le R (fun x => betw z0.toNat z1.toNat x || betw z2.toNat z3.toNat x) 33
  have hwr : IntKind.i64.wrap (((rsC R (betw z0.toNat z1.toNat) 33 : Nat) : Int) + ((rsC (rsR R (betw z0.toNat z1.toNat) 33) (betw z2.toNat z3.toNat) 33 : Nat) : Int)) = ((rsC R (fun x => betw z0.toNat z1.toNat x || betw z2.toNat z3.toNat x) 33 : Nat) : Int) := by rw [IntKind.wrap_i64]; omega
  have hnone := rc_none2 R (betw z0.toNat z1.toNat) (betw z2.toNat z3.toNat) 33 (by omega)
  have CO := hide one_any
  obtain ⟨Z, hz, hZe⟩ := ctx_zero ctx_p
  have hZs := ctxA_size (fun _ => zC)
  rw [← hZe] at hZs
  clear hZe
  generalize hcs : ctxA R = cs
  have HC := hide hcs
  clear hcs
  go_enter Tryd.func5, Tryd.ntmps5
  go_upto_region 3 with fail
  refine wp_abs (fun W => Below w.heap.size w W ∧ Ctx W w.heap.size R ∧ W.cell? ⟨w.heap.size + 1, 0, none⟩ = some (.int .u64 (z0.toNat : Int)) ∧ W.cell? ⟨w.heap.size + 1, 1, none⟩ = some (.int .u64 (z1.toNat : Int)) ∧ W.cell? ⟨w.heap.size + 1, 2, none⟩ = some (.int .u64 (z2.toNat : Int)) ∧ W.cell? ⟨w.heap.size + 1, 3, none⟩ = some (.int .u64 (z3.toNat : Int)) ∧ W.cell? ⟨w.heap.size + 2, 0, none⟩ = some (.func (.func 23) #[] #[.pointer (some ⟨w.heap.size + 1, 0, none⟩)]) ∧ W.cell? ⟨w.heap.size + 3, 0, none⟩ = some (.func (.func 24) #[] #[.pointer (some ⟨w.heap.size + 1, 0, none⟩)])) ?_ ?_
  · refine ⟨?_, ?_, ?_, ?_, ?_, ?_, ?_, ?_⟩
    · repeat (first | with_reducible assumption | with_reducible exact Below.refl _ _ | with_reducible refine Below.drew ?_ | with_reducible refine below_drewN ?_ _ | with_reducible refine bw_alloc ?_ _ | (with_reducible refine bw_set ?_ ?_ _; focus (dsimp only; omega)) | (with_reducible apply bw_behind; with_reducible assumption) | (with_reducible refine bw_sc _ ?_ ?_; focus omega))
    · repeat (first | with_reducible assumption | with_reducible refine Ctx.dr ?_ _ | with_reducible refine Ctx.d1 ?_ | with_reducible exact ctx_newE HC.out rfl | (with_reducible refine ctx_newE HC.out ?_; focus (simp [*]; done)) | with_reducible refine Ctx.al ?_ _ | (with_reducible refine x_set ?_ ?_; focus (dsimp only; omega)) | (with_reducible refine x_sc ?_ ?_; focus omega) | (with_reducible refine x_be (by with_reducible assumption) ?_))
    all_goals (simp [go_sem])
  clear HC
  rintro W2 ⟨hBW2, hX2, q0_2, q1_2, q2_2, q3_2, fa_2, fb_2⟩

  have K3 := swept_f R hW (.func 23) #[] #[.pointer (some ⟨w.heap.size + 1, 0, none⟩)] (betw z0.toNat z1.toNat) W2 (hT.behind hBW2) (fun W hB b => (hold_a (b : Int) (w.heap.size + 1) W (betw z0.toNat z1.toNat b) (clos_a z0.toNat z1.toNat b _ W (c_be hB q0_2) (c_be hB q1_2))).mono (fun _ _ h => quiet_makes h))
  rw [swept_rs, swept_rc] at K3
  go_upto_region 4 with (first | (refine wpList_load_ctx rfl ctx_p rfl rfl hX2 ?_) | (go_at_call 7; refine K3.mono ?_; rintro e u3 ⟨rfl, hb3⟩; have hs3 := hb3.size) | (with_reducible refine holdS rfl ?_))
  clear K3
  refine hide ?_
  refine wpList_store_ctx rfl ctx_p rfl rfl rfl (R := (rsR R (betw z0.toNat z1.toNat) 33)) ?_ ?_
  · repeat (first | with_reducible assumption | with_reducible exact Ctx.own (by with_reducible assumption) | with_reducible refine o_dr _ ?_ | with_reducible refine o_d1 ?_ | with_reducible refine o_set ?_ | with_reducible refine o_sc ?_ | (with_reducible refine o_new ?_ ?_; (focus (first | (simp [*]; done) | (simp [*]; omega))); (focus (first | omega | (simp; done)))) | with_reducible refine o_al _ ?_ | (with_reducible apply o_be; with_reducible assumption))
  refine wpList_abs (fun W => Below W2.heap.size W2 W ∧ Ctx W u3.heap.size ((rsR R (betw z0.toNat z1.toNat) 33))) ⟨?_, ctx_store ?_ _⟩ ?_
  · repeat (first | with_reducible assumption | with_reducible exact Below.refl _ _ | with_reducible refine Below.drew ?_ | with_reducible refine below_drewN ?_ _ | with_reducible refine bw_alloc ?_ _ | (with_reducible refine bw_set ?_ ?_ _; focus (dsimp only; omega)) | (with_reducible apply bw_behind; with_reducible assumption) | (with_reducible refine bw_sc _ ?_ ?_; focus omega))
  · repeat (first | with_reducible assumption | with_reducible exact Ctx.own (by with_reducible assumption) | with_reducible refine o_dr _ ?_ | with_reducible refine o_d1 ?_ | with_reducible refine o_set ?_ | with_reducible refine o_sc ?_ | (with_reducible refine o_new ?_ ?_; (focus (first | (simp [*]; done) | (simp [*]; omega))); (focus (first | omega | (simp; done)))) | with_reducible refine o_al _ ?_ | (with_reducible apply o_be; with_reducible assumption))
  rintro W3 ⟨hG3, hX3⟩
  have hBW3 := hBW2.trans (hG3.mono hBW2.size)
  clear hb3 hs3
  go_upto_region 4 with fail
  have hX2_3 := hX2.be hG3
  have q0_3 := c_be hG3 q0_2
  have q1_3 := c_be hG3 q1_2
  have q2_3 := c_be hG3 q2_2
  have q3_3 := c_be hG3 q3_2
  have fa_3 := c_be hG3 fa_2
  have fb_3 := c_be hG3 fb_2

  have K4 := swept_f (rsR R (betw z0.toNat z1.toNat) 33) (rsR_wf hW _ 33) (.func 24) #[] #[.pointer (some ⟨w.heap.size + 1, 0, none⟩)] (betw z2.toNat z3.toNat) W3 (hT.behind hBW3) (fun W hB b => (hold_b (b : Int) (w.heap.size + 1) W (betw z2.toNat z3.toNat b) (clos_b z2.toNat z3.toNat b _ W (c_be hB q2_3) (c_be hB q3_3))).mono (fun _ _ h => quiet_makes h))
  rw [swept_rs, swept_rc, two_eq] at K4
  go_upto_region 5 with (first | (refine wpList_load_ctx rfl ctx_p rfl rfl hX3 ?_) | (go_at_call 7; refine K4.mono ?_; rintro e u4 ⟨rfl, hb4⟩; have hs4 := hb4.size) | (with_reducible refine holdS rfl ?_))
  clear K4
  refine hide ?_
  refine wpList_store_ctx rfl ctx_p rfl rfl rfl (R := (rsR R (fun x => betw z0.toNat z1.toNat x || betw z2.toNat z3.toNat x) 33)) ?_ ?_
  · repeat (first | with_reducible assumption | with_reducible exact Ctx.own (by with_reducible assumption) | with_reducible refine o_dr _ ?_ | with_reducible refine o_d1 ?_ | with_reducible refine o_set ?_ | with_reducible refine o_sc ?_ | (with_reducible refine o_new ?_ ?_; (focus (first | (simp [*]; done) | (simp [*]; omega))); (focus (first | omega | (simp; done)))) | with_reducible refine o_al _ ?_ | (with_reducible apply o_be; with_reducible assumption))
  refine wpList_abs (fun W => Below W3.heap.size W3 W ∧ Ctx W u4.heap.size ((rsR R (fun x => betw z0.toNat z1.toNat x || betw z2.toNat z3.toNat x) 33))) ⟨?_, ctx_store ?_ _⟩ ?_
  · repeat (first | with_reducible assumption | with_reducible exact Below.refl _ _ | with_reducible refine Below.drew ?_ | with_reducible refine below_drewN ?_ _ | with_reducible refine bw_alloc ?_ _ | (with_reducible refine bw_set ?_ ?_ _; focus (dsimp only; omega)) | (with_reducible apply bw_behind; with_reducible assumption) | (with_reducible refine bw_sc _ ?_ ?_; focus omega))
  · repeat (first | with_reducible assumption | with_reducible exact Ctx.own (by with_reducible assumption) | with_reducible refine o_dr _ ?_ | with_reducible refine o_d1 ?_ | with_reducible refine o_set ?_ | with_reducible refine o_sc ?_ | (with_reducible refine o_new ?_ ?_; (focus (first | (simp [*]; done) | (simp [*]; omega))); (focus (first | omega | (simp; done)))) | with_reducible refine o_al _ ?_ | (with_reducible apply o_be; with_reducible assumption))
  rintro W4 ⟨hG4, hX4⟩
  have hBW4 := hBW3.trans (hG4.mono hBW3.size)
  clear hb4 hs4
  go_upto_region 5 with fail
  have hX2_4 := hX2_3.be hG4
  have q0_4 := c_be hG4 q0_3
  have q1_4 := c_be hG4 q1_3
  have q2_4 := c_be hG4 q2_3
  have q3_4 := c_be hG4 q3_3
  have fa_4 := c_be hG4 fa_3
  have fb_4 := c_be hG4 fb_3

  have K5 := swept_f R hW (.func 25) #[] #[.pointer (some ⟨w.heap.size + 2, 0, none⟩), .pointer (some ⟨w.heap.size + 3, 0, none⟩)] (fun x => betw z0.toNat z1.toNat x || betw z2.toNat z3.toNat x) W4 (hT.behind hBW4) (fun W hB b => (hold_c (b : Int) (w.heap.size + 2) (w.heap.size + 3) W (betw z0.toNat z1.toNat b || betw z2.toNat z3.toNat b) (clos_c z0.toNat z1.toNat z2.toNat z3.toNat b (w.heap.size + 1) _ _ W (c_be hB fa_4) (c_be hB fb_4) (c_be hB q0_4) (c_be hB q1_4) (c_be hB q2_4) (c_be hB q3_4))).mono (fun _ _ h => quiet_makes h))
  rw [swept_rs, swept_rc] at K5
  go_upto_region 6 with (first | (refine wpList_load_ctx rfl ctx_p rfl rfl hX2_4 ?_) | (go_at_call 7; refine K5.mono ?_; rintro e u5 ⟨rfl, hb5⟩; have hs5 := hb5.size) | (with_reducible refine holdS rfl ?_))
  clear K5
  refine hide ?_
  refine wpList_store_ctx rfl ctx_p rfl rfl rfl (R := (rsR R (fun x => betw z0.toNat z1.toNat x || betw z2.toNat z3.toNat x) 33)) ?_ ?_
  · repeat (first | with_reducible assumption | with_reducible exact Ctx.own (by with_reducible assumption) | with_reducible refine o_dr _ ?_ | with_reducible refine o_d1 ?_ | with_reducible refine o_set ?_ | with_reducible refine o_sc ?_ | (with_reducible refine o_new ?_ ?_; (focus (first | (simp [*]; done) | (simp [*]; omega))); (focus (first | omega | (simp; done)))) | with_reducible refine o_al _ ?_ | (with_reducible apply o_be; with_reducible assumption))
  refine wpList_abs (fun W => Below W4.heap.size W4 W ∧ Ctx W u5.heap.size ((rsR R (fun x => betw z0.toNat z1.toNat x || betw z2.toNat z3.toNat x) 33))) ⟨?_, ctx_store ?_ _⟩ ?_
  · repeat (first | with_reducible assumption | with_reducible exact Below.refl _ _ | with_reducible refine Below.drew ?_ | with_reducible refine below_drewN ?_ _ | with_reducible refine bw_alloc ?_ _ | (with_reducible refine bw_set ?_ ?_ _; focus (dsimp only; omega)) | (with_reducible apply bw_behind; with_reducible assumption) | (with_reducible refine bw_sc _ ?_ ?_; focus omega))
  · repeat (first | with_reducible assumption | with_reducible exact Ctx.own (by with_reducible assumption) | with_reducible refine o_dr _ ?_ | with_reducible refine o_d1 ?_ | with_reducible refine o_set ?_ | with_reducible refine o_sc ?_ | (with_reducible refine o_new ?_ ?_; (focus (first | (simp [*]; done) | (simp [*]; omega))); (focus (first | omega | (simp; done)))) | with_reducible refine o_al _ ?_ | (with_reducible apply o_be; with_reducible assumption))
  rintro W5 ⟨hG5, hX5⟩
  have hBW5 := hBW4.trans (hG5.mono hBW4.size)
  clear hb5 hs5
  go_upto_region 6 with fail
  have hX2_5 := hX2_4.be hG5
  have hX4_5 := hX4.be hG5
  have q0_5 := c_be hG5 q0_4
  have q1_5 := c_be hG5 q1_4
  have q2_5 := c_be hG5 q2_4
  have q3_5 := c_be hG5 q3_4
  have fa_5 := c_be hG5 fa_4
  have fb_5 := c_be hG5 fb_4

  have K6 := swept_f R hW (.func 24) #[] #[.pointer (some ⟨w.heap.size + 1, 0, none⟩)] (betw z2.toNat z3.toNat) W5 (hT.behind hBW5) (fun W hB b => (hold_b (b : Int) (w.heap.size + 1) W (betw z2.toNat z3.toNat b) (clos_b z2.toNat z3.toNat b _ W (c_be hB q2_5) (c_be hB q3_5))).mono (fun _ _ h => quiet_makes h))
  rw [swept_rs, swept_rc] at K6
  go_upto_region 7 with (first | (refine wpList_load_ctx rfl ctx_p rfl rfl hX2_5 ?_) | (go_at_call 7; refine K6.mono ?_; rintro e u6 ⟨rfl, hb6⟩; have hs6 := hb6.size) | (with_reducible refine holdS rfl ?_))
  clear K6
  refine hide ?_
  refine wpList_store_ctx rfl ctx_p rfl rfl rfl (R := (rsR R (betw z2.toNat z3.toNat) 33)) ?_ ?_
  · repeat (first | with_reducible assumption | with_reducible exact Ctx.own (by with_reducible assumption) | with_reducible refine o_dr _ ?_ | with_reducible refine o_d1 ?_ | with_reducible refine o_set ?_ | with_reducible refine o_sc ?_ | (with_reducible refine o_new ?_ ?_; (focus (first | (simp [*]; done) | (simp [*]; omega))); (focus (first | omega | (simp; done)))) | with_reducible refine o_al _ ?_ | (with_reducible apply o_be; with_reducible assumption))
  refine wpList_abs (fun W => Below W5.heap.size W5 W ∧ Ctx W u6.heap.size ((rsR R (betw z2.toNat z3.toNat) 33))) ⟨?_, ctx_store ?_ _⟩ ?_
  · repeat (first | with_reducible assumption | with_reducible exact Below.refl _ _ | with_reducible refine Below.drew ?_ | with_reducible refine below_drewN ?_ _ | with_reducible refine bw_alloc ?_ _ | (with_reducible refine bw_set ?_ ?_ _; focus (dsimp only; omega)) | (with_reducible apply bw_behind; with_reducible assumption) | (with_reducible refine bw_sc _ ?_ ?_; focus omega))
  · repeat (first | with_reducible assumption | with_reducible exact Ctx.own (by with_reducible assumption) | with_reducible refine o_dr _ ?_ | with_reducible refine o_d1 ?_ | with_reducible refine o_set ?_ | with_reducible refine o_sc ?_ | (with_reducible refine o_new ?_ ?_; (focus (first | (simp [*]; done) | (simp [*]; omega))); (focus (first | omega | (simp; done)))) | with_reducible refine o_al _ ?_ | (with_reducible apply o_be; with_reducible assumption))
  rintro W6 ⟨hG6, hX6⟩
  have hBW6 := hBW5.trans (hG6.mono hBW5.size)
  clear hb6 hs6
  go_upto_region 7 with fail
  have hX4_6 := hX4_5.be hG6
  have hX5_6 := hX5.be hG6
  have q0_6 := c_be hG6 q0_5
  have q1_6 := c_be hG6 q1_5
  have q2_6 := c_be hG6 q2_5
  have q3_6 := c_be hG6 q3_5
  have fa_6 := c_be hG6 fa_5
  have fb_6 := c_be hG6 fb_5

  have K7 := swept_f (rsR R (betw z2.toNat z3.toNat) 33) (rsR_wf hW _ 33) (.func 23) #[] #[.pointer (some ⟨w.heap.size + 1, 0, none⟩)] (betw z0.toNat z1.toNat) W6 (hT.behind hBW6) (fun W hB b => (hold_a (b : Int) (w.heap.size + 1) W (betw z0.toNat z1.toNat b) (clos_a z0.toNat z1.toNat b _ W (c_be hB q0_6) (c_be hB q1_6))).mono (fun _ _ h => quiet_makes h))
  rw [swept_rs, swept_rc, two_eq, or_swap] at K7
  go_upto_region 8 with (first | (refine wpList_load_ctx rfl ctx_p rfl rfl hX6 ?_) | (go_at_call 7; refine K7.mono ?_; rintro e u7 ⟨rfl, hb7⟩; have hs7 := hb7.size) | (with_reducible refine holdS rfl ?_))
  clear K7
  refine hide ?_
  refine wpList_store_ctx rfl ctx_p rfl rfl rfl (R := (rsR R (fun x => betw z0.toNat z1.toNat x || betw z2.toNat z3.toNat x) 33)) ?_ ?_
  · repeat (first | with_reducible assumption | with_reducible exact Ctx.own (by with_reducible assumption) | with_reducible refine o_dr _ ?_ | with_reducible refine o_d1 ?_ | with_reducible refine o_set ?_ | with_reducible refine o_sc ?_ | (with_reducible refine o_new ?_ ?_; (focus (first | (simp [*]; done) | (simp [*]; omega))); (focus (first | omega | (simp; done)))) | with_reducible refine o_al _ ?_ | (with_reducible apply o_be; with_reducible assumption))
  refine wpList_abs (fun W => Below W6.heap.size W6 W ∧ Ctx W u7.heap.size ((rsR R (fun x => betw z0.toNat z1.toNat x || betw z2.toNat z3.toNat x) 33))) ⟨?_, ctx_store ?_ _⟩ ?_
  · repeat (first | with_reducible assumption | with_reducible exact Below.refl _ _ | with_reducible refine Below.drew ?_ | with_reducible refine below_drewN ?_ _ | with_reducible refine bw_alloc ?_ _ | (with_reducible refine bw_set ?_ ?_ _; focus (dsimp only; omega)) | (with_reducible apply bw_behind; with_reducible assumption) | (with_reducible refine bw_sc _ ?_ ?_; focus omega))
  · repeat (first | with_reducible assumption | with_reducible exact Ctx.own (by with_reducible assumption) | with_reducible refine o_dr _ ?_ | with_reducible refine o_d1 ?_ | with_reducible refine o_set ?_ | with_reducible refine o_sc ?_ | (with_reducible refine o_new ?_ ?_; (focus (first | (simp [*]; done) | (simp [*]; omega))); (focus (first | omega | (simp; done)))) | with_reducible refine o_al _ ?_ | (with_reducible apply o_be; with_reducible assumption))
  rintro W7 ⟨hG7, hX7⟩
  have hBW7 := hBW6.trans (hG7.mono hBW6.size)
  clear hb7 hs7
  go_upto_region 8 with fail
  have hX4_7 := hX4_6.be hG7
  have hX5_7 := hX5_6.be hG7
  have q0_7 := c_be hG7 q0_6
  have q1_7 := c_be hG7 q1_6
  have q2_7 := c_be hG7 q2_6
  have q3_7 := c_be hG7 q3_6
  have fa_7 := c_be hG7 fa_6
  have fb_7 := c_be hG7 fb_6

  have K8 := swept_f (rsR R (fun x => betw z0.toNat z1.toNat x || betw z2.toNat z3.toNat x) 33) (rsR_wf hW _ 33) (.func 24) #[] #[.pointer (some ⟨w.heap.size + 1, 0, none⟩)] (betw z2.toNat z3.toNat) W7 (hT.behind hBW7) (fun W hB b => (hold_b (b : Int) (w.heap.size + 1) W (betw z2.toNat z3.toNat b) (clos_b z2.toNat z3.toNat b _ W (c_be hB q2_7) (c_be hB q3_7))).mono (fun _ _ h => quiet_makes h))
  rw [swept_rs, swept_rc, hnone] at K8
  go_upto_region 9 with (first | (refine wpList_load_ctx rfl ctx_p rfl rfl hX4_7 ?_) | (go_at_call 7; refine K8.mono ?_; rintro e u8 ⟨rfl, hb8⟩; have hs8 := hb8.size) | (with_reducible refine holdS rfl ?_))
  clear K8
  refine hide ?_
  refine wpList_store_ctx rfl ctx_p rfl rfl rfl (R := (rsR (rsR R (fun x => betw z0.toNat z1.toNat x || betw z2.toNat z3.toNat x) 33) (betw z2.toNat z3.toNat) 33)) ?_ ?_
  · repeat (first | with_reducible assumption | with_reducible exact Ctx.own (by with_reducible assumption) | with_reducible refine o_dr _ ?_ | with_reducible refine o_d1 ?_ | with_reducible refine o_set ?_ | with_reducible refine o_sc ?_ | (with_reducible refine o_new ?_ ?_; (focus (first | (simp [*]; done) | (simp [*]; omega))); (focus (first | omega | (simp; done)))) | with_reducible refine o_al _ ?_ | (with_reducible apply o_be; with_reducible assumption))
  refine wpList_abs (fun W => Below W7.heap.size W7 W ∧ Ctx W u8.heap.size ((rsR (rsR R (fun x => betw z0.toNat z1.toNat x || betw z2.toNat z3.toNat x) 33) (betw z2.toNat z3.toNat) 33))) ⟨?_, ctx_store ?_ _⟩ ?_
  · repeat (first | with_reducible assumption | with_reducible exact Below.refl _ _ | with_reducible refine Below.drew ?_ | with_reducible refine below_drewN ?_ _ | with_reducible refine bw_alloc ?_ _ | (with_reducible refine bw_set ?_ ?_ _; focus (dsimp only; omega)) | (with_reducible apply bw_behind; with_reducible assumption) | (with_reducible refine bw_sc _ ?_ ?_; focus omega))
  · repeat (first | with_reducible assumption | with_reducible exact Ctx.own (by with_reducible assumption) | with_reducible refine o_dr _ ?_ | with_reducible refine o_d1 ?_ | with_reducible refine o_set ?_ | with_reducible refine o_sc ?_ | (with_reducible refine o_new ?_ ?_; (focus (first | (simp [*]; done) | (simp [*]; omega))); (focus (first | omega | (simp; done)))) | with_reducible refine o_al _ ?_ | (with_reducible apply o_be; with_reducible assumption))
  rintro W8 ⟨hG8, hX8⟩
  have hBW8 := hBW7.trans (hG8.mono hBW7.size)
  clear hb8 hs8
  go_upto_region 9 with fail
  have hX4_8 := hX4_7.be hG8
  have hX5_8 := hX5_7.be hG8
  have hX7_8 := hX7.be hG8
  have hE := fun W => eql_same ctx_p (rsR R (fun x => betw z0.toNat z1.toNat x || betw z2.toNat z3.toNat x) 33) W
  go_wp2_with (first | (refine wpList_load_ctx rfl ctx_p rfl rfl hX4_8 ?_) | (refine wpList_load_ctx rfl ctx_p rfl rfl hX5_8 ?_) | (refine wpList_load_ctxG (by kernel_rfl) ctx_p rfl rfl hX7_8 ?_) | (refine wpList_load_ctxG (by kernel_rfl) ctx_p rfl rfl hX5_8 ?_) | (go_at_call 16; (with_reducible refine (CO.out _).mono ?_); rintro e u9 ⟨rfl, hb9⟩))
  go_ret
  exact ⟨rfl, hBW8.trans (hb9.mono hBW8.size)⟩

open Go.ChangeShapes Go.WideShapes Go.ChangeAt
set_option maxRecDepth 100000 in
theorem walks : Frame.WalksLaid [("mintmark/bounds.places", Rows.laid_mintmark_bounds_places)] 5 Tryd.f5 := by
  intro H enc W base args ds ps hL hval hA
  rw [Tryd.params5] at hA hval
  obtain ⟨v0, v1, d0, d1, p0, p1, hargs, rfl, rfl, h0, h1⟩ := trodAll_two hA
  obtain rfl : args = #[v0, v1] := by cases args; simp_all
  obtain ⟨cs0, rfl, hf0⟩ := Frame.open_struct (F := 8) (ks := ksF 33) Tryd.underlying27 (by kernel_rfl) (hval 0 27 v0 rfl rfl) h0
  obtain ⟨R0, hw0, e0⟩ := open_ctxA hf0
  rw [e0]
  clear e0 hf0
  obtain ⟨zs1, rfl, hl1, hz1⟩ := Frame.open_arr Tryd.underlying53 Tryd.underlying22 (by kernel_rfl) (by kernel_rfl) (hval 1 53 v1 rfl rfl) h1
  obtain ⟨z1_0, z1_1, z1_2, z1_3, rfl⟩ := Frame.arr4 hl1
  obtain ⟨Z1_0, rfl⟩ := Frame.wf_u64 (hz1 z1_0 (by simp))
  obtain ⟨Z1_1, rfl⟩ := Frame.wf_u64 (hz1 z1_1 (by simp))
  obtain ⟨Z1_2, rfl⟩ := Frame.wf_u64 (hz1 z1_2 (by simp))
  obtain ⟨Z1_3, rfl⟩ := Frame.wf_u64 (hz1 z1_3 (by simp))
  exact walk R0 hw0 Z1_0 Z1_1 Z1_2 Z1_3 W (tab_of_laid hL)
set_option maxRecDepth 100000 in
theorem said : Rows.RegsSweepsSaid :=
  OpenClaim.holds_of_wide 5 Tryd.f5 rfl rfl rfl rfl rfl rfl rfl ⟨rfl, rfl, rfl, rfl, rfl⟩ rfl rfl rfl rfl rfl (by kernel_rfl) Tryd.func5 (by kernel_rfl)
    (of_decide_eq_true (by kernel_rfl)) (by unfold Func.isWrapper; first | (rw [if_pos (by decide +kernel)]; kernel_rfl) | (rw [if_neg (by decide +kernel)]; exact ⟨rfl, rfl⟩))
    (fun os started H enc _ => Frame.liftLaid [("mintmark/bounds.places", Rows.laid_mintmark_bounds_places)] os started H enc _ _ Rows.regsSweepsSpec 4 (by kernel_rfl) Tryd.func5 Tryd.underlying4 (by kernel_rfl) rfl (by kernel_rfl)
      (fun ds h => by match ds, h with | [_, _], _ => exact ⟨rfl, rfl, rfl⟩)
      (ChangeSpec.witness_shaped (enc := enc) (C := Tryd.checked) (os := os) (X := fun w _ => laidMetH Tryd.prog [("mintmark/bounds.places", Rows.laid_mintmark_bounds_places)] w) false (World.doorLaid Tryd.prog 400 os) #[.agg #[.bool false, .int .u64 0, .int .u64 0, .bool false, .int .u64 0, .int .u64 0, .bool false, .int .u64 0, .int .u64 0, .bool false, .int .u64 0, .int .u64 0, .bool false, .int .u64 0, .int .u64 0, .bool false, .int .u64 0, .int .u64 0, .bool false, .int .u64 0, .int .u64 0, .bool false, .int .u64 0, .int .u64 0, .bool false, .int .u64 0, .int .u64 0, .bool false, .int .u64 0, .int .u64 0, .bool false, .int .u64 0, .int .u64 0, .bool false, .int .u64 0, .int .u64 0, .bool false, .int .u64 0, .int .u64 0, .bool false, .int .u64 0, .int .u64 0, .bool false, .int .u64 0, .int .u64 0, .bool false, .int .u64 0, .int .u64 0, .bool false, .int .u64 0, .int .u64 0, .bool false, .int .u64 0, .int .u64 0, .bool false, .int .u64 0, .int .u64 0, .bool false, .int .u64 0, .int .u64 0, .bool false, .int .u64 0, .int .u64 0, .bool false, .int .u64 0, .int .u64 0, .bool false, .int .u64 0, .int .u64 0, .bool false, .int .u64 0, .int .u64 0, .bool false, .int .u64 0, .int .u64 0, .bool false, .int .u64 0, .int .u64 0, .bool false, .int .u64 0, .int .u64 0, .bool false, .int .u64 0, .int .u64 0, .bool false, .int .u64 0, .int .u64 0, .bool false, .int .u64 0, .int .u64 0, .bool false, .int .u64 0, .int .u64 0, .bool false, .int .u64 0, .int .u64 0, .bool false, .int .u64 0, .int .u64 0], .agg #[.int .u64 0, .int .u64 0, .int .u64 0, .int .u64 0]] 8 rfl (World.shaped_of_RefB (by kernel_rfl) (by kernel_rfl)) (by kernel_rfl) (by kernel_rfl) (by kernel_rfl) (door_met os _)) walks)
set_option maxRecDepth 100000 in
theorem proved : Rows.RegsSweepsCardSaid :=
  Claim7.holds_tied_plain_at .later [] [.data] true _ false said (fun _ h => by cases h) (by kernel_rfl) (fun _ h => by cases h) regsSweeps_row_tie rfl ⟨rfl, rfl⟩ (by kernel_rfl) rfl
    (fun f fn hf hfn => by
      obtain rfl : f = 5 := Option.some.inj ((show Tryd.prog.funcNamed "mintmark/mintmarklaw16.RegsSweeps" = some 5 by kernel_rfl).symm.trans hf) |>.symm
      obtain rfl : fn = Tryd.f5 := (Option.some.inj (Tryd.func5.symm.trans hfn)).symm
      exact ⟨by kernel_rfl, fun j t ht => by
        rw [Tryd.params5] at ht
        have hm : t ∈ [27, 53] := by have := Array.mem_of_getElem? ht; simp at this; simp; first | omega | grind
        have hall : ([27, 53].all fun u => !Tryd.prog.wantsStandIn u) = true := by kernel_rfl
        exact (show Tryd.prog.wantsStandIn t = false by simpa using List.all_eq_true.1 hall t hm)⟩)
    (by kernel_rfl)
end Go.Proofs.YtnbfjaocakghkaaDoor.RegsSweeps
