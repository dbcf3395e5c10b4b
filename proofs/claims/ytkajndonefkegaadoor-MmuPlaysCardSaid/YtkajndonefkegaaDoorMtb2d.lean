/-
  What slices.IndexFunc answers over at most two lines, for a closure of the buffer.
-/
import Derived.Test.YtkajndonefkegaaDoorGMtb
set_option maxRecDepth 100000
set_option maxHeartbeats 64000000
namespace Go.Proofs.YtkajndonefkegaaDoor
open Go.RowKit

theorem idx_d_e (N o : Nat) (ba bn : Nat)  (w : World)   : Calls Tryd.prog 87 #[.slice (some ⟨N, o, none⟩) 0 0, .func (.func 51) #[] #[.pointer (some ⟨ba, 0, none⟩), .pointer (some ⟨bn, 0, none⟩)]] w (Makes (.int .i64 (-1)) w) := by
  obtain ⟨SS, LB', LS, LA', LH⟩ := rules5
  go_enter Tryd.func87, Tryd.ntmps87
  go_wp2
  refine wp_loop_rounds 1 ?_
  rw [rounds_succ]
  go_wp2_with fail
  go_ret
  refine ⟨rfl, ?_⟩
  repeat (with_reducible first | assumption | exact Below.refl _ _ | refine Below.drew ?_ | refine below_drewN ?_ _ | refine bw_alloc ?_ _ | (refine bw_set ?_ ?_ _; focus (dsimp only; omega)) | (apply bw_behind; assumption))

theorem idx_d_y (N o : Nat) (A0 B0 : Int) (X0 : Fd) (ba bn : Nat) (a n : Int) (k0 : ∀ W : World, W.cell? ⟨ba, 0, none⟩ = some (.int .u64 a) -> W.cell? ⟨bn, 0, none⟩ = some (.int .u64 n) -> Calls Tryd.prog 51 #[.agg #[.int .u64 A0, .int .u64 B0, .bool X0.e0, .bool X0.e1, .bool X0.e2, .bool X0.e3, .bool X0.e4, .bool X0.e5, .bool X0.e6, .bool X0.e7, .bool X0.e8, .bool X0.e9, .bool X0.e10, .bool X0.e11, .int .u64 X0.f, .int .u64 X0.a], .pointer (some ⟨ba, 0, none⟩), .pointer (some ⟨bn, 0, none⟩)] W (Makes (.bool true) W)) (w : World) (r0 : w.rangeAt N (o) (lineI A0 B0 X0)) (g0 : w.cell? ⟨ba, 0, none⟩ = some (.int .u64 a)) (g1 : w.cell? ⟨bn, 0, none⟩ = some (.int .u64 n)) : Calls Tryd.prog 87 #[.slice (some ⟨N, o, none⟩) 1 1, .func (.func 51) #[] #[.pointer (some ⟨ba, 0, none⟩), .pointer (some ⟨bn, 0, none⟩)]] w (Makes (.int .i64 (0)) w) := by
  obtain ⟨SS, LB', LS, LA', LH⟩ := rules5
  have y0 : w.cell? ⟨N, o, none⟩ = some (.int .u64 A0) := row_of r0 0 _ rfl
  have C0 := hide k0
  clear k0
  have hN : N < w.heap.size := World.block_lt_of_cell? _ _ y0
  clear y0
  go_enter Tryd.func87, Tryd.ntmps87
  go_wp2
  refine wp_loop_rounds 2 ?_
  rw [rounds_succ]
  go_wp2_with (first | ((refine wpList_load_line rfl _ rfl (N) (o) rfl A0 B0 X0 ?_ ?_); (focus (repeat (with_reducible first | assumption | refine rg_dr _ ?_ | refine rg_d1 ?_ | refine rg_al _ ?_ | (refine rg_set ?_ ?_; focus (dsimp only; omega)) | (apply rg_be; assumption) | (refine rg_bn (by assumption) ?_ ?_; focus omega) | (refine rg_out (by assumption) ?_ ?_; focus omega))))) | (go_at_call 51; (with_reducible refine (C0.out _ ?_ ?_).mono ?_); (focus (repeat (with_reducible first | assumption | refine c_dr _ ?_ | refine c_d1 ?_ | refine c_al _ ?_ | (refine c_set ?_ ?_; focus (dsimp only; omega)) | (apply c_be; assumption)))); (focus (repeat (with_reducible first | assumption | refine c_dr _ ?_ | refine c_d1 ?_ | refine c_al _ ?_ | (refine c_set ?_ ?_; focus (dsimp only; omega)) | (apply c_be; assumption)))); rintro e wC0 ⟨rfl, hbC0⟩; obtain ⟨hrC0, hhC0, mC0, hsC0⟩ := bl_all hbC0))
  go_ret
  refine ⟨rfl, ?_⟩
  repeat (with_reducible first | assumption | exact Below.refl _ _ | refine Below.drew ?_ | refine below_drewN ?_ _ | refine bw_alloc ?_ _ | (refine bw_set ?_ ?_ _; focus (dsimp only; omega)) | (apply bw_behind; assumption))

theorem idx_d_n (N o : Nat) (A0 B0 : Int) (X0 : Fd) (ba bn : Nat) (a n : Int) (k0 : ∀ W : World, W.cell? ⟨ba, 0, none⟩ = some (.int .u64 a) -> W.cell? ⟨bn, 0, none⟩ = some (.int .u64 n) -> Calls Tryd.prog 51 #[.agg #[.int .u64 A0, .int .u64 B0, .bool X0.e0, .bool X0.e1, .bool X0.e2, .bool X0.e3, .bool X0.e4, .bool X0.e5, .bool X0.e6, .bool X0.e7, .bool X0.e8, .bool X0.e9, .bool X0.e10, .bool X0.e11, .int .u64 X0.f, .int .u64 X0.a], .pointer (some ⟨ba, 0, none⟩), .pointer (some ⟨bn, 0, none⟩)] W (Makes (.bool false) W)) (w : World) (r0 : w.rangeAt N (o) (lineI A0 B0 X0)) (g0 : w.cell? ⟨ba, 0, none⟩ = some (.int .u64 a)) (g1 : w.cell? ⟨bn, 0, none⟩ = some (.int .u64 n)) : Calls Tryd.prog 87 #[.slice (some ⟨N, o, none⟩) 1 1, .func (.func 51) #[] #[.pointer (some ⟨ba, 0, none⟩), .pointer (some ⟨bn, 0, none⟩)]] w (Makes (.int .i64 (-1)) w) := by
  obtain ⟨SS, LB', LS, LA', LH⟩ := rules5
  have y0 : w.cell? ⟨N, o, none⟩ = some (.int .u64 A0) := row_of r0 0 _ rfl
  have C0 := hide k0
  clear k0
  have hN : N < w.heap.size := World.block_lt_of_cell? _ _ y0
  clear y0
  go_enter Tryd.func87, Tryd.ntmps87
  go_wp2
  refine wp_loop_rounds 2 ?_
  rw [rounds_succ]
  go_wp2_with (first | ((refine wpList_load_line rfl _ rfl (N) (o) rfl A0 B0 X0 ?_ ?_); (focus (repeat (with_reducible first | assumption | refine rg_dr _ ?_ | refine rg_d1 ?_ | refine rg_al _ ?_ | (refine rg_set ?_ ?_; focus (dsimp only; omega)) | (apply rg_be; assumption) | (refine rg_bn (by assumption) ?_ ?_; focus omega) | (refine rg_out (by assumption) ?_ ?_; focus omega))))) | (go_at_call 51; (with_reducible refine (C0.out _ ?_ ?_).mono ?_); (focus (repeat (with_reducible first | assumption | refine c_dr _ ?_ | refine c_d1 ?_ | refine c_al _ ?_ | (refine c_set ?_ ?_; focus (dsimp only; omega)) | (apply c_be; assumption)))); (focus (repeat (with_reducible first | assumption | refine c_dr _ ?_ | refine c_d1 ?_ | refine c_al _ ?_ | (refine c_set ?_ ?_; focus (dsimp only; omega)) | (apply c_be; assumption)))); rintro e wC0 ⟨rfl, hbC0⟩; obtain ⟨hrC0, hhC0, mC0, hsC0⟩ := bl_all hbC0))
  rw [rounds_succ]
  go_wp2_with (first | ((refine wpList_load_line rfl _ rfl (N) (o) rfl A0 B0 X0 ?_ ?_); (focus (repeat (with_reducible first | assumption | refine rg_dr _ ?_ | refine rg_d1 ?_ | refine rg_al _ ?_ | (refine rg_set ?_ ?_; focus (dsimp only; omega)) | (apply rg_be; assumption) | (refine rg_bn (by assumption) ?_ ?_; focus omega) | (refine rg_out (by assumption) ?_ ?_; focus omega))))) | (go_at_call 51; (with_reducible refine (C0.out _ ?_ ?_).mono ?_); (focus (repeat (with_reducible first | assumption | refine c_dr _ ?_ | refine c_d1 ?_ | refine c_al _ ?_ | (refine c_set ?_ ?_; focus (dsimp only; omega)) | (apply c_be; assumption)))); (focus (repeat (with_reducible first | assumption | refine c_dr _ ?_ | refine c_d1 ?_ | refine c_al _ ?_ | (refine c_set ?_ ?_; focus (dsimp only; omega)) | (apply c_be; assumption)))); rintro e wC0 ⟨rfl, hbC0⟩; obtain ⟨hrC0, hhC0, mC0, hsC0⟩ := bl_all hbC0))
  go_ret
  refine ⟨rfl, ?_⟩
  repeat (with_reducible first | assumption | exact Below.refl _ _ | refine Below.drew ?_ | refine below_drewN ?_ _ | refine bw_alloc ?_ _ | (refine bw_set ?_ ?_ _; focus (dsimp only; omega)) | (apply bw_behind; assumption))

theorem idx_d_yx (N o : Nat) (A0 B0 : Int) (X0 : Fd) (ba bn : Nat) (a n : Int) (k0 : ∀ W : World, W.cell? ⟨ba, 0, none⟩ = some (.int .u64 a) -> W.cell? ⟨bn, 0, none⟩ = some (.int .u64 n) -> Calls Tryd.prog 51 #[.agg #[.int .u64 A0, .int .u64 B0, .bool X0.e0, .bool X0.e1, .bool X0.e2, .bool X0.e3, .bool X0.e4, .bool X0.e5, .bool X0.e6, .bool X0.e7, .bool X0.e8, .bool X0.e9, .bool X0.e10, .bool X0.e11, .int .u64 X0.f, .int .u64 X0.a], .pointer (some ⟨ba, 0, none⟩), .pointer (some ⟨bn, 0, none⟩)] W (Makes (.bool true) W)) (w : World) (r0 : w.rangeAt N (o) (lineI A0 B0 X0)) (g0 : w.cell? ⟨ba, 0, none⟩ = some (.int .u64 a)) (g1 : w.cell? ⟨bn, 0, none⟩ = some (.int .u64 n)) : Calls Tryd.prog 87 #[.slice (some ⟨N, o, none⟩) 2 2, .func (.func 51) #[] #[.pointer (some ⟨ba, 0, none⟩), .pointer (some ⟨bn, 0, none⟩)]] w (Makes (.int .i64 (0)) w) := by
  obtain ⟨SS, LB', LS, LA', LH⟩ := rules5
  have y0 : w.cell? ⟨N, o, none⟩ = some (.int .u64 A0) := row_of r0 0 _ rfl
  have C0 := hide k0
  clear k0
  have hN : N < w.heap.size := World.block_lt_of_cell? _ _ y0
  clear y0
  go_enter Tryd.func87, Tryd.ntmps87
  go_wp2
  refine wp_loop_rounds 2 ?_
  rw [rounds_succ]
  go_wp2_with (first | ((refine wpList_load_line rfl _ rfl (N) (o) rfl A0 B0 X0 ?_ ?_); (focus (repeat (with_reducible first | assumption | refine rg_dr _ ?_ | refine rg_d1 ?_ | refine rg_al _ ?_ | (refine rg_set ?_ ?_; focus (dsimp only; omega)) | (apply rg_be; assumption) | (refine rg_bn (by assumption) ?_ ?_; focus omega) | (refine rg_out (by assumption) ?_ ?_; focus omega))))) | (go_at_call 51; (with_reducible refine (C0.out _ ?_ ?_).mono ?_); (focus (repeat (with_reducible first | assumption | refine c_dr _ ?_ | refine c_d1 ?_ | refine c_al _ ?_ | (refine c_set ?_ ?_; focus (dsimp only; omega)) | (apply c_be; assumption)))); (focus (repeat (with_reducible first | assumption | refine c_dr _ ?_ | refine c_d1 ?_ | refine c_al _ ?_ | (refine c_set ?_ ?_; focus (dsimp only; omega)) | (apply c_be; assumption)))); rintro e wC0 ⟨rfl, hbC0⟩; obtain ⟨hrC0, hhC0, mC0, hsC0⟩ := bl_all hbC0))
  go_ret
  refine ⟨rfl, ?_⟩
  repeat (with_reducible first | assumption | exact Below.refl _ _ | refine Below.drew ?_ | refine below_drewN ?_ _ | refine bw_alloc ?_ _ | (refine bw_set ?_ ?_ _; focus (dsimp only; omega)) | (apply bw_behind; assumption))

theorem idx_d_ny (N o : Nat) (A0 B0 : Int) (X0 : Fd) (A1 B1 : Int) (X1 : Fd) (ba bn : Nat) (a n : Int) (k0 : ∀ W : World, W.cell? ⟨ba, 0, none⟩ = some (.int .u64 a) -> W.cell? ⟨bn, 0, none⟩ = some (.int .u64 n) -> Calls Tryd.prog 51 #[.agg #[.int .u64 A0, .int .u64 B0, .bool X0.e0, .bool X0.e1, .bool X0.e2, .bool X0.e3, .bool X0.e4, .bool X0.e5, .bool X0.e6, .bool X0.e7, .bool X0.e8, .bool X0.e9, .bool X0.e10, .bool X0.e11, .int .u64 X0.f, .int .u64 X0.a], .pointer (some ⟨ba, 0, none⟩), .pointer (some ⟨bn, 0, none⟩)] W (Makes (.bool false) W)) (k1 : ∀ W : World, W.cell? ⟨ba, 0, none⟩ = some (.int .u64 a) -> W.cell? ⟨bn, 0, none⟩ = some (.int .u64 n) -> Calls Tryd.prog 51 #[.agg #[.int .u64 A1, .int .u64 B1, .bool X1.e0, .bool X1.e1, .bool X1.e2, .bool X1.e3, .bool X1.e4, .bool X1.e5, .bool X1.e6, .bool X1.e7, .bool X1.e8, .bool X1.e9, .bool X1.e10, .bool X1.e11, .int .u64 X1.f, .int .u64 X1.a], .pointer (some ⟨ba, 0, none⟩), .pointer (some ⟨bn, 0, none⟩)] W (Makes (.bool true) W)) (w : World) (r0 : w.rangeAt N (o) (lineI A0 B0 X0)) (r1 : w.rangeAt N (o + 16) (lineI A1 B1 X1)) (g0 : w.cell? ⟨ba, 0, none⟩ = some (.int .u64 a)) (g1 : w.cell? ⟨bn, 0, none⟩ = some (.int .u64 n)) : Calls Tryd.prog 87 #[.slice (some ⟨N, o, none⟩) 2 2, .func (.func 51) #[] #[.pointer (some ⟨ba, 0, none⟩), .pointer (some ⟨bn, 0, none⟩)]] w (Makes (.int .i64 (1)) w) := by
  obtain ⟨SS, LB', LS, LA', LH⟩ := rules5
  have y0 : w.cell? ⟨N, o, none⟩ = some (.int .u64 A0) := row_of r0 0 _ rfl
  have C0 := hide k0
  have C1 := hide k1
  clear k0 k1
  have hN : N < w.heap.size := World.block_lt_of_cell? _ _ y0
  clear y0
  go_enter Tryd.func87, Tryd.ntmps87
  go_wp2
  refine wp_loop_rounds 3 ?_
  rw [rounds_succ]
  go_wp2_with (first | ((refine wpList_load_line rfl _ rfl (N) (o) rfl A0 B0 X0 ?_ ?_); (focus (repeat (with_reducible first | assumption | refine rg_dr _ ?_ | refine rg_d1 ?_ | refine rg_al _ ?_ | (refine rg_set ?_ ?_; focus (dsimp only; omega)) | (apply rg_be; assumption) | (refine rg_bn (by assumption) ?_ ?_; focus omega) | (refine rg_out (by assumption) ?_ ?_; focus omega))))) | ((refine wpList_load_line rfl _ rfl (N) (o + 16) rfl A1 B1 X1 ?_ ?_); (focus (repeat (with_reducible first | assumption | refine rg_dr _ ?_ | refine rg_d1 ?_ | refine rg_al _ ?_ | (refine rg_set ?_ ?_; focus (dsimp only; omega)) | (apply rg_be; assumption) | (refine rg_bn (by assumption) ?_ ?_; focus omega) | (refine rg_out (by assumption) ?_ ?_; focus omega))))) | (go_at_call 51; (with_reducible refine (C0.out _ ?_ ?_).mono ?_); (focus (repeat (with_reducible first | assumption | refine c_dr _ ?_ | refine c_d1 ?_ | refine c_al _ ?_ | (refine c_set ?_ ?_; focus (dsimp only; omega)) | (apply c_be; assumption)))); (focus (repeat (with_reducible first | assumption | refine c_dr _ ?_ | refine c_d1 ?_ | refine c_al _ ?_ | (refine c_set ?_ ?_; focus (dsimp only; omega)) | (apply c_be; assumption)))); rintro e wC0 ⟨rfl, hbC0⟩; obtain ⟨hrC0, hhC0, mC0, hsC0⟩ := bl_all hbC0) | (go_at_call 51; (with_reducible refine (C1.out _ ?_ ?_).mono ?_); (focus (repeat (with_reducible first | assumption | refine c_dr _ ?_ | refine c_d1 ?_ | refine c_al _ ?_ | (refine c_set ?_ ?_; focus (dsimp only; omega)) | (apply c_be; assumption)))); (focus (repeat (with_reducible first | assumption | refine c_dr _ ?_ | refine c_d1 ?_ | refine c_al _ ?_ | (refine c_set ?_ ?_; focus (dsimp only; omega)) | (apply c_be; assumption)))); rintro e wC1 ⟨rfl, hbC1⟩; obtain ⟨hrC1, hhC1, mC1, hsC1⟩ := bl_all hbC1))
  rw [rounds_succ]
  go_wp2_with (first | ((refine wpList_load_line rfl _ rfl (N) (o) rfl A0 B0 X0 ?_ ?_); (focus (repeat (with_reducible first | assumption | refine rg_dr _ ?_ | refine rg_d1 ?_ | refine rg_al _ ?_ | (refine rg_set ?_ ?_; focus (dsimp only; omega)) | (apply rg_be; assumption) | (refine rg_bn (by assumption) ?_ ?_; focus omega) | (refine rg_out (by assumption) ?_ ?_; focus omega))))) | ((refine wpList_load_line rfl _ rfl (N) (o + 16) rfl A1 B1 X1 ?_ ?_); (focus (repeat (with_reducible first | assumption | refine rg_dr _ ?_ | refine rg_d1 ?_ | refine rg_al _ ?_ | (refine rg_set ?_ ?_; focus (dsimp only; omega)) | (apply rg_be; assumption) | (refine rg_bn (by assumption) ?_ ?_; focus omega) | (refine rg_out (by assumption) ?_ ?_; focus omega))))) | (go_at_call 51; (with_reducible refine (C0.out _ ?_ ?_).mono ?_); (focus (repeat (with_reducible first | assumption | refine c_dr _ ?_ | refine c_d1 ?_ | refine c_al _ ?_ | (refine c_set ?_ ?_; focus (dsimp only; omega)) | (apply c_be; assumption)))); (focus (repeat (with_reducible first | assumption | refine c_dr _ ?_ | refine c_d1 ?_ | refine c_al _ ?_ | (refine c_set ?_ ?_; focus (dsimp only; omega)) | (apply c_be; assumption)))); rintro e wC0 ⟨rfl, hbC0⟩; obtain ⟨hrC0, hhC0, mC0, hsC0⟩ := bl_all hbC0) | (go_at_call 51; (with_reducible refine (C1.out _ ?_ ?_).mono ?_); (focus (repeat (with_reducible first | assumption | refine c_dr _ ?_ | refine c_d1 ?_ | refine c_al _ ?_ | (refine c_set ?_ ?_; focus (dsimp only; omega)) | (apply c_be; assumption)))); (focus (repeat (with_reducible first | assumption | refine c_dr _ ?_ | refine c_d1 ?_ | refine c_al _ ?_ | (refine c_set ?_ ?_; focus (dsimp only; omega)) | (apply c_be; assumption)))); rintro e wC1 ⟨rfl, hbC1⟩; obtain ⟨hrC1, hhC1, mC1, hsC1⟩ := bl_all hbC1))
  go_ret
  refine ⟨rfl, ?_⟩
  repeat (with_reducible first | assumption | exact Below.refl _ _ | refine Below.drew ?_ | refine below_drewN ?_ _ | refine bw_alloc ?_ _ | (refine bw_set ?_ ?_ _; focus (dsimp only; omega)) | (apply bw_behind; assumption))

theorem idx_d_nn (N o : Nat) (A0 B0 : Int) (X0 : Fd) (A1 B1 : Int) (X1 : Fd) (ba bn : Nat) (a n : Int) (k0 : ∀ W : World, W.cell? ⟨ba, 0, none⟩ = some (.int .u64 a) -> W.cell? ⟨bn, 0, none⟩ = some (.int .u64 n) -> Calls Tryd.prog 51 #[.agg #[.int .u64 A0, .int .u64 B0, .bool X0.e0, .bool X0.e1, .bool X0.e2, .bool X0.e3, .bool X0.e4, .bool X0.e5, .bool X0.e6, .bool X0.e7, .bool X0.e8, .bool X0.e9, .bool X0.e10, .bool X0.e11, .int .u64 X0.f, .int .u64 X0.a], .pointer (some ⟨ba, 0, none⟩), .pointer (some ⟨bn, 0, none⟩)] W (Makes (.bool false) W)) (k1 : ∀ W : World, W.cell? ⟨ba, 0, none⟩ = some (.int .u64 a) -> W.cell? ⟨bn, 0, none⟩ = some (.int .u64 n) -> Calls Tryd.prog 51 #[.agg #[.int .u64 A1, .int .u64 B1, .bool X1.e0, .bool X1.e1, .bool X1.e2, .bool X1.e3, .bool X1.e4, .bool X1.e5, .bool X1.e6, .bool X1.e7, .bool X1.e8, .bool X1.e9, .bool X1.e10, .bool X1.e11, .int .u64 X1.f, .int .u64 X1.a], .pointer (some ⟨ba, 0, none⟩), .pointer (some ⟨bn, 0, none⟩)] W (Makes (.bool false) W)) (w : World) (r0 : w.rangeAt N (o) (lineI A0 B0 X0)) (r1 : w.rangeAt N (o + 16) (lineI A1 B1 X1)) (g0 : w.cell? ⟨ba, 0, none⟩ = some (.int .u64 a)) (g1 : w.cell? ⟨bn, 0, none⟩ = some (.int .u64 n)) : Calls Tryd.prog 87 #[.slice (some ⟨N, o, none⟩) 2 2, .func (.func 51) #[] #[.pointer (some ⟨ba, 0, none⟩), .pointer (some ⟨bn, 0, none⟩)]] w (Makes (.int .i64 (-1)) w) := by
  obtain ⟨SS, LB', LS, LA', LH⟩ := rules5
  have y0 : w.cell? ⟨N, o, none⟩ = some (.int .u64 A0) := row_of r0 0 _ rfl
  have C0 := hide k0
  have C1 := hide k1
  clear k0 k1
  have hN : N < w.heap.size := World.block_lt_of_cell? _ _ y0
  clear y0
  go_enter Tryd.func87, Tryd.ntmps87
  go_wp2
  refine wp_loop_rounds 3 ?_
  rw [rounds_succ]
  go_wp2_with (first | ((refine wpList_load_line rfl _ rfl (N) (o) rfl A0 B0 X0 ?_ ?_); (focus (repeat (with_reducible first | assumption | refine rg_dr _ ?_ | refine rg_d1 ?_ | refine rg_al _ ?_ | (refine rg_set ?_ ?_; focus (dsimp only; omega)) | (apply rg_be; assumption) | (refine rg_bn (by assumption) ?_ ?_; focus omega) | (refine rg_out (by assumption) ?_ ?_; focus omega))))) | ((refine wpList_load_line rfl _ rfl (N) (o + 16) rfl A1 B1 X1 ?_ ?_); (focus (repeat (with_reducible first | assumption | refine rg_dr _ ?_ | refine rg_d1 ?_ | refine rg_al _ ?_ | (refine rg_set ?_ ?_; focus (dsimp only; omega)) | (apply rg_be; assumption) | (refine rg_bn (by assumption) ?_ ?_; focus omega) | (refine rg_out (by assumption) ?_ ?_; focus omega))))) | (go_at_call 51; (with_reducible refine (C0.out _ ?_ ?_).mono ?_); (focus (repeat (with_reducible first | assumption | refine c_dr _ ?_ | refine c_d1 ?_ | refine c_al _ ?_ | (refine c_set ?_ ?_; focus (dsimp only; omega)) | (apply c_be; assumption)))); (focus (repeat (with_reducible first | assumption | refine c_dr _ ?_ | refine c_d1 ?_ | refine c_al _ ?_ | (refine c_set ?_ ?_; focus (dsimp only; omega)) | (apply c_be; assumption)))); rintro e wC0 ⟨rfl, hbC0⟩; obtain ⟨hrC0, hhC0, mC0, hsC0⟩ := bl_all hbC0) | (go_at_call 51; (with_reducible refine (C1.out _ ?_ ?_).mono ?_); (focus (repeat (with_reducible first | assumption | refine c_dr _ ?_ | refine c_d1 ?_ | refine c_al _ ?_ | (refine c_set ?_ ?_; focus (dsimp only; omega)) | (apply c_be; assumption)))); (focus (repeat (with_reducible first | assumption | refine c_dr _ ?_ | refine c_d1 ?_ | refine c_al _ ?_ | (refine c_set ?_ ?_; focus (dsimp only; omega)) | (apply c_be; assumption)))); rintro e wC1 ⟨rfl, hbC1⟩; obtain ⟨hrC1, hhC1, mC1, hsC1⟩ := bl_all hbC1))
  rw [rounds_succ]
  go_wp2_with (first | ((refine wpList_load_line rfl _ rfl (N) (o) rfl A0 B0 X0 ?_ ?_); (focus (repeat (with_reducible first | assumption | refine rg_dr _ ?_ | refine rg_d1 ?_ | refine rg_al _ ?_ | (refine rg_set ?_ ?_; focus (dsimp only; omega)) | (apply rg_be; assumption) | (refine rg_bn (by assumption) ?_ ?_; focus omega) | (refine rg_out (by assumption) ?_ ?_; focus omega))))) | ((refine wpList_load_line rfl _ rfl (N) (o + 16) rfl A1 B1 X1 ?_ ?_); (focus (repeat (with_reducible first | assumption | refine rg_dr _ ?_ | refine rg_d1 ?_ | refine rg_al _ ?_ | (refine rg_set ?_ ?_; focus (dsimp only; omega)) | (apply rg_be; assumption) | (refine rg_bn (by assumption) ?_ ?_; focus omega) | (refine rg_out (by assumption) ?_ ?_; focus omega))))) | (go_at_call 51; (with_reducible refine (C0.out _ ?_ ?_).mono ?_); (focus (repeat (with_reducible first | assumption | refine c_dr _ ?_ | refine c_d1 ?_ | refine c_al _ ?_ | (refine c_set ?_ ?_; focus (dsimp only; omega)) | (apply c_be; assumption)))); (focus (repeat (with_reducible first | assumption | refine c_dr _ ?_ | refine c_d1 ?_ | refine c_al _ ?_ | (refine c_set ?_ ?_; focus (dsimp only; omega)) | (apply c_be; assumption)))); rintro e wC0 ⟨rfl, hbC0⟩; obtain ⟨hrC0, hhC0, mC0, hsC0⟩ := bl_all hbC0) | (go_at_call 51; (with_reducible refine (C1.out _ ?_ ?_).mono ?_); (focus (repeat (with_reducible first | assumption | refine c_dr _ ?_ | refine c_d1 ?_ | refine c_al _ ?_ | (refine c_set ?_ ?_; focus (dsimp only; omega)) | (apply c_be; assumption)))); (focus (repeat (with_reducible first | assumption | refine c_dr _ ?_ | refine c_d1 ?_ | refine c_al _ ?_ | (refine c_set ?_ ?_; focus (dsimp only; omega)) | (apply c_be; assumption)))); rintro e wC1 ⟨rfl, hbC1⟩; obtain ⟨hrC1, hhC1, mC1, hsC1⟩ := bl_all hbC1))
  rw [rounds_succ]
  go_wp2_with (first | ((refine wpList_load_line rfl _ rfl (N) (o) rfl A0 B0 X0 ?_ ?_); (focus (repeat (with_reducible first | assumption | refine rg_dr _ ?_ | refine rg_d1 ?_ | refine rg_al _ ?_ | (refine rg_set ?_ ?_; focus (dsimp only; omega)) | (apply rg_be; assumption) | (refine rg_bn (by assumption) ?_ ?_; focus omega) | (refine rg_out (by assumption) ?_ ?_; focus omega))))) | ((refine wpList_load_line rfl _ rfl (N) (o + 16) rfl A1 B1 X1 ?_ ?_); (focus (repeat (with_reducible first | assumption | refine rg_dr _ ?_ | refine rg_d1 ?_ | refine rg_al _ ?_ | (refine rg_set ?_ ?_; focus (dsimp only; omega)) | (apply rg_be; assumption) | (refine rg_bn (by assumption) ?_ ?_; focus omega) | (refine rg_out (by assumption) ?_ ?_; focus omega))))) | (go_at_call 51; (with_reducible refine (C0.out _ ?_ ?_).mono ?_); (focus (repeat (with_reducible first | assumption | refine c_dr _ ?_ | refine c_d1 ?_ | refine c_al _ ?_ | (refine c_set ?_ ?_; focus (dsimp only; omega)) | (apply c_be; assumption)))); (focus (repeat (with_reducible first | assumption | refine c_dr _ ?_ | refine c_d1 ?_ | refine c_al _ ?_ | (refine c_set ?_ ?_; focus (dsimp only; omega)) | (apply c_be; assumption)))); rintro e wC0 ⟨rfl, hbC0⟩; obtain ⟨hrC0, hhC0, mC0, hsC0⟩ := bl_all hbC0) | (go_at_call 51; (with_reducible refine (C1.out _ ?_ ?_).mono ?_); (focus (repeat (with_reducible first | assumption | refine c_dr _ ?_ | refine c_d1 ?_ | refine c_al _ ?_ | (refine c_set ?_ ?_; focus (dsimp only; omega)) | (apply c_be; assumption)))); (focus (repeat (with_reducible first | assumption | refine c_dr _ ?_ | refine c_d1 ?_ | refine c_al _ ?_ | (refine c_set ?_ ?_; focus (dsimp only; omega)) | (apply c_be; assumption)))); rintro e wC1 ⟨rfl, hbC1⟩; obtain ⟨hrC1, hhC1, mC1, hsC1⟩ := bl_all hbC1))
  go_ret
  refine ⟨rfl, ?_⟩
  repeat (with_reducible first | assumption | exact Below.refl _ _ | refine Below.drew ?_ | refine below_drewN ?_ _ | refine bw_alloc ?_ _ | (refine bw_set ?_ ?_ _; focus (dsimp only; omega)) | (apply bw_behind; assumption))
end Go.Proofs.YtkajndonefkegaaDoor
