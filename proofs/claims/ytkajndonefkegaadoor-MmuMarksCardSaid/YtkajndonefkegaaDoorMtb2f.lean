/-
  What slices.IndexFunc answers over at most two lines, for a closure of the buffer.
-/
import Derived.Test.YtkajndonefkegaaDoorGMtb
namespace Go.Proofs.YtkajndonefkegaaDoor
open Go.RowKit

set_option maxRecDepth 100000 in
set_option maxHeartbeats 2000000 in
theorem idx_f_e (N o : Nat) (ba : Nat)  (w : World)   : Calls Tryd.prog 87 #[.slice (some ⟨N, o, none⟩) 0 0, .func (.func 53) #[] #[.pointer (some ⟨ba, 0, none⟩)]] w (Makes (.int .i64 (-1)) w) := by
  have SS := cell_same
  have LB' := ltB_add
  have LS := ltB_self
  have LA' := alloc_reads
  have LH := alloc_holds
  go_enter Tryd.func87, Tryd.ntmps87
  go_wp2
  refine wp_loop_rounds 1 ?_
  rw [rounds_succ]
  go_wp2_with fail
  go_ret
  refine ⟨rfl, ?_⟩
  repeat (first | with_reducible assumption | with_reducible exact Below.refl _ _ | with_reducible refine Below.drew ?_ | with_reducible refine below_drewN ?_ _ | with_reducible refine bw_alloc ?_ _ | (with_reducible refine bw_set ?_ ?_ _; focus (dsimp only; omega)) | (with_reducible apply bw_behind; with_reducible assumption))

set_option maxRecDepth 100000 in
set_option maxHeartbeats 2000000 in
theorem idx_f_y (N o : Nat) (A0 B0 : Int) (X0 : Fd) (ba : Nat) (a : Int) (k0 : ∀ W : World, W.cell? ⟨ba, 0, none⟩ = some (.int .u64 a) → Calls Tryd.prog 53 #[.agg #[.int .u64 A0, .int .u64 B0, .bool X0.e0, .bool X0.e1, .bool X0.e2, .bool X0.e3, .bool X0.e4, .bool X0.e5, .bool X0.e6, .bool X0.e7, .bool X0.e8, .bool X0.e9, .bool X0.e10, .bool X0.e11, .int .u64 X0.f, .int .u64 X0.a], .pointer (some ⟨ba, 0, none⟩)] W (Makes (.bool true) W)) (w : World) (r0 : w.rangeAt N (o) (lineI A0 B0 X0)) (g0 : w.cell? ⟨ba, 0, none⟩ = some (.int .u64 a)) : Calls Tryd.prog 87 #[.slice (some ⟨N, o, none⟩) 1 1, .func (.func 53) #[] #[.pointer (some ⟨ba, 0, none⟩)]] w (Makes (.int .i64 (0)) w) := by
  have SS := cell_same
  have LB' := ltB_add
  have LS := ltB_self
  have LA' := alloc_reads
  have LH := alloc_holds
  have y0 : w.cell? ⟨N, o, none⟩ = some (.int .u64 A0) := row_of r0 0 _ rfl
  have C0 := hide k0
  clear k0
  have hN : N < w.heap.size := World.block_lt_of_cell? _ _ y0
  clear y0
  go_enter Tryd.func87, Tryd.ntmps87
  go_wp2
  refine wp_loop_rounds 2 ?_
  rw [rounds_succ]
  go_wp2_with (first | ((refine wpList_load_line rfl _ rfl (N) (o) rfl A0 B0 X0 ?_ ?_); (focus (repeat (first | with_reducible assumption | with_reducible refine rg_dr _ ?_ | with_reducible refine rg_d1 ?_ | with_reducible refine rg_al _ ?_ | (with_reducible refine rg_set ?_ ?_; focus (dsimp only; omega)) | (with_reducible apply rg_be; with_reducible assumption) | (with_reducible refine rg_bn (by with_reducible assumption) ?_ ?_; focus omega) | (with_reducible refine rg_out (by with_reducible assumption) ?_ ?_; focus omega))))) | (go_at_call 53; (with_reducible refine (C0.out _ ?_).mono ?_); (focus (repeat (first | with_reducible assumption | with_reducible refine c_dr _ ?_ | with_reducible refine c_d1 ?_ | with_reducible refine c_al _ ?_ | (with_reducible refine c_set ?_ ?_; focus (dsimp only; omega)) | (with_reducible apply c_be; with_reducible assumption)))); rintro e wC0 ⟨rfl, hbC0⟩; have hrC0 := below_reads hbC0; have hhC0 := below_holds hbC0; obtain ⟨mC0, hsC0⟩ := below_grew hbC0))
  go_ret
  refine ⟨rfl, ?_⟩
  repeat (first | with_reducible assumption | with_reducible exact Below.refl _ _ | with_reducible refine Below.drew ?_ | with_reducible refine below_drewN ?_ _ | with_reducible refine bw_alloc ?_ _ | (with_reducible refine bw_set ?_ ?_ _; focus (dsimp only; omega)) | (with_reducible apply bw_behind; with_reducible assumption))

set_option maxRecDepth 100000 in
set_option maxHeartbeats 2000000 in
theorem idx_f_n (N o : Nat) (A0 B0 : Int) (X0 : Fd) (ba : Nat) (a : Int) (k0 : ∀ W : World, W.cell? ⟨ba, 0, none⟩ = some (.int .u64 a) → Calls Tryd.prog 53 #[.agg #[.int .u64 A0, .int .u64 B0, .bool X0.e0, .bool X0.e1, .bool X0.e2, .bool X0.e3, .bool X0.e4, .bool X0.e5, .bool X0.e6, .bool X0.e7, .bool X0.e8, .bool X0.e9, .bool X0.e10, .bool X0.e11, .int .u64 X0.f, .int .u64 X0.a], .pointer (some ⟨ba, 0, none⟩)] W (Makes (.bool false) W)) (w : World) (r0 : w.rangeAt N (o) (lineI A0 B0 X0)) (g0 : w.cell? ⟨ba, 0, none⟩ = some (.int .u64 a)) : Calls Tryd.prog 87 #[.slice (some ⟨N, o, none⟩) 1 1, .func (.func 53) #[] #[.pointer (some ⟨ba, 0, none⟩)]] w (Makes (.int .i64 (-1)) w) := by
  have SS := cell_same
  have LB' := ltB_add
  have LS := ltB_self
  have LA' := alloc_reads
  have LH := alloc_holds
  have y0 : w.cell? ⟨N, o, none⟩ = some (.int .u64 A0) := row_of r0 0 _ rfl
  have C0 := hide k0
  clear k0
  have hN : N < w.heap.size := World.block_lt_of_cell? _ _ y0
  clear y0
  go_enter Tryd.func87, Tryd.ntmps87
  go_wp2
  refine wp_loop_rounds 2 ?_
  rw [rounds_succ]
  go_wp2_with (first | ((refine wpList_load_line rfl _ rfl (N) (o) rfl A0 B0 X0 ?_ ?_); (focus (repeat (first | with_reducible assumption | with_reducible refine rg_dr _ ?_ | with_reducible refine rg_d1 ?_ | with_reducible refine rg_al _ ?_ | (with_reducible refine rg_set ?_ ?_; focus (dsimp only; omega)) | (with_reducible apply rg_be; with_reducible assumption) | (with_reducible refine rg_bn (by with_reducible assumption) ?_ ?_; focus omega) | (with_reducible refine rg_out (by with_reducible assumption) ?_ ?_; focus omega))))) | (go_at_call 53; (with_reducible refine (C0.out _ ?_).mono ?_); (focus (repeat (first | with_reducible assumption | with_reducible refine c_dr _ ?_ | with_reducible refine c_d1 ?_ | with_reducible refine c_al _ ?_ | (with_reducible refine c_set ?_ ?_; focus (dsimp only; omega)) | (with_reducible apply c_be; with_reducible assumption)))); rintro e wC0 ⟨rfl, hbC0⟩; have hrC0 := below_reads hbC0; have hhC0 := below_holds hbC0; obtain ⟨mC0, hsC0⟩ := below_grew hbC0))
  rw [rounds_succ]
  go_wp2_with (first | ((refine wpList_load_line rfl _ rfl (N) (o) rfl A0 B0 X0 ?_ ?_); (focus (repeat (first | with_reducible assumption | with_reducible refine rg_dr _ ?_ | with_reducible refine rg_d1 ?_ | with_reducible refine rg_al _ ?_ | (with_reducible refine rg_set ?_ ?_; focus (dsimp only; omega)) | (with_reducible apply rg_be; with_reducible assumption) | (with_reducible refine rg_bn (by with_reducible assumption) ?_ ?_; focus omega) | (with_reducible refine rg_out (by with_reducible assumption) ?_ ?_; focus omega))))) | (go_at_call 53; (with_reducible refine (C0.out _ ?_).mono ?_); (focus (repeat (first | with_reducible assumption | with_reducible refine c_dr _ ?_ | with_reducible refine c_d1 ?_ | with_reducible refine c_al _ ?_ | (with_reducible refine c_set ?_ ?_; focus (dsimp only; omega)) | (with_reducible apply c_be; with_reducible assumption)))); rintro e wC0 ⟨rfl, hbC0⟩; have hrC0 := below_reads hbC0; have hhC0 := below_holds hbC0; obtain ⟨mC0, hsC0⟩ := below_grew hbC0))
  go_ret
  refine ⟨rfl, ?_⟩
  repeat (first | with_reducible assumption | with_reducible exact Below.refl _ _ | with_reducible refine Below.drew ?_ | with_reducible refine below_drewN ?_ _ | with_reducible refine bw_alloc ?_ _ | (with_reducible refine bw_set ?_ ?_ _; focus (dsimp only; omega)) | (with_reducible apply bw_behind; with_reducible assumption))

set_option maxRecDepth 100000 in
set_option maxHeartbeats 2000000 in
theorem idx_f_yx (N o : Nat) (A0 B0 : Int) (X0 : Fd) (ba : Nat) (a : Int) (k0 : ∀ W : World, W.cell? ⟨ba, 0, none⟩ = some (.int .u64 a) → Calls Tryd.prog 53 #[.agg #[.int .u64 A0, .int .u64 B0, .bool X0.e0, .bool X0.e1, .bool X0.e2, .bool X0.e3, .bool X0.e4, .bool X0.e5, .bool X0.e6, .bool X0.e7, .bool X0.e8, .bool X0.e9, .bool X0.e10, .bool X0.e11, .int .u64 X0.f, .int .u64 X0.a], .pointer (some ⟨ba, 0, none⟩)] W (Makes (.bool true) W)) (w : World) (r0 : w.rangeAt N (o) (lineI A0 B0 X0)) (g0 : w.cell? ⟨ba, 0, none⟩ = some (.int .u64 a)) : Calls Tryd.prog 87 #[.slice (some ⟨N, o, none⟩) 2 2, .func (.func 53) #[] #[.pointer (some ⟨ba, 0, none⟩)]] w (Makes (.int .i64 (0)) w) := by
  have SS := cell_same
  have LB' := ltB_add
  have LS := ltB_self
  have LA' := alloc_reads
  have LH := alloc_holds
  have y0 : w.cell? ⟨N, o, none⟩ = some (.int .u64 A0) := row_of r0 0 _ rfl
  have C0 := hide k0
  clear k0
  have hN : N < w.heap.size := World.block_lt_of_cell? _ _ y0
  clear y0
  go_enter Tryd.func87, Tryd.ntmps87
  go_wp2
  refine wp_loop_rounds 2 ?_
  rw [rounds_succ]
  go_wp2_with (first | ((refine wpList_load_line rfl _ rfl (N) (o) rfl A0 B0 X0 ?_ ?_); (focus (repeat (first | with_reducible assumption | with_reducible refine rg_dr _ ?_ | with_reducible refine rg_d1 ?_ | with_reducible refine rg_al _ ?_ | (with_reducible refine rg_set ?_ ?_; focus (dsimp only; omega)) | (with_reducible apply rg_be; with_reducible assumption) | (with_reducible refine rg_bn (by with_reducible assumption) ?_ ?_; focus omega) | (with_reducible refine rg_out (by with_reducible assumption) ?_ ?_; focus omega))))) | (go_at_call 53; (with_reducible refine (C0.out _ ?_).mono ?_); (focus (repeat (first | with_reducible assumption | with_reducible refine c_dr _ ?_ | with_reducible refine c_d1 ?_ | with_reducible refine c_al _ ?_ | (with_reducible refine c_set ?_ ?_; focus (dsimp only; omega)) | (with_reducible apply c_be; with_reducible assumption)))); rintro e wC0 ⟨rfl, hbC0⟩; have hrC0 := below_reads hbC0; have hhC0 := below_holds hbC0; obtain ⟨mC0, hsC0⟩ := below_grew hbC0))
  go_ret
  refine ⟨rfl, ?_⟩
  repeat (first | with_reducible assumption | with_reducible exact Below.refl _ _ | with_reducible refine Below.drew ?_ | with_reducible refine below_drewN ?_ _ | with_reducible refine bw_alloc ?_ _ | (with_reducible refine bw_set ?_ ?_ _; focus (dsimp only; omega)) | (with_reducible apply bw_behind; with_reducible assumption))

set_option maxRecDepth 100000 in
set_option maxHeartbeats 2000000 in
theorem idx_f_ny (N o : Nat) (A0 B0 : Int) (X0 : Fd) (A1 B1 : Int) (X1 : Fd) (ba : Nat) (a : Int) (k0 : ∀ W : World, W.cell? ⟨ba, 0, none⟩ = some (.int .u64 a) → Calls Tryd.prog 53 #[.agg #[.int .u64 A0, .int .u64 B0, .bool X0.e0, .bool X0.e1, .bool X0.e2, .bool X0.e3, .bool X0.e4, .bool X0.e5, .bool X0.e6, .bool X0.e7, .bool X0.e8, .bool X0.e9, .bool X0.e10, .bool X0.e11, .int .u64 X0.f, .int .u64 X0.a], .pointer (some ⟨ba, 0, none⟩)] W (Makes (.bool false) W)) (k1 : ∀ W : World, W.cell? ⟨ba, 0, none⟩ = some (.int .u64 a) → Calls Tryd.prog 53 #[.agg #[.int .u64 A1, .int .u64 B1, .bool X1.e0, .bool X1.e1, .bool X1.e2, .bool X1.e3, .bool X1.e4, .bool X1.e5, .bool X1.e6, .bool X1.e7, .bool X1.e8, .bool X1.e9, .bool X1.e10, .bool X1.e11, .int .u64 X1.f, .int .u64 X1.a], .pointer (some ⟨ba, 0, none⟩)] W (Makes (.bool true) W)) (w : World) (r0 : w.rangeAt N (o) (lineI A0 B0 X0)) (r1 : w.rangeAt N (o + 16) (lineI A1 B1 X1)) (g0 : w.cell? ⟨ba, 0, none⟩ = some (.int .u64 a)) : Calls Tryd.prog 87 #[.slice (some ⟨N, o, none⟩) 2 2, .func (.func 53) #[] #[.pointer (some ⟨ba, 0, none⟩)]] w (Makes (.int .i64 (1)) w) := by
  have SS := cell_same
  have LB' := ltB_add
  have LS := ltB_self
  have LA' := alloc_reads
  have LH := alloc_holds
  have y0 : w.cell? ⟨N, o, none⟩ = some (.int .u64 A0) := row_of r0 0 _ rfl
  have C0 := hide k0
  have C1 := hide k1
  clear k0 k1
  have hN : N < w.heap.size := World.block_lt_of_cell? _ _ y0
  clear y0
  go_enter Tryd.func87, Tryd.ntmps87
  go_wp2
  refine wp_loop_rounds 3 ?_
  rw [rounds_succ]
  go_wp2_with (first | ((refine wpList_load_line rfl _ rfl (N) (o) rfl A0 B0 X0 ?_ ?_); (focus (repeat (first | with_reducible assumption | with_reducible refine rg_dr _ ?_ | with_reducible refine rg_d1 ?_ | with_reducible refine rg_al _ ?_ | (with_reducible refine rg_set ?_ ?_; focus (dsimp only; omega)) | (with_reducible apply rg_be; with_reducible assumption) | (with_reducible refine rg_bn (by with_reducible assumption) ?_ ?_; focus omega) | (with_reducible refine rg_out (by with_reducible assumption) ?_ ?_; focus omega))))) | ((refine wpList_load_line rfl _ rfl (N) (o + 16) rfl A1 B1 X1 ?_ ?_); (focus (repeat (first | with_reducible assumption | with_reducible refine rg_dr _ ?_ | with_reducible refine rg_d1 ?_ | with_reducible refine rg_al _ ?_ | (with_reducible refine rg_set ?_ ?_; focus (dsimp only; omega)) | (with_reducible apply rg_be; with_reducible assumption) | (with_reducible refine rg_bn (by with_reducible assumption) ?_ ?_; focus omega) | (with_reducible refine rg_out (by with_reducible assumption) ?_ ?_; focus omega))))) | (go_at_call 53; (with_reducible refine (C0.out _ ?_).mono ?_); (focus (repeat (first | with_reducible assumption | with_reducible refine c_dr _ ?_ | with_reducible refine c_d1 ?_ | with_reducible refine c_al _ ?_ | (with_reducible refine c_set ?_ ?_; focus (dsimp only; omega)) | (with_reducible apply c_be; with_reducible assumption)))); rintro e wC0 ⟨rfl, hbC0⟩; have hrC0 := below_reads hbC0; have hhC0 := below_holds hbC0; obtain ⟨mC0, hsC0⟩ := below_grew hbC0) | (go_at_call 53; (with_reducible refine (C1.out _ ?_).mono ?_); (focus (repeat (first | with_reducible assumption | with_reducible refine c_dr _ ?_ | with_reducible refine c_d1 ?_ | with_reducible refine c_al _ ?_ | (with_reducible refine c_set ?_ ?_; focus (dsimp only; omega)) | (with_reducible apply c_be; with_reducible assumption)))); rintro e wC1 ⟨rfl, hbC1⟩; have hrC1 := below_reads hbC1; have hhC1 := below_holds hbC1; obtain ⟨mC1, hsC1⟩ := below_grew hbC1))
  rw [rounds_succ]
  go_wp2_with (first | ((refine wpList_load_line rfl _ rfl (N) (o) rfl A0 B0 X0 ?_ ?_); (focus (repeat (first | with_reducible assumption | with_reducible refine rg_dr _ ?_ | with_reducible refine rg_d1 ?_ | with_reducible refine rg_al _ ?_ | (with_reducible refine rg_set ?_ ?_; focus (dsimp only; omega)) | (with_reducible apply rg_be; with_reducible assumption) | (with_reducible refine rg_bn (by with_reducible assumption) ?_ ?_; focus omega) | (with_reducible refine rg_out (by with_reducible assumption) ?_ ?_; focus omega))))) | ((refine wpList_load_line rfl _ rfl (N) (o + 16) rfl A1 B1 X1 ?_ ?_); (focus (repeat (first | with_reducible assumption | with_reducible refine rg_dr _ ?_ | with_reducible refine rg_d1 ?_ | with_reducible refine rg_al _ ?_ | (with_reducible refine rg_set ?_ ?_; focus (dsimp only; omega)) | (with_reducible apply rg_be; with_reducible assumption) | (with_reducible refine rg_bn (by with_reducible assumption) ?_ ?_; focus omega) | (with_reducible refine rg_out (by with_reducible assumption) ?_ ?_; focus omega))))) | (go_at_call 53; (with_reducible refine (C0.out _ ?_).mono ?_); (focus (repeat (first | with_reducible assumption | with_reducible refine c_dr _ ?_ | with_reducible refine c_d1 ?_ | with_reducible refine c_al _ ?_ | (with_reducible refine c_set ?_ ?_; focus (dsimp only; omega)) | (with_reducible apply c_be; with_reducible assumption)))); rintro e wC0 ⟨rfl, hbC0⟩; have hrC0 := below_reads hbC0; have hhC0 := below_holds hbC0; obtain ⟨mC0, hsC0⟩ := below_grew hbC0) | (go_at_call 53; (with_reducible refine (C1.out _ ?_).mono ?_); (focus (repeat (first | with_reducible assumption | with_reducible refine c_dr _ ?_ | with_reducible refine c_d1 ?_ | with_reducible refine c_al _ ?_ | (with_reducible refine c_set ?_ ?_; focus (dsimp only; omega)) | (with_reducible apply c_be; with_reducible assumption)))); rintro e wC1 ⟨rfl, hbC1⟩; have hrC1 := below_reads hbC1; have hhC1 := below_holds hbC1; obtain ⟨mC1, hsC1⟩ := below_grew hbC1))
  go_ret
  refine ⟨rfl, ?_⟩
  repeat (first | with_reducible assumption | with_reducible exact Below.refl _ _ | with_reducible refine Below.drew ?_ | with_reducible refine below_drewN ?_ _ | with_reducible refine bw_alloc ?_ _ | (with_reducible refine bw_set ?_ ?_ _; focus (dsimp only; omega)) | (with_reducible apply bw_behind; with_reducible assumption))

set_option maxRecDepth 100000 in
set_option maxHeartbeats 2000000 in
theorem idx_f_nn (N o : Nat) (A0 B0 : Int) (X0 : Fd) (A1 B1 : Int) (X1 : Fd) (ba : Nat) (a : Int) (k0 : ∀ W : World, W.cell? ⟨ba, 0, none⟩ = some (.int .u64 a) → Calls Tryd.prog 53 #[.agg #[.int .u64 A0, .int .u64 B0, .bool X0.e0, .bool X0.e1, .bool X0.e2, .bool X0.e3, .bool X0.e4, .bool X0.e5, .bool X0.e6, .bool X0.e7, .bool X0.e8, .bool X0.e9, .bool X0.e10, .bool X0.e11, .int .u64 X0.f, .int .u64 X0.a], .pointer (some ⟨ba, 0, none⟩)] W (Makes (.bool false) W)) (k1 : ∀ W : World, W.cell? ⟨ba, 0, none⟩ = some (.int .u64 a) → Calls Tryd.prog 53 #[.agg #[.int .u64 A1, .int .u64 B1, .bool X1.e0, .bool X1.e1, .bool X1.e2, .bool X1.e3, .bool X1.e4, .bool X1.e5, .bool X1.e6, .bool X1.e7, .bool X1.e8, .bool X1.e9, .bool X1.e10, .bool X1.e11, .int .u64 X1.f, .int .u64 X1.a], .pointer (some ⟨ba, 0, none⟩)] W (Makes (.bool false) W)) (w : World) (r0 : w.rangeAt N (o) (lineI A0 B0 X0)) (r1 : w.rangeAt N (o + 16) (lineI A1 B1 X1)) (g0 : w.cell? ⟨ba, 0, none⟩ = some (.int .u64 a)) : Calls Tryd.prog 87 #[.slice (some ⟨N, o, none⟩) 2 2, .func (.func 53) #[] #[.pointer (some ⟨ba, 0, none⟩)]] w (Makes (.int .i64 (-1)) w) := by
  have SS := cell_same
  have LB' := ltB_add
  have LS := ltB_self
  have LA' := alloc_reads
  have LH := alloc_holds
  have y0 : w.cell? ⟨N, o, none⟩ = some (.int .u64 A0) := row_of r0 0 _ rfl
  have C0 := hide k0
  have C1 := hide k1
  clear k0 k1
  have hN : N < w.heap.size := World.block_lt_of_cell? _ _ y0
  clear y0
  go_enter Tryd.func87, Tryd.ntmps87
  go_wp2
  refine wp_loop_rounds 3 ?_
  rw [rounds_succ]
  go_wp2_with (first | ((refine wpList_load_line rfl _ rfl (N) (o) rfl A0 B0 X0 ?_ ?_); (focus (repeat (first | with_reducible assumption | with_reducible refine rg_dr _ ?_ | with_reducible refine rg_d1 ?_ | with_reducible refine rg_al _ ?_ | (with_reducible refine rg_set ?_ ?_; focus (dsimp only; omega)) | (with_reducible apply rg_be; with_reducible assumption) | (with_reducible refine rg_bn (by with_reducible assumption) ?_ ?_; focus omega) | (with_reducible refine rg_out (by with_reducible assumption) ?_ ?_; focus omega))))) | ((refine wpList_load_line rfl _ rfl (N) (o + 16) rfl A1 B1 X1 ?_ ?_); (focus (repeat (first | with_reducible assumption | with_reducible refine rg_dr _ ?_ | with_reducible refine rg_d1 ?_ | with_reducible refine rg_al _ ?_ | (with_reducible refine rg_set ?_ ?_; focus (dsimp only; omega)) | (with_reducible apply rg_be; with_reducible assumption) | (with_reducible refine rg_bn (by with_reducible assumption) ?_ ?_; focus omega) | (with_reducible refine rg_out (by with_reducible assumption) ?_ ?_; focus omega))))) | (go_at_call 53; (with_reducible refine (C0.out _ ?_).mono ?_); (focus (repeat (first | with_reducible assumption | with_reducible refine c_dr _ ?_ | with_reducible refine c_d1 ?_ | with_reducible refine c_al _ ?_ | (with_reducible refine c_set ?_ ?_; focus (dsimp only; omega)) | (with_reducible apply c_be; with_reducible assumption)))); rintro e wC0 ⟨rfl, hbC0⟩; have hrC0 := below_reads hbC0; have hhC0 := below_holds hbC0; obtain ⟨mC0, hsC0⟩ := below_grew hbC0) | (go_at_call 53; (with_reducible refine (C1.out _ ?_).mono ?_); (focus (repeat (first | with_reducible assumption | with_reducible refine c_dr _ ?_ | with_reducible refine c_d1 ?_ | with_reducible refine c_al _ ?_ | (with_reducible refine c_set ?_ ?_; focus (dsimp only; omega)) | (with_reducible apply c_be; with_reducible assumption)))); rintro e wC1 ⟨rfl, hbC1⟩; have hrC1 := below_reads hbC1; have hhC1 := below_holds hbC1; obtain ⟨mC1, hsC1⟩ := below_grew hbC1))
  rw [rounds_succ]
  go_wp2_with (first | ((refine wpList_load_line rfl _ rfl (N) (o) rfl A0 B0 X0 ?_ ?_); (focus (repeat (first | with_reducible assumption | with_reducible refine rg_dr _ ?_ | with_reducible refine rg_d1 ?_ | with_reducible refine rg_al _ ?_ | (with_reducible refine rg_set ?_ ?_; focus (dsimp only; omega)) | (with_reducible apply rg_be; with_reducible assumption) | (with_reducible refine rg_bn (by with_reducible assumption) ?_ ?_; focus omega) | (with_reducible refine rg_out (by with_reducible assumption) ?_ ?_; focus omega))))) | ((refine wpList_load_line rfl _ rfl (N) (o + 16) rfl A1 B1 X1 ?_ ?_); (focus (repeat (first | with_reducible assumption | with_reducible refine rg_dr _ ?_ | with_reducible refine rg_d1 ?_ | with_reducible refine rg_al _ ?_ | (with_reducible refine rg_set ?_ ?_; focus (dsimp only; omega)) | (with_reducible apply rg_be; with_reducible assumption) | (with_reducible refine rg_bn (by with_reducible assumption) ?_ ?_; focus omega) | (with_reducible refine rg_out (by with_reducible assumption) ?_ ?_; focus omega))))) | (go_at_call 53; (with_reducible refine (C0.out _ ?_).mono ?_); (focus (repeat (first | with_reducible assumption | with_reducible refine c_dr _ ?_ | with_reducible refine c_d1 ?_ | with_reducible refine c_al _ ?_ | (with_reducible refine c_set ?_ ?_; focus (dsimp only; omega)) | (with_reducible apply c_be; with_reducible assumption)))); rintro e wC0 ⟨rfl, hbC0⟩; have hrC0 := below_reads hbC0; have hhC0 := below_holds hbC0; obtain ⟨mC0, hsC0⟩ := below_grew hbC0) | (go_at_call 53; (with_reducible refine (C1.out _ ?_).mono ?_); (focus (repeat (first | with_reducible assumption | with_reducible refine c_dr _ ?_ | with_reducible refine c_d1 ?_ | with_reducible refine c_al _ ?_ | (with_reducible refine c_set ?_ ?_; focus (dsimp only; omega)) | (with_reducible apply c_be; with_reducible assumption)))); rintro e wC1 ⟨rfl, hbC1⟩; have hrC1 := below_reads hbC1; have hhC1 := below_holds hbC1; obtain ⟨mC1, hsC1⟩ := below_grew hbC1))
  rw [rounds_succ]
  go_wp2_with (first | ((refine wpList_load_line rfl _ rfl (N) (o) rfl A0 B0 X0 ?_ ?_); (focus (repeat (first | with_reducible assumption | with_reducible refine rg_dr _ ?_ | with_reducible refine rg_d1 ?_ | with_reducible refine rg_al _ ?_ | (with_reducible refine rg_set ?_ ?_; focus (dsimp only; omega)) | (with_reducible apply rg_be; with_reducible assumption) | (with_reducible refine rg_bn (by with_reducible assumption) ?_ ?_; focus omega) | (with_reducible refine rg_out (by with_reducible assumption) ?_ ?_; focus omega))))) | ((refine wpList_load_line rfl _ rfl (N) (o + 16) rfl A1 B1 X1 ?_ ?_); (focus (repeat (first | with_reducible assumption | with_reducible refine rg_dr _ ?_ | with_reducible refine rg_d1 ?_ | with_reducible refine rg_al _ ?_ | (with_reducible refine rg_set ?_ ?_; focus (dsimp only; omega)) | (with_reducible apply rg_be; with_reducible assumption) | (with_reducible refine rg_bn (by with_reducible assumption) ?_ ?_; focus omega) | (with_reducible refine rg_out (by with_reducible assumption) ?_ ?_; focus omega))))) | (go_at_call 53; (with_reducible refine (C0.out _ ?_).mono ?_); (focus (repeat (first | with_reducible assumption | with_reducible refine c_dr _ ?_ | with_reducible refine c_d1 ?_ | with_reducible refine c_al _ ?_ | (with_reducible refine c_set ?_ ?_; focus (dsimp only; omega)) | (with_reducible apply c_be; with_reducible assumption)))); rintro e wC0 ⟨rfl, hbC0⟩; have hrC0 := below_reads hbC0; have hhC0 := below_holds hbC0; obtain ⟨mC0, hsC0⟩ := below_grew hbC0) | (go_at_call 53; (with_reducible refine (C1.out _ ?_).mono ?_); (focus (repeat (first | with_reducible assumption | with_reducible refine c_dr _ ?_ | with_reducible refine c_d1 ?_ | with_reducible refine c_al _ ?_ | (with_reducible refine c_set ?_ ?_; focus (dsimp only; omega)) | (with_reducible apply c_be; with_reducible assumption)))); rintro e wC1 ⟨rfl, hbC1⟩; have hrC1 := below_reads hbC1; have hhC1 := below_holds hbC1; obtain ⟨mC1, hsC1⟩ := below_grew hbC1))
  go_ret
  refine ⟨rfl, ?_⟩
  repeat (first | with_reducible assumption | with_reducible exact Below.refl _ _ | with_reducible refine Below.drew ?_ | with_reducible refine below_drewN ?_ _ | with_reducible refine bw_alloc ?_ _ | (with_reducible refine bw_set ?_ ?_ _; focus (dsimp only; omega)) | (with_reducible apply bw_behind; with_reducible assumption))
end Go.Proofs.YtkajndonefkegaaDoor
