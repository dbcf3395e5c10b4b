/-
  Texts laid one behind the other: Mtb2c, Mtb3c, Mtb4c.
  What slices.IndexFunc answers over at most two lines, for a closure of the buffer.
  What slices.DeleteFunc turns, of at most two lines of the buffer, for a closure of the buffer.
  What remove turns, for a closure of the buffer.
-/
import Derived.Test.YtkajndonefkegaaDoorGMtb
namespace Go.Proofs.YtkajndonefkegaaDoor
open Go.RowKit

set_option maxRecDepth 100000 in
set_option maxHeartbeats 2000000 in
theorem idx_c_e (N o : Nat)  (w : World)   : Calls Tryd.prog 87 #[.slice (some ⟨N, o, none⟩) 0 0, .func (.func 54) #[] #[]] w (Makes (.int .i64 (-1)) w) := by
  have SS := cell_same
  have LB' := ltB_add
  have LS := ltB_self
  have LA' := alloc_reads
  have LH := alloc_holds
  go_enter Tryd.func87, Tryd.ntmps87
  go_wp2
  refine wp_loop_rounds 1 ?_
  rw [rounds_succ]
  go_wp2_with fail
  go_ret
  refine ⟨rfl, ?_⟩
  repeat (first | with_reducible assumption | with_reducible exact Below.refl _ _ | with_reducible refine Below.drew ?_ | with_reducible refine below_drewN ?_ _ | with_reducible refine bw_alloc ?_ _ | (with_reducible refine bw_set ?_ ?_ _; focus (dsimp only; omega)) | (with_reducible apply bw_behind; with_reducible assumption))

set_option maxRecDepth 100000 in
set_option maxHeartbeats 2000000 in
theorem idx_c_y (N o : Nat) (A0 B0 : Int) (X0 : Fd) (k0 : ∀ W : World, Calls Tryd.prog 54 #[.agg #[.int .u64 A0, .int .u64 B0, .bool X0.e0, .bool X0.e1, .bool X0.e2, .bool X0.e3, .bool X0.e4, .bool X0.e5, .bool X0.e6, .bool X0.e7, .bool X0.e8, .bool X0.e9, .bool X0.e10, .bool X0.e11, .int .u64 X0.f, .int .u64 X0.a]] W (Makes (.bool true) W)) (w : World) (r0 : w.rangeAt N (o) (lineI A0 B0 X0))  : Calls Tryd.prog 87 #[.slice (some ⟨N, o, none⟩) 1 1, .func (.func 54) #[] #[]] w (Makes (.int .i64 (0)) w) := by
  have SS := cell_same
  have LB' := ltB_add
  have LS := ltB_self
  have LA' := alloc_reads
  have LH := alloc_holds
  have y0 : w.cell? ⟨N, o, none⟩ = some (.int .u64 A0) := row_of r0 0 _ rfl
  have C0 := hide k0
  clear k0
  have hN : N < w.heap.size := World.block_lt_of_cell? _ _ y0
  clear y0
  go_enter Tryd.func87, Tryd.ntmps87
  go_wp2
  refine wp_loop_rounds 2 ?_
  rw [rounds_succ]
  go_wp2_with (first | ((refine wpList_load_line rfl _ rfl (N) (o) rfl A0 B0 X0 ?_ ?_); (focus (repeat (first | with_reducible assumption | with_reducible refine rg_dr _ ?_ | with_reducible refine rg_d1 ?_ | with_reducible refine rg_al _ ?_ | (with_reducible refine rg_set ?_ ?_; focus (dsimp only; omega)) | (with_reducible apply rg_be; with_reducible assumption) | (with_reducible refine rg_bn (by with_reducible assumption) ?_ ?_; focus omega) | (with_reducible refine rg_out (by with_reducible assumption) ?_ ?_; focus omega))))) | (go_at_call 54; (with_reducible refine (C0.out _).mono ?_); rintro e wC0 ⟨rfl, hbC0⟩; have hrC0 := below_reads hbC0; have hhC0 := below_holds hbC0; obtain ⟨mC0, hsC0⟩ := below_grew hbC0))
  go_ret
  refine ⟨rfl, ?_⟩
  repeat (first | with_reducible assumption | with_reducible exact Below.refl _ _ | with_reducible refine Below.drew ?_ | with_reducible refine below_drewN ?_ _ | with_reducible refine bw_alloc ?_ _ | (with_reducible refine bw_set ?_ ?_ _; focus (dsimp only; omega)) | (with_reducible apply bw_behind; with_reducible assumption))

set_option maxRecDepth 100000 in
set_option maxHeartbeats 2000000 in
theorem idx_c_yx (N o : Nat) (A0 B0 : Int) (X0 : Fd) (k0 : ∀ W : World, Calls Tryd.prog 54 #[.agg #[.int .u64 A0, .int .u64 B0, .bool X0.e0, .bool X0.e1, .bool X0.e2, .bool X0.e3, .bool X0.e4, .bool X0.e5, .bool X0.e6, .bool X0.e7, .bool X0.e8, .bool X0.e9, .bool X0.e10, .bool X0.e11, .int .u64 X0.f, .int .u64 X0.a]] W (Makes (.bool true) W)) (w : World) (r0 : w.rangeAt N (o) (lineI A0 B0 X0))  : Calls Tryd.prog 87 #[.slice (some ⟨N, o, none⟩) 2 2, .func (.func 54) #[] #[]] w (Makes (.int .i64 (0)) w) := by
  have SS := cell_same
  have LB' := ltB_add
  have LS := ltB_self
  have LA' := alloc_reads
  have LH := alloc_holds
  have y0 : w.cell? ⟨N, o, none⟩ = some (.int .u64 A0) := row_of r0 0 _ rfl
  have C0 := hide k0
  clear k0
  have hN : N < w.heap.size := World.block_lt_of_cell? _ _ y0
  clear y0
  go_enter Tryd.func87, Tryd.ntmps87
  go_wp2
  refine wp_loop_rounds 2 ?_
  rw [rounds_succ]
  go_wp2_with (first | ((refine wpList_load_line rfl _ rfl (N) (o) rfl A0 B0 X0 ?_ ?_); (focus (repeat (first | with_reducible assumption | with_reducible refine rg_dr _ ?_ | with_reducible refine rg_d1 ?_ | with_reducible refine rg_al _ ?_ | (with_reducible refine rg_set ?_ ?_; focus (dsimp only; omega)) | (with_reducible apply rg_be; with_reducible assumption) | (with_reducible refine rg_bn (by with_reducible assumption) ?_ ?_; focus omega) | (with_reducible refine rg_out (by with_reducible assumption) ?_ ?_; focus omega))))) | (go_at_call 54; (with_reducible refine (C0.out _).mono ?_); rintro e wC0 ⟨rfl, hbC0⟩; have hrC0 := below_reads hbC0; have hhC0 := below_holds hbC0; obtain ⟨mC0, hsC0⟩ := below_grew hbC0))
  go_ret
  refine ⟨rfl, ?_⟩
  repeat (first | with_reducible assumption | with_reducible exact Below.refl _ _ | with_reducible refine Below.drew ?_ | with_reducible refine below_drewN ?_ _ | with_reducible refine bw_alloc ?_ _ | (with_reducible refine bw_set ?_ ?_ _; focus (dsimp only; omega)) | (with_reducible apply bw_behind; with_reducible assumption))
end Go.Proofs.YtkajndonefkegaaDoor

namespace Go.Proofs.YtkajndonefkegaaDoor
open Go.RowKit

set_option maxRecDepth 100000 in
set_option maxHeartbeats 4000000 in
theorem del_c_e (N o k : Nat)  (w : World) (R : Nat → Ln) (F : Nat → Nat) (_hk : k + 2 ≤ 8) (_ho : 16 * k = o) (hT : TlbAt w N R F)   :
    Calls Tryd.prog 81 #[.slice (some ⟨N, o, none⟩) 0 0, .func (.func 54) #[] #[]] w (fun e w' => e = .returned (.slice (some ⟨N, o, none⟩) 0 0) ∧ TlbAt w' N (R) F ∧ Out1 N w w') := by
  have SS := cell_same
  have LB' := ltB_add
  have LS := ltB_self
  have LA' := alloc_reads
  have LH := alloc_holds
  have hN : N < w.heap.size := hT.here
  have I := hide (fun W => idx_c_e N o    W)
  have HT := hide hT
  clear hT 
  go_enter Tryd.func81, Tryd.ntmps81
  go_wp2_with (first | (go_at_call 87; (with_reducible refine (I.out _).mono ?_); rintro e wi ⟨rfl, hbi⟩; have hri := below_reads hbi; have hhi := below_holds hbi; obtain ⟨mi, hsi⟩ := below_grew hbi; have hTi := hide (ta_be hbi HT.out)))
  refine bodyPost_ret (v := .slice (some ⟨N, o, none⟩) 0 0) (by simp (maxDischargeDepth := 4) [results, Tryd.results81, go_sem, *]) rfl ?_
  have hTi := hTi.out
  refine ⟨rfl, ?_, ?_⟩
  · repeat (first | with_reducible assumption | with_reducible refine ta_dr _ ?_ | with_reducible refine ta_d1 ?_ | with_reducible refine ta_al _ ?_ | (with_reducible refine ta_set ?_ ?_; focus (dsimp only; omega)) | (with_reducible apply ta_be; with_reducible assumption) | (with_reducible refine ta_bn (by with_reducible assumption) ?_ ?_; focus omega))
  · repeat (first | with_reducible assumption | with_reducible exact Out1.refl _ _ | with_reducible refine u_dr _ ?_ | with_reducible refine u_d1 ?_ | with_reducible refine u_al _ ?_ | (with_reducible refine u_new _ ?_ ?_; focus (dsimp only; omega)) | (with_reducible refine Out1.trans ?_ (by with_reducible assumption)) | (with_reducible apply u_bh; with_reducible assumption) | (with_reducible refine u_be (by with_reducible assumption) ?_ ?_; focus omega))

set_option maxRecDepth 100000 in
set_option maxHeartbeats 4000000 in
theorem del_c_y (N o k : Nat) (A0 B0 : Int) (X0 : Fd) (k0 : ∀ W : World, Calls Tryd.prog 54 #[.agg #[.int .u64 A0, .int .u64 B0, .bool X0.e0, .bool X0.e1, .bool X0.e2, .bool X0.e3, .bool X0.e4, .bool X0.e5, .bool X0.e6, .bool X0.e7, .bool X0.e8, .bool X0.e9, .bool X0.e10, .bool X0.e11, .int .u64 X0.f, .int .u64 X0.a]] W (Makes (.bool true) W)) (w : World) (R : Nat → Ln) (F : Nat → Nat) (_hk : k + 2 ≤ 8) (_ho : 16 * k = o) (hT : TlbAt w N R F) (e0 : R (k) = (A0, B0, X0))  :
    Calls Tryd.prog 81 #[.slice (some ⟨N, o, none⟩) 1 1, .func (.func 54) #[] #[]] w (fun e w' => e = .returned (.slice (some ⟨N, o, none⟩) 0 1) ∧ TlbAt w' N (zap R k 1) F ∧ Out1 N w w') := by
  have SS := cell_same
  have LB' := ltB_add
  have LS := ltB_self
  have LA' := alloc_reads
  have LH := alloc_holds
  have hN : N < w.heap.size := hT.here
  have r0 : w.rangeAt N (o) (lineI A0 B0 X0) := by
    have := hT.line (k) (by omega)
    rw [e0] at this
    rw [show o = 16 * (k) by omega]
    exact this
  have I := hide (fun W h0 => idx_c_y N o A0 B0 X0  k0 W h0)
  have C0 := hide k0
  have HT := hide hT
  clear hT k0 e0
  go_enter Tryd.func81, Tryd.ntmps81
  go_wp2_with (first | ((refine wpList_clear_lines rfl _ rfl N _ k 1 _ rfl (by omega) (by omega) (by omega) hTi.out ?_); intro wz hTz huz hsz) | (go_at_call 87; (with_reducible refine (I.out _ ?_).mono ?_); (focus (repeat (first | with_reducible assumption | with_reducible refine rg_dr _ ?_ | with_reducible refine rg_d1 ?_ | with_reducible refine rg_al _ ?_ | (with_reducible refine rg_set ?_ ?_; focus (dsimp only; omega)) | (with_reducible apply rg_be; with_reducible assumption) | (with_reducible refine rg_bn (by with_reducible assumption) ?_ ?_; focus omega) | (with_reducible refine rg_out (by with_reducible assumption) ?_ ?_; focus omega)))); rintro e wi ⟨rfl, hbi⟩; have hri := below_reads hbi; have hhi := below_holds hbi; obtain ⟨mi, hsi⟩ := below_grew hbi; have hTi := hide (ta_be hbi HT.out)))
  refine wp_loop_rounds 1 ?_
  rw [rounds_succ]
  go_wp2_with (first | ((refine wpList_clear_lines rfl _ rfl N _ k 1 _ rfl (by omega) (by omega) (by omega) hTi.out ?_); intro wz hTz huz hsz) | (go_at_call 87; (with_reducible refine (I.out _ ?_).mono ?_); (focus (repeat (first | with_reducible assumption | with_reducible refine rg_dr _ ?_ | with_reducible refine rg_d1 ?_ | with_reducible refine rg_al _ ?_ | (with_reducible refine rg_set ?_ ?_; focus (dsimp only; omega)) | (with_reducible apply rg_be; with_reducible assumption) | (with_reducible refine rg_bn (by with_reducible assumption) ?_ ?_; focus omega) | (with_reducible refine rg_out (by with_reducible assumption) ?_ ?_; focus omega)))); rintro e wi ⟨rfl, hbi⟩; have hri := below_reads hbi; have hhi := below_holds hbi; obtain ⟨mi, hsi⟩ := below_grew hbi; have hTi := hide (ta_be hbi HT.out)))
  refine bodyPost_ret (v := .slice (some ⟨N, o, none⟩) 0 1) (by simp (maxDischargeDepth := 4) [results, Tryd.results81, go_sem, *]) rfl ?_
  have hTi := hTi.out
  refine ⟨rfl, ?_, ?_⟩
  · repeat (first | with_reducible assumption | with_reducible refine ta_dr _ ?_ | with_reducible refine ta_d1 ?_ | with_reducible refine ta_al _ ?_ | (with_reducible refine ta_set ?_ ?_; focus (dsimp only; omega)) | (with_reducible apply ta_be; with_reducible assumption) | (with_reducible refine ta_bn (by with_reducible assumption) ?_ ?_; focus omega))
  · repeat (first | with_reducible assumption | with_reducible exact Out1.refl _ _ | with_reducible refine u_dr _ ?_ | with_reducible refine u_d1 ?_ | with_reducible refine u_al _ ?_ | (with_reducible refine u_new _ ?_ ?_; focus (dsimp only; omega)) | (with_reducible refine Out1.trans ?_ (by with_reducible assumption)) | (with_reducible apply u_bh; with_reducible assumption) | (with_reducible refine u_be (by with_reducible assumption) ?_ ?_; focus omega))

set_option maxRecDepth 100000 in
set_option maxHeartbeats 4000000 in
theorem del_c_yy (N o k : Nat) (A0 B0 : Int) (X0 : Fd) (A1 B1 : Int) (X1 : Fd) (k0 : ∀ W : World, Calls Tryd.prog 54 #[.agg #[.int .u64 A0, .int .u64 B0, .bool X0.e0, .bool X0.e1, .bool X0.e2, .bool X0.e3, .bool X0.e4, .bool X0.e5, .bool X0.e6, .bool X0.e7, .bool X0.e8, .bool X0.e9, .bool X0.e10, .bool X0.e11, .int .u64 X0.f, .int .u64 X0.a]] W (Makes (.bool true) W)) (k1 : ∀ W : World, Calls Tryd.prog 54 #[.agg #[.int .u64 A1, .int .u64 B1, .bool X1.e0, .bool X1.e1, .bool X1.e2, .bool X1.e3, .bool X1.e4, .bool X1.e5, .bool X1.e6, .bool X1.e7, .bool X1.e8, .bool X1.e9, .bool X1.e10, .bool X1.e11, .int .u64 X1.f, .int .u64 X1.a]] W (Makes (.bool true) W)) (w : World) (R : Nat → Ln) (F : Nat → Nat) (_hk : k + 2 ≤ 8) (_ho : 16 * k = o) (hT : TlbAt w N R F) (e0 : R (k) = (A0, B0, X0)) (e1 : R (k + 1) = (A1, B1, X1))  :
    Calls Tryd.prog 81 #[.slice (some ⟨N, o, none⟩) 2 2, .func (.func 54) #[] #[]] w (fun e w' => e = .returned (.slice (some ⟨N, o, none⟩) 0 2) ∧ TlbAt w' N (zap R k 2) F ∧ Out1 N w w') := by
  have SS := cell_same
  have LB' := ltB_add
  have LS := ltB_self
  have LA' := alloc_reads
  have LH := alloc_holds
  have hN : N < w.heap.size := hT.here
  have r0 : w.rangeAt N (o) (lineI A0 B0 X0) := by
    have := hT.line (k) (by omega)
    rw [e0] at this
    rw [show o = 16 * (k) by omega]
    exact this
  have r1 : w.rangeAt N (o + 16) (lineI A1 B1 X1) := by
    have := hT.line (k + 1) (by omega)
    rw [e1] at this
    rw [show o + 16 = 16 * (k + 1) by omega]
    exact this
  have I := hide (fun W h0 => idx_c_yx N o A0 B0 X0  k0 W h0)
  have C0 := hide k0
  have C1 := hide k1
  have HT := hide hT
  clear hT k0 e0 k1 e1
  go_enter Tryd.func81, Tryd.ntmps81
  go_wp2_with (first | ((refine wpList_clear_lines rfl _ rfl N _ k 2 _ rfl (by omega) (by omega) (by omega) hTc ?_); intro wz hTz huz hsz) | ((refine wpList_load_line rfl _ rfl (N) (o + 16) rfl A1 B1 X1 ?_ ?_); (focus (repeat (first | with_reducible assumption | with_reducible refine rg_dr _ ?_ | with_reducible refine rg_d1 ?_ | with_reducible refine rg_al _ ?_ | (with_reducible refine rg_set ?_ ?_; focus (dsimp only; omega)) | (with_reducible apply rg_be; with_reducible assumption) | (with_reducible refine rg_bn (by with_reducible assumption) ?_ ?_; focus omega) | (with_reducible refine rg_out (by with_reducible assumption) ?_ ?_; focus omega))))) | ((refine wpList_store_box rfl _ _ _ rfl _ (A1) (B1) (X1) rfl rfl infoL ?_ ?_); (focus (repeat (first | with_reducible assumption | with_reducible refine o_dr _ ?_ | with_reducible refine o_d1 ?_ | with_reducible refine o_set ?_ | (with_reducible refine o_new ?_ ?_; (focus (simp)); (focus (simp))) | (with_reducible refine o_new ?_ ?_; (focus (simp [*]; done)); (focus (simp))) | (with_reducible refine o_new ?_ ?_; (focus (simp [*]; omega)); (focus (simp))) | with_reducible refine o_al _ ?_ | (with_reducible apply o_be; with_reducible assumption)))); intro ws hrs hbs hos hss) | ((refine wpList_load_line rfl _ rfl (_) (0) rfl A1 B1 X1 ?_ ?_); (focus (repeat (first | with_reducible assumption | with_reducible refine rg_dr _ ?_ | with_reducible refine rg_d1 ?_ | with_reducible refine rg_al _ ?_ | (with_reducible refine rg_set ?_ ?_; focus (dsimp only; omega)) | (with_reducible apply rg_be; with_reducible assumption) | (with_reducible refine rg_bn (by with_reducible assumption) ?_ ?_; focus omega) | (with_reducible refine rg_out (by with_reducible assumption) ?_ ?_; focus omega))))) | (go_at_call 87; (with_reducible refine (I.out _ ?_).mono ?_); (focus (repeat (first | with_reducible assumption | with_reducible refine rg_dr _ ?_ | with_reducible refine rg_d1 ?_ | with_reducible refine rg_al _ ?_ | (with_reducible refine rg_set ?_ ?_; focus (dsimp only; omega)) | (with_reducible apply rg_be; with_reducible assumption) | (with_reducible refine rg_bn (by with_reducible assumption) ?_ ?_; focus omega) | (with_reducible refine rg_out (by with_reducible assumption) ?_ ?_; focus omega)))); rintro e wi ⟨rfl, hbi⟩; have hri := below_reads hbi; have hhi := below_holds hbi; obtain ⟨mi, hsi⟩ := below_grew hbi; have hTi := hide (ta_be hbi HT.out)) | (go_at_call 54; (with_reducible refine (C1.out _).mono ?_); rintro e wc ⟨rfl, hbc⟩; have hrc := below_reads hbc; have hhc := below_holds hbc; obtain ⟨mc, hsc⟩ := below_grew hbc; have hTc := (show TlbAt wc N R F from (by have hTi := hTi.out; repeat (first | with_reducible assumption | with_reducible refine ta_dr _ ?_ | with_reducible refine ta_d1 ?_ | with_reducible refine ta_al _ ?_ | (with_reducible refine ta_set ?_ ?_; focus (dsimp only; omega)) | (with_reducible apply ta_be; with_reducible assumption) | (with_reducible refine ta_bn (by with_reducible assumption) ?_ ?_; focus omega))))))
  refine wp_loop_rounds 2 ?_
  rw [rounds_succ]
  go_wp2_with (first | ((refine wpList_clear_lines rfl _ rfl N _ k 2 _ rfl (by omega) (by omega) (by omega) hTc ?_); intro wz hTz huz hsz) | ((refine wpList_load_line rfl _ rfl (N) (o + 16) rfl A1 B1 X1 ?_ ?_); (focus (repeat (first | with_reducible assumption | with_reducible refine rg_dr _ ?_ | with_reducible refine rg_d1 ?_ | with_reducible refine rg_al _ ?_ | (with_reducible refine rg_set ?_ ?_; focus (dsimp only; omega)) | (with_reducible apply rg_be; with_reducible assumption) | (with_reducible refine rg_bn (by with_reducible assumption) ?_ ?_; focus omega) | (with_reducible refine rg_out (by with_reducible assumption) ?_ ?_; focus omega))))) | ((refine wpList_store_box rfl _ _ _ rfl _ (A1) (B1) (X1) rfl rfl infoL ?_ ?_); (focus (repeat (first | with_reducible assumption | with_reducible refine o_dr _ ?_ | with_reducible refine o_d1 ?_ | with_reducible refine o_set ?_ | (with_reducible refine o_new ?_ ?_; (focus (simp)); (focus (simp))) | (with_reducible refine o_new ?_ ?_; (focus (simp [*]; done)); (focus (simp))) | (with_reducible refine o_new ?_ ?_; (focus (simp [*]; omega)); (focus (simp))) | with_reducible refine o_al _ ?_ | (with_reducible apply o_be; with_reducible assumption)))); intro ws hrs hbs hos hss) | ((refine wpList_load_line rfl _ rfl (_) (0) rfl A1 B1 X1 ?_ ?_); (focus (repeat (first | with_reducible assumption | with_reducible refine rg_dr _ ?_ | with_reducible refine rg_d1 ?_ | with_reducible refine rg_al _ ?_ | (with_reducible refine rg_set ?_ ?_; focus (dsimp only; omega)) | (with_reducible apply rg_be; with_reducible assumption) | (with_reducible refine rg_bn (by with_reducible assumption) ?_ ?_; focus omega) | (with_reducible refine rg_out (by with_reducible assumption) ?_ ?_; focus omega))))) | (go_at_call 87; (with_reducible refine (I.out _ ?_).mono ?_); (focus (repeat (first | with_reducible assumption | with_reducible refine rg_dr _ ?_ | with_reducible refine rg_d1 ?_ | with_reducible refine rg_al _ ?_ | (with_reducible refine rg_set ?_ ?_; focus (dsimp only; omega)) | (with_reducible apply rg_be; with_reducible assumption) | (with_reducible refine rg_bn (by with_reducible assumption) ?_ ?_; focus omega) | (with_reducible refine rg_out (by with_reducible assumption) ?_ ?_; focus omega)))); rintro e wi ⟨rfl, hbi⟩; have hri := below_reads hbi; have hhi := below_holds hbi; obtain ⟨mi, hsi⟩ := below_grew hbi; have hTi := hide (ta_be hbi HT.out)) | (go_at_call 54; (with_reducible refine (C1.out _).mono ?_); rintro e wc ⟨rfl, hbc⟩; have hrc := below_reads hbc; have hhc := below_holds hbc; obtain ⟨mc, hsc⟩ := below_grew hbc; have hTc := (show TlbAt wc N R F from (by have hTi := hTi.out; repeat (first | with_reducible assumption | with_reducible refine ta_dr _ ?_ | with_reducible refine ta_d1 ?_ | with_reducible refine ta_al _ ?_ | (with_reducible refine ta_set ?_ ?_; focus (dsimp only; omega)) | (with_reducible apply ta_be; with_reducible assumption) | (with_reducible refine ta_bn (by with_reducible assumption) ?_ ?_; focus omega))))))
  rw [rounds_succ]
  go_wp2_with (first | ((refine wpList_clear_lines rfl _ rfl N _ k 2 _ rfl (by omega) (by omega) (by omega) hTc ?_); intro wz hTz huz hsz) | ((refine wpList_load_line rfl _ rfl (N) (o + 16) rfl A1 B1 X1 ?_ ?_); (focus (repeat (first | with_reducible assumption | with_reducible refine rg_dr _ ?_ | with_reducible refine rg_d1 ?_ | with_reducible refine rg_al _ ?_ | (with_reducible refine rg_set ?_ ?_; focus (dsimp only; omega)) | (with_reducible apply rg_be; with_reducible assumption) | (with_reducible refine rg_bn (by with_reducible assumption) ?_ ?_; focus omega) | (with_reducible refine rg_out (by with_reducible assumption) ?_ ?_; focus omega))))) | ((refine wpList_store_box rfl _ _ _ rfl _ (A1) (B1) (X1) rfl rfl infoL ?_ ?_); (focus (repeat (first | with_reducible assumption | with_reducible refine o_dr _ ?_ | with_reducible refine o_d1 ?_ | with_reducible refine o_set ?_ | (with_reducible refine o_new ?_ ?_; (focus (simp)); (focus (simp))) | (with_reducible refine o_new ?_ ?_; (focus (simp [*]; done)); (focus (simp))) | (with_reducible refine o_new ?_ ?_; (focus (simp [*]; omega)); (focus (simp))) | with_reducible refine o_al _ ?_ | (with_reducible apply o_be; with_reducible assumption)))); intro ws hrs hbs hos hss) | ((refine wpList_load_line rfl _ rfl (_) (0) rfl A1 B1 X1 ?_ ?_); (focus (repeat (first | with_reducible assumption | with_reducible refine rg_dr _ ?_ | with_reducible refine rg_d1 ?_ | with_reducible refine rg_al _ ?_ | (with_reducible refine rg_set ?_ ?_; focus (dsimp only; omega)) | (with_reducible apply rg_be; with_reducible assumption) | (with_reducible refine rg_bn (by with_reducible assumption) ?_ ?_; focus omega) | (with_reducible refine rg_out (by with_reducible assumption) ?_ ?_; focus omega))))) | (go_at_call 87; (with_reducible refine (I.out _ ?_).mono ?_); (focus (repeat (first | with_reducible assumption | with_reducible refine rg_dr _ ?_ | with_reducible refine rg_d1 ?_ | with_reducible refine rg_al _ ?_ | (with_reducible refine rg_set ?_ ?_; focus (dsimp only; omega)) | (with_reducible apply rg_be; with_reducible assumption) | (with_reducible refine rg_bn (by with_reducible assumption) ?_ ?_; focus omega) | (with_reducible refine rg_out (by with_reducible assumption) ?_ ?_; focus omega)))); rintro e wi ⟨rfl, hbi⟩; have hri := below_reads hbi; have hhi := below_holds hbi; obtain ⟨mi, hsi⟩ := below_grew hbi; have hTi := hide (ta_be hbi HT.out)) | (go_at_call 54; (with_reducible refine (C1.out _).mono ?_); rintro e wc ⟨rfl, hbc⟩; have hrc := below_reads hbc; have hhc := below_holds hbc; obtain ⟨mc, hsc⟩ := below_grew hbc; have hTc := (show TlbAt wc N R F from (by have hTi := hTi.out; repeat (first | with_reducible assumption | with_reducible refine ta_dr _ ?_ | with_reducible refine ta_d1 ?_ | with_reducible refine ta_al _ ?_ | (with_reducible refine ta_set ?_ ?_; focus (dsimp only; omega)) | (with_reducible apply ta_be; with_reducible assumption) | (with_reducible refine ta_bn (by with_reducible assumption) ?_ ?_; focus omega))))))
  refine bodyPost_ret (v := .slice (some ⟨N, o, none⟩) 0 2) (by simp (maxDischargeDepth := 4) [results, Tryd.results81, go_sem, *]) rfl ?_
  have hTi := hTi.out
  refine ⟨rfl, ?_, ?_⟩
  · repeat (first | with_reducible assumption | with_reducible refine ta_dr _ ?_ | with_reducible refine ta_d1 ?_ | with_reducible refine ta_al _ ?_ | (with_reducible refine ta_set ?_ ?_; focus (dsimp only; omega)) | (with_reducible apply ta_be; with_reducible assumption) | (with_reducible refine ta_bn (by with_reducible assumption) ?_ ?_; focus omega))
  · repeat (first | with_reducible assumption | with_reducible exact Out1.refl _ _ | with_reducible refine u_dr _ ?_ | with_reducible refine u_d1 ?_ | with_reducible refine u_al _ ?_ | (with_reducible refine u_new _ ?_ ?_; focus (dsimp only; omega)) | (with_reducible refine Out1.trans ?_ (by with_reducible assumption)) | (with_reducible apply u_bh; with_reducible assumption) | (with_reducible refine u_be (by with_reducible assumption) ?_ ?_; focus omega))
end Go.Proofs.YtkajndonefkegaaDoor

namespace Go.Proofs.YtkajndonefkegaaDoor
open Go.RowKit


set_option maxRecDepth 100000 in
set_option maxHeartbeats 8000000 in
/-- DeleteFunc over the lines of a set. -/
theorem del_any_c (g : Ln → Bool) (hg : ∀ l, g l = true) (KC : ∀ (l : Ln) (W : World), Calls Tryd.prog 54 #[.agg #[.int .u64 l.1, .int .u64 l.2.1, .bool l.2.2.e0, .bool l.2.2.e1, .bool l.2.2.e2, .bool l.2.2.e3, .bool l.2.2.e4, .bool l.2.2.e5, .bool l.2.2.e6, .bool l.2.2.e7, .bool l.2.2.e8, .bool l.2.2.e9, .bool l.2.2.e10, .bool l.2.2.e11, .int .u64 l.2.2.f, .int .u64 l.2.2.a]] W (Makes (.bool (g l)) W)) (N q : Nat) (hq : q < 4) (L : List Ln) (hL : L.length ≤ 2) (w : World) (R : Nat → Ln) (F : Nat → Nat) (hR : ∀ j l, L[j]? = some l → R (2 * q + j) = l) (hT : TlbAt w N R F)  :
    Calls Tryd.prog 81 #[.slice (some ⟨N, q * 32, none⟩) L.length L.length, .func (.func 54) #[] #[]] w (fun e w' => ∃ R', e = .returned (.slice (some ⟨N, q * 32, none⟩) (L.filter (fun l => !g l)).length L.length) ∧ TlbAt w' N R' F ∧ Out1 N w w' ∧ (∀ k, k ≠ 2 * q → k ≠ 2 * q + 1 → R' k = R k) ∧ ∀ j l, (L.filter (fun l => !g l))[j]? = some l → R' (2 * q + j) = l) := by
  have hk : 2 * q + 2 ≤ 8 := by omega
  have ho : 16 * (2 * q) = q * 32 := by omega
  match L, hL, hR with
  | [], _, hR =>
    refine (del_c_e N (q * 32) (2 * q)  w R F hk ho hT).mono ?_
    rintro e w' ⟨rfl, h1, h2⟩
    exact ⟨R, rfl, h1, h2, fun _ _ _ => rfl, fun j l hl => by simp at hl⟩
  | [x], _, hR =>
    have ex : g x = true := hg x
    rw [show List.filter (fun l => !g l) [x] = [] by simp [ex]]
    refine (del_c_y N (q * 32) (2 * q) x.1 x.2.1 x.2.2  (fun W  => by have := KC x W ; rw [ex] at this; exact this) w R F hk ho hT (hR 0 x rfl) ).mono ?_
    rintro e w' ⟨rfl, h1, h2⟩
    refine ⟨zap R (2 * q) 1, rfl, h1, h2, fun k hk1 hk2 => ?_, fun j l hl => ?_⟩
    · unfold zap
      rw [if_neg (by omega)]
    · simp at hl
  | [x, y], _, hR =>
    have ex : g x = true := hg x
    have ey : g y = true := hg y
    rw [show List.filter (fun l => !g l) [x, y] = [] by simp [ex, ey]]
    refine (del_c_yy N (q * 32) (2 * q) x.1 x.2.1 x.2.2 y.1 y.2.1 y.2.2  (fun W  => by have := KC x W ; rw [ex] at this; exact this) (fun W  => by have := KC y W ; rw [ey] at this; exact this) w R F hk ho hT (hR 0 x rfl) (hR 1 y rfl) ).mono ?_
    rintro e w' ⟨rfl, h1, h2⟩
    refine ⟨zap R (2 * q) 2, rfl, h1, h2, fun k hk1 hk2 => ?_, fun j l hl => ?_⟩
    · unfold zap
      rw [if_neg (by omega)]
    · simp at hl
  | _ :: _ :: _ :: _, hL, _ =>
    simp only [List.length_cons] at hL
    omega

set_option maxRecDepth 100000 in
set_option maxHeartbeats 8000000 in
theorem rem_any_c (g : Ln → Bool) (hg : ∀ l, g l = true) (KC : ∀ (l : Ln) (W : World), Calls Tryd.prog 54 #[.agg #[.int .u64 l.1, .int .u64 l.2.1, .bool l.2.2.e0, .bool l.2.2.e1, .bool l.2.2.e2, .bool l.2.2.e3, .bool l.2.2.e4, .bool l.2.2.e5, .bool l.2.2.e6, .bool l.2.2.e7, .bool l.2.2.e8, .bool l.2.2.e9, .bool l.2.2.e10, .bool l.2.2.e11, .int .u64 l.2.2.f, .int .u64 l.2.2.a]] W (Makes (.bool (g l)) W)) (N : Nat) (M : Nat → List Ln) (w : World) (hM : TlbM w N M)  :
    Calls Tryd.prog 50 #[.pointer (some ⟨N, 0, none⟩), .func (.func 54) #[] #[]] w (fun e w' => e = .returned (.tuple #[]) ∧ TlbM w' N (fun q => (M q).filter (fun l => !g l)) ∧ Out1 N w w') := by
  have SS := cell_same
  have LB' := ltB_add
  have LS := ltB_self
  have LA' := alloc_reads
  have LH := alloc_holds
  have HD := hide (fun q hq L hL W R F hR hT  => del_any_c g hg KC N q hq L hL W R F hR hT )
  have HF := hide (fun q n hq hn W hc => of_let N q n hn hq W hc)
  have HM := hide hM
  clear hM KC
  obtain ⟨M2, hM2⟩ : ∃ M2 : Nat → List Ln, (fun q => (M q).filter (fun l => !g l)) = M2 := ⟨_, rfl⟩
  rw [hM2]
  have hm2 : ∀ q, (M q).filter (fun l => !g l) = M2 q := fun q => congrFun hM2 q
  have HG := hide hm2
  clear hM2 hm2
  go_enter Tryd.func50, Tryd.ntmps50
  go_wp2
  go_loopw [7] (fun i wr => ∃ q : Nat, q ≤ 4 ∧ i = .int .u64 (q : Int) ∧ TlbM wr N (upTo M M2 q) ∧ Out1 N w wr) (fun i _ => 4 - (intOf i).toNat)
  case atStart =>
    refine ⟨0, by omega, rfl, ?_, Out1.refl _ _⟩
    have := HM.out
    rw [show upTo M M2 0 = M from funext fun q => if_neg (by omega)]
    exact this
  case round =>
    obtain ⟨q, hq, rfl, hT, hU⟩ := hrel
    by_cases hlt : q < 4
    · obtain ⟨R, hA, hB⟩ := hT
      have hL : upTo M M2 q q = M q := if_neg (by omega)
      have hB0 := hB q hlt
      rw [hL] at hB0
      have hfill := hA.fill q hlt
      simp only [hL] at hfill
      have D := fun W hT => HD.out q hlt (M q) hB0.1 W R (fun r => (upTo M M2 q r).length) hB0.2 hT
      have O := fun W hc => HF.out q (M q).length hlt hB0.1 W hc
      have hl2 : ((M q).filter (fun l => !g l)) = M2 q := HG.out q
      simp only [hl2] at D
      obtain ⟨n, hn⟩ : ∃ n, (M q).length = n := ⟨_, rfl⟩
      obtain ⟨m, hm⟩ : ∃ m, (M2 q).length = m := ⟨_, rfl⟩
      rw [hn] at D O hfill
      rw [hm] at D
      have DD := hide D
      have OO := hide O
      have HA := hide hA
      have HB := hide hB
      have HN := hide hn
      have HMM := hide hm
      have HL := hide hL
      clear D O hA hB hB0 hl2 hn hm hL
      have h1 : ¬ ((4 : Int) ≤ (q : Int)) := by omega
      have h2 : (q : Int) < 4 := by omega
      have h3 : (0 : Int) ≤ (q : Int) := by omega
      go_wp2_with fail
      go_region_with (first | (go_at_call 55; (with_reducible refine (OO.out _ ?_).mono ?_); (focus (repeat (first | with_reducible assumption | with_reducible refine c_dr _ ?_ | with_reducible refine c_d1 ?_ | with_reducible refine c_al _ ?_ | (with_reducible refine c_set ?_ ?_; focus (dsimp only; omega)) | (with_reducible apply c_be; with_reducible assumption) | (with_reducible refine c_bn (by with_reducible assumption) ?_ ?_; focus (dsimp only; omega)) | (with_reducible refine Out1.reads (by with_reducible assumption) ?_ ?_; focus (dsimp only; omega))))); rintro e w' ⟨rfl, n1, rfl⟩) | (go_at_call 81; (with_reducible refine (DD.out _ ?_).mono ?_); (focus (have hA := HA.out; repeat (first | with_reducible assumption | with_reducible refine ta_dr _ ?_ | with_reducible refine ta_d1 ?_ | with_reducible refine ta_al _ ?_ | (with_reducible refine ta_set ?_ ?_; focus (dsimp only; omega)) | (with_reducible apply ta_be; with_reducible assumption) | (with_reducible refine ta_bn (by with_reducible assumption) ?_ ?_; focus omega)))); rintro e wd ⟨R2, rfl, hTd, hUd, hRd, hRe⟩; have hTd2 := hide hTd; have hRe2 := hide hRe; have hRd2 := hide hRd; have hcd := hTd.fill q hlt; have hfd : wd.frozen? ⟨N, 128 + q, none⟩ = false := (hTd.part (128 + q) 1 (by omega) 0 (by omega)).2; clear hTd hRe hRd))
      all_goals go_wp2_with fail
      go_roundw
      case rel =>
        refine ⟨q + 1, by omega, by go_num, ⟨R2, ?_, fun r hr => ?_⟩, ?_⟩
        · rw [← updL_upTo M M2 q m HMM.out]
          have hX := ta_fill m rfl hlt rfl hTd2.out
          repeat (first | with_reducible assumption | with_reducible refine ta_dr _ ?_ | with_reducible refine ta_d1 ?_ | with_reducible refine ta_al _ ?_ | (with_reducible refine ta_set ?_ ?_; focus (dsimp only; omega)) | (with_reducible apply ta_be; with_reducible assumption) | (with_reducible refine ta_bn (by with_reducible assumption) ?_ ?_; focus omega))
        · have hB := HB.out r hr
          by_cases e : r = q
          · subst e
            rw [show upTo M M2 (r + 1) r = M2 r from if_pos (by omega)]
            refine ⟨?_, hRe2.out⟩
            rw [← HG.out r]
            have h1 := List.length_filter_le (fun l => !g l) (M r)
            have h2 := hB.1
            rw [HL.out] at h2
            omega
          · have e2 : upTo M M2 (q + 1) r = upTo M M2 q r := by
              unfold upTo
              by_cases h : r < q
              · rw [if_pos h, if_pos (by omega)]
              · rw [if_neg h, if_neg (by omega)]
            rw [e2]
            refine ⟨hB.1, fun j l hl => ?_⟩
            have hj : j < (upTo M M2 q r).length := (List.getElem?_eq_some_iff.1 hl).1
            have := hB.1
            rw [hRd2.out (2 * r + j) (by omega) (by omega)]
            exact hB.2 j l hl
        · repeat (first | with_reducible assumption | with_reducible exact Out1.refl _ _ | with_reducible refine u_dr _ ?_ | with_reducible refine u_d1 ?_ | with_reducible refine u_al _ ?_ | (with_reducible refine u_in _ ?_ ?_; focus omega) | (with_reducible refine u_new _ ?_ ?_; focus (dsimp only; omega)) | (with_reducible refine Out1.trans ?_ (by with_reducible assumption)) | (with_reducible apply u_bh; with_reducible assumption) | (with_reducible refine u_be (by with_reducible assumption) ?_ ?_; focus omega))
      case measure => simp [intOf]; omega
    · obtain rfl : q = 4 := by omega
      have hT2 := hide (tm_congr (fun q hq => show upTo M M2 4 q = M2 q from if_pos hq) hT)
      clear hT
      go_wp2_with fail
      refine bodyPost_end (v := .tuple #[]) (by simp (maxDischargeDepth := 4) [results, Tryd.results50, go_sem, *]) rfl ?_
      have hT := hT2.out
      refine ⟨rfl, ?_, ?_⟩
      · repeat (first | with_reducible assumption | with_reducible refine tm_dr _ ?_ | with_reducible refine tm_d1 ?_)
      · repeat (first | with_reducible assumption | with_reducible exact Out1.refl _ _ | with_reducible refine u_dr _ ?_ | with_reducible refine u_d1 ?_ | with_reducible refine u_al _ ?_ | (with_reducible refine u_in _ ?_ ?_; focus omega) | (with_reducible refine u_new _ ?_ ?_; focus (dsimp only; omega)) | (with_reducible refine Out1.trans ?_ (by with_reducible assumption)) | (with_reducible apply u_bh; with_reducible assumption) | (with_reducible refine u_be (by with_reducible assumption) ?_ ?_; focus omega))
end Go.Proofs.YtkajndonefkegaaDoor
