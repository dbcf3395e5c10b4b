/-
  Texts laid one behind the other: Mtb2c, Mtb3c, Mtb4c, Mtb6.
-/
import Derived.Test.YtkajndonefkegaaDoorGMtb
set_option maxRecDepth 100000
set_option maxHeartbeats 64000000
namespace Go.Proofs.YtkajndonefkegaaDoor
open Go.RowKit

theorem idx_c_e (N o : Nat)  (w : World)   : Calls Tryd.prog 87 #[.slice (some ⟨N, o, none⟩) 0 0, .func (.func 54) #[] #[]] w (Makes (.int .i64 (-1)) w) := by
  obtain ⟨SS, LB', LS, LA', LH⟩ := rules5
  go_enter Tryd.func87, Tryd.ntmps87
  go_wp2
  refine wp_loop_rounds 1 ?_
  rw [rounds_succ]
  go_wp2_with fail
  go_ret
  refine ⟨rfl, ?_⟩
  repeat (with_reducible first | assumption | exact Below.refl _ _ | refine Below.drew ?_ | refine below_drewN ?_ _ | refine bw_alloc ?_ _ | (refine bw_set ?_ ?_ _; focus (dsimp only; omega)) | (apply bw_behind; assumption))

theorem idx_c_y (N o : Nat) (A0 B0 : Int) (X0 : Fd) (k0 : ∀ W : World, Calls Tryd.prog 54 #[.agg #[.int .u64 A0, .int .u64 B0, .bool X0.e0, .bool X0.e1, .bool X0.e2, .bool X0.e3, .bool X0.e4, .bool X0.e5, .bool X0.e6, .bool X0.e7, .bool X0.e8, .bool X0.e9, .bool X0.e10, .bool X0.e11, .int .u64 X0.f, .int .u64 X0.a]] W (Makes (.bool true) W)) (w : World) (r0 : w.rangeAt N (o) (lineI A0 B0 X0))  : Calls Tryd.prog 87 #[.slice (some ⟨N, o, none⟩) 1 1, .func (.func 54) #[] #[]] w (Makes (.int .i64 (0)) w) := by
  obtain ⟨SS, LB', LS, LA', LH⟩ := rules5
  have y0 : w.cell? ⟨N, o, none⟩ = some (.int .u64 A0) := row_of r0 0 _ rfl
  have C0 := hide k0
  clear k0
  have hN : N < w.heap.size := World.block_lt_of_cell? _ _ y0
  clear y0
  go_enter Tryd.func87, Tryd.ntmps87
  go_wp2
  refine wp_loop_rounds 2 ?_
  rw [rounds_succ]
  go_wp2_with (first | ((refine wpList_load_line rfl _ rfl (N) (o) rfl A0 B0 X0 ?_ ?_); (focus (repeat (with_reducible first | assumption | refine rg_dr _ ?_ | refine rg_d1 ?_ | refine rg_al _ ?_ | (refine rg_set ?_ ?_; focus (dsimp only; omega)) | (apply rg_be; assumption) | (refine rg_bn (by assumption) ?_ ?_; focus omega) | (refine rg_out (by assumption) ?_ ?_; focus omega))))) | (go_at_call 54; (with_reducible refine (C0.out _).mono ?_); rintro e wC0 ⟨rfl, hbC0⟩; obtain ⟨hrC0, hhC0, mC0, hsC0⟩ := bl_all hbC0))
  go_ret
  refine ⟨rfl, ?_⟩
  repeat (with_reducible first | assumption | exact Below.refl _ _ | refine Below.drew ?_ | refine below_drewN ?_ _ | refine bw_alloc ?_ _ | (refine bw_set ?_ ?_ _; focus (dsimp only; omega)) | (apply bw_behind; assumption))

theorem idx_c_yx (N o : Nat) (A0 B0 : Int) (X0 : Fd) (k0 : ∀ W : World, Calls Tryd.prog 54 #[.agg #[.int .u64 A0, .int .u64 B0, .bool X0.e0, .bool X0.e1, .bool X0.e2, .bool X0.e3, .bool X0.e4, .bool X0.e5, .bool X0.e6, .bool X0.e7, .bool X0.e8, .bool X0.e9, .bool X0.e10, .bool X0.e11, .int .u64 X0.f, .int .u64 X0.a]] W (Makes (.bool true) W)) (w : World) (r0 : w.rangeAt N (o) (lineI A0 B0 X0))  : Calls Tryd.prog 87 #[.slice (some ⟨N, o, none⟩) 2 2, .func (.func 54) #[] #[]] w (Makes (.int .i64 (0)) w) := by
  obtain ⟨SS, LB', LS, LA', LH⟩ := rules5
  have y0 : w.cell? ⟨N, o, none⟩ = some (.int .u64 A0) := row_of r0 0 _ rfl
  have C0 := hide k0
  clear k0
  have hN : N < w.heap.size := World.block_lt_of_cell? _ _ y0
  clear y0
  go_enter Tryd.func87, Tryd.ntmps87
  go_wp2
  refine wp_loop_rounds 2 ?_
  rw [rounds_succ]
  go_wp2_with (first | ((refine wpList_load_line rfl _ rfl (N) (o) rfl A0 B0 X0 ?_ ?_); (focus (repeat (with_reducible first | assumption | refine rg_dr _ ?_ | refine rg_d1 ?_ | refine rg_al _ ?_ | (refine rg_set ?_ ?_; focus (dsimp only; omega)) | (apply rg_be; assumption) | (refine rg_bn (by assumption) ?_ ?_; focus omega) | (refine rg_out (by assumption) ?_ ?_; focus omega))))) | (go_at_call 54; (with_reducible refine (C0.out _).mono ?_); rintro e wC0 ⟨rfl, hbC0⟩; obtain ⟨hrC0, hhC0, mC0, hsC0⟩ := bl_all hbC0))
  go_ret
  refine ⟨rfl, ?_⟩
  repeat (with_reducible first | assumption | exact Below.refl _ _ | refine Below.drew ?_ | refine below_drewN ?_ _ | refine bw_alloc ?_ _ | (refine bw_set ?_ ?_ _; focus (dsimp only; omega)) | (apply bw_behind; assumption))
end Go.Proofs.YtkajndonefkegaaDoor

namespace Go.Proofs.YtkajndonefkegaaDoor
open Go.RowKit

theorem del_c_e (N o k : Nat)  (w : World) (R : Nat -> Ln) (F : Nat -> Nat) (_hk : k + 2 ≤ 8) (_ho : 16 * k = o) (hT : TlbAt w N R F)   :
    Calls Tryd.prog 81 #[.slice (some ⟨N, o, none⟩) 0 0, .func (.func 54) #[] #[]] w (fun e w' => e = .returned (.slice (some ⟨N, o, none⟩) 0 0) /\ TlbAt w' N (R) F /\ Out1 N w w') := by
  obtain ⟨SS, LB', LS, LA', LH⟩ := rules5
  have hN : N < w.heap.size := hT.here
  have I := hide (fun W => idx_c_e N o    W)
  have HT := hide hT
  clear hT 
  go_enter Tryd.func81, Tryd.ntmps81
  go_wp2_with (first | (go_at_call 87; (with_reducible refine (I.out _).mono ?_); rintro e wi ⟨rfl, hbi⟩; obtain ⟨hri, hhi, mi, hsi⟩ := bl_all hbi; have hTi := hide (ta_be hbi HT.out)))
  refine bodyPost_ret (v := .slice (some ⟨N, o, none⟩) 0 0) (by simp (maxDischargeDepth := 4) [results, Tryd.results81, go_sem, *]) rfl ?_
  have hTi := hTi.out
  refine ⟨rfl, ?_, ?_⟩
  · repeat (with_reducible first | assumption | refine ta_dr _ ?_ | refine ta_d1 ?_ | refine ta_al _ ?_ | (refine ta_set ?_ ?_; focus (dsimp only; omega)) | (apply ta_be; assumption) | (refine ta_bn (by assumption) ?_ ?_; focus omega))
  · repeat (with_reducible first | assumption | exact Out1.refl _ _ | refine u_dr _ ?_ | refine u_d1 ?_ | refine u_al _ ?_ | (refine u_new _ ?_ ?_; focus (dsimp only; omega)) | (refine Out1.trans ?_ (by assumption)) | (apply u_bh; assumption) | (refine u_be (by assumption) ?_ ?_; focus omega))

theorem del_c_y (N o k : Nat) (A0 B0 : Int) (X0 : Fd) (k0 : ∀ W : World, Calls Tryd.prog 54 #[.agg #[.int .u64 A0, .int .u64 B0, .bool X0.e0, .bool X0.e1, .bool X0.e2, .bool X0.e3, .bool X0.e4, .bool X0.e5, .bool X0.e6, .bool X0.e7, .bool X0.e8, .bool X0.e9, .bool X0.e10, .bool X0.e11, .int .u64 X0.f, .int .u64 X0.a]] W (Makes (.bool true) W)) (w : World) (R : Nat -> Ln) (F : Nat -> Nat) (_hk : k + 2 ≤ 8) (_ho : 16 * k = o) (hT : TlbAt w N R F) (e0 : R (k) = (A0, B0, X0))  :
    Calls Tryd.prog 81 #[.slice (some ⟨N, o, none⟩) 1 1, .func (.func 54) #[] #[]] w (fun e w' => e = .returned (.slice (some ⟨N, o, none⟩) 0 1) /\ TlbAt w' N (zap R k 1) F /\ Out1 N w w') := by
  obtain ⟨SS, LB', LS, LA', LH⟩ := rules5
  have hN : N < w.heap.size := hT.here
  have r0 : w.rangeAt N (o) (lineI A0 B0 X0) := by
    have := hT.line (k) (by omega)
    rw [e0] at this
    rw [show o = 16 * (k) by omega]
    exact this
  have I := hide (fun W h0 => idx_c_y N o A0 B0 X0  k0 W h0)
  have C0 := hide k0
  have HT := hide hT
  clear hT k0 e0
  go_enter Tryd.func81, Tryd.ntmps81
  go_wp2_with (first | ((refine wpList_clear_lines rfl _ rfl N _ k 1 _ rfl (by omega) (by omega) (by omega) hTi.out ?_); intro wz hTz huz hsz) | (go_at_call 87; (with_reducible refine (I.out _ ?_).mono ?_); (focus (repeat (with_reducible first | assumption | refine rg_dr _ ?_ | refine rg_d1 ?_ | refine rg_al _ ?_ | (refine rg_set ?_ ?_; focus (dsimp only; omega)) | (apply rg_be; assumption) | (refine rg_bn (by assumption) ?_ ?_; focus omega) | (refine rg_out (by assumption) ?_ ?_; focus omega)))); rintro e wi ⟨rfl, hbi⟩; obtain ⟨hri, hhi, mi, hsi⟩ := bl_all hbi; have hTi := hide (ta_be hbi HT.out)))
  refine wp_loop_rounds 1 ?_
  rw [rounds_succ]
  go_wp2_with (first | ((refine wpList_clear_lines rfl _ rfl N _ k 1 _ rfl (by omega) (by omega) (by omega) hTi.out ?_); intro wz hTz huz hsz) | (go_at_call 87; (with_reducible refine (I.out _ ?_).mono ?_); (focus (repeat (with_reducible first | assumption | refine rg_dr _ ?_ | refine rg_d1 ?_ | refine rg_al _ ?_ | (refine rg_set ?_ ?_; focus (dsimp only; omega)) | (apply rg_be; assumption) | (refine rg_bn (by assumption) ?_ ?_; focus omega) | (refine rg_out (by assumption) ?_ ?_; focus omega)))); rintro e wi ⟨rfl, hbi⟩; obtain ⟨hri, hhi, mi, hsi⟩ := bl_all hbi; have hTi := hide (ta_be hbi HT.out)))
  refine bodyPost_ret (v := .slice (some ⟨N, o, none⟩) 0 1) (by simp (maxDischargeDepth := 4) [results, Tryd.results81, go_sem, *]) rfl ?_
  have hTi := hTi.out
  refine ⟨rfl, ?_, ?_⟩
  · repeat (with_reducible first | assumption | refine ta_dr _ ?_ | refine ta_d1 ?_ | refine ta_al _ ?_ | (refine ta_set ?_ ?_; focus (dsimp only; omega)) | (apply ta_be; assumption) | (refine ta_bn (by assumption) ?_ ?_; focus omega))
  · repeat (with_reducible first | assumption | exact Out1.refl _ _ | refine u_dr _ ?_ | refine u_d1 ?_ | refine u_al _ ?_ | (refine u_new _ ?_ ?_; focus (dsimp only; omega)) | (refine Out1.trans ?_ (by assumption)) | (apply u_bh; assumption) | (refine u_be (by assumption) ?_ ?_; focus omega))

theorem del_c_yy (N o k : Nat) (A0 B0 : Int) (X0 : Fd) (A1 B1 : Int) (X1 : Fd) (k0 : ∀ W : World, Calls Tryd.prog 54 #[.agg #[.int .u64 A0, .int .u64 B0, .bool X0.e0, .bool X0.e1, .bool X0.e2, .bool X0.e3, .bool X0.e4, .bool X0.e5, .bool X0.e6, .bool X0.e7, .bool X0.e8, .bool X0.e9, .bool X0.e10, .bool X0.e11, .int .u64 X0.f, .int .u64 X0.a]] W (Makes (.bool true) W)) (k1 : ∀ W : World, Calls Tryd.prog 54 #[.agg #[.int .u64 A1, .int .u64 B1, .bool X1.e0, .bool X1.e1, .bool X1.e2, .bool X1.e3, .bool X1.e4, .bool X1.e5, .bool X1.e6, .bool X1.e7, .bool X1.e8, .bool X1.e9, .bool X1.e10, .bool X1.e11, .int .u64 X1.f, .int .u64 X1.a]] W (Makes (.bool true) W)) (w : World) (R : Nat -> Ln) (F : Nat -> Nat) (_hk : k + 2 ≤ 8) (_ho : 16 * k = o) (hT : TlbAt w N R F) (e0 : R (k) = (A0, B0, X0)) (e1 : R (k + 1) = (A1, B1, X1))  :
    Calls Tryd.prog 81 #[.slice (some ⟨N, o, none⟩) 2 2, .func (.func 54) #[] #[]] w (fun e w' => e = .returned (.slice (some ⟨N, o, none⟩) 0 2) /\ TlbAt w' N (zap R k 2) F /\ Out1 N w w') := by
  obtain ⟨SS, LB', LS, LA', LH⟩ := rules5
  have hN : N < w.heap.size := hT.here
  have r0 : w.rangeAt N (o) (lineI A0 B0 X0) := by
    have := hT.line (k) (by omega)
    rw [e0] at this
    rw [show o = 16 * (k) by omega]
    exact this
  have r1 : w.rangeAt N (o + 16) (lineI A1 B1 X1) := by
    have := hT.line (k + 1) (by omega)
    rw [e1] at this
    rw [show o + 16 = 16 * (k + 1) by omega]
    exact this
  have I := hide (fun W h0 => idx_c_yx N o A0 B0 X0  k0 W h0)
  have C0 := hide k0
  have C1 := hide k1
  have HT := hide hT
  clear hT k0 e0 k1 e1
  go_enter Tryd.func81, Tryd.ntmps81
  go_wp2_with (first | ((refine wpList_clear_lines rfl _ rfl N _ k 2 _ rfl (by omega) (by omega) (by omega) hTc ?_); intro wz hTz huz hsz) | ((refine wpList_load_line rfl _ rfl (N) (o + 16) rfl A1 B1 X1 ?_ ?_); (focus (repeat (with_reducible first | assumption | refine rg_dr _ ?_ | refine rg_d1 ?_ | refine rg_al _ ?_ | (refine rg_set ?_ ?_; focus (dsimp only; omega)) | (apply rg_be; assumption) | (refine rg_bn (by assumption) ?_ ?_; focus omega) | (refine rg_out (by assumption) ?_ ?_; focus omega))))) | ((refine wpList_store_box rfl _ _ _ rfl _ (A1) (B1) (X1) rfl rfl infoL ?_ ?_); (focus (repeat (first | (with_reducible first | assumption | refine o_dr _ ?_ | refine o_d1 ?_ | refine o_set ?_) | (with_reducible refine o_new ?_ ?_; (focus (simp)); (focus (simp))) | (with_reducible refine o_new ?_ ?_; (focus (simp [*]; done)); (focus (simp))) | (with_reducible refine o_new ?_ ?_; (focus (simp [*]; omega)); (focus (simp))) | (with_reducible first | refine o_al _ ?_ | (apply o_be; assumption))))); intro ws hrs hbs hos hss) | ((refine wpList_load_line rfl _ rfl (_) (0) rfl A1 B1 X1 ?_ ?_); (focus (repeat (with_reducible first | assumption | refine rg_dr _ ?_ | refine rg_d1 ?_ | refine rg_al _ ?_ | (refine rg_set ?_ ?_; focus (dsimp only; omega)) | (apply rg_be; assumption) | (refine rg_bn (by assumption) ?_ ?_; focus omega) | (refine rg_out (by assumption) ?_ ?_; focus omega))))) | (go_at_call 87; (with_reducible refine (I.out _ ?_).mono ?_); (focus (repeat (with_reducible first | assumption | refine rg_dr _ ?_ | refine rg_d1 ?_ | refine rg_al _ ?_ | (refine rg_set ?_ ?_; focus (dsimp only; omega)) | (apply rg_be; assumption) | (refine rg_bn (by assumption) ?_ ?_; focus omega) | (refine rg_out (by assumption) ?_ ?_; focus omega)))); rintro e wi ⟨rfl, hbi⟩; obtain ⟨hri, hhi, mi, hsi⟩ := bl_all hbi; have hTi := hide (ta_be hbi HT.out)) | (go_at_call 54; (with_reducible refine (C1.out _).mono ?_); rintro e wc ⟨rfl, hbc⟩; obtain ⟨hrc, hhc, mc, hsc⟩ := bl_all hbc; have hTc := (show TlbAt wc N R F from (by have hTi := hTi.out; repeat (with_reducible first | assumption | refine ta_dr _ ?_ | refine ta_d1 ?_ | refine ta_al _ ?_ | (refine ta_set ?_ ?_; focus (dsimp only; omega)) | (apply ta_be; assumption) | (refine ta_bn (by assumption) ?_ ?_; focus omega))))))
  refine wp_loop_rounds 2 ?_
  rw [rounds_succ]
  go_wp2_with (first | ((refine wpList_clear_lines rfl _ rfl N _ k 2 _ rfl (by omega) (by omega) (by omega) hTc ?_); intro wz hTz huz hsz) | ((refine wpList_load_line rfl _ rfl (N) (o + 16) rfl A1 B1 X1 ?_ ?_); (focus (repeat (with_reducible first | assumption | refine rg_dr _ ?_ | refine rg_d1 ?_ | refine rg_al _ ?_ | (refine rg_set ?_ ?_; focus (dsimp only; omega)) | (apply rg_be; assumption) | (refine rg_bn (by assumption) ?_ ?_; focus omega) | (refine rg_out (by assumption) ?_ ?_; focus omega))))) | ((refine wpList_store_box rfl _ _ _ rfl _ (A1) (B1) (X1) rfl rfl infoL ?_ ?_); (focus (repeat (first | (with_reducible first | assumption | refine o_dr _ ?_ | refine o_d1 ?_ | refine o_set ?_) | (with_reducible refine o_new ?_ ?_; (focus (simp)); (focus (simp))) | (with_reducible refine o_new ?_ ?_; (focus (simp [*]; done)); (focus (simp))) | (with_reducible refine o_new ?_ ?_; (focus (simp [*]; omega)); (focus (simp))) | (with_reducible first | refine o_al _ ?_ | (apply o_be; assumption))))); intro ws hrs hbs hos hss) | ((refine wpList_load_line rfl _ rfl (_) (0) rfl A1 B1 X1 ?_ ?_); (focus (repeat (with_reducible first | assumption | refine rg_dr _ ?_ | refine rg_d1 ?_ | refine rg_al _ ?_ | (refine rg_set ?_ ?_; focus (dsimp only; omega)) | (apply rg_be; assumption) | (refine rg_bn (by assumption) ?_ ?_; focus omega) | (refine rg_out (by assumption) ?_ ?_; focus omega))))) | (go_at_call 87; (with_reducible refine (I.out _ ?_).mono ?_); (focus (repeat (with_reducible first | assumption | refine rg_dr _ ?_ | refine rg_d1 ?_ | refine rg_al _ ?_ | (refine rg_set ?_ ?_; focus (dsimp only; omega)) | (apply rg_be; assumption) | (refine rg_bn (by assumption) ?_ ?_; focus omega) | (refine rg_out (by assumption) ?_ ?_; focus omega)))); rintro e wi ⟨rfl, hbi⟩; obtain ⟨hri, hhi, mi, hsi⟩ := bl_all hbi; have hTi := hide (ta_be hbi HT.out)) | (go_at_call 54; (with_reducible refine (C1.out _).mono ?_); rintro e wc ⟨rfl, hbc⟩; obtain ⟨hrc, hhc, mc, hsc⟩ := bl_all hbc; have hTc := (show TlbAt wc N R F from (by have hTi := hTi.out; repeat (with_reducible first | assumption | refine ta_dr _ ?_ | refine ta_d1 ?_ | refine ta_al _ ?_ | (refine ta_set ?_ ?_; focus (dsimp only; omega)) | (apply ta_be; assumption) | (refine ta_bn (by assumption) ?_ ?_; focus omega))))))
  rw [rounds_succ]
  go_wp2_with (first | ((refine wpList_clear_lines rfl _ rfl N _ k 2 _ rfl (by omega) (by omega) (by omega) hTc ?_); intro wz hTz huz hsz) | ((refine wpList_load_line rfl _ rfl (N) (o + 16) rfl A1 B1 X1 ?_ ?_); (focus (repeat (with_reducible first | assumption | refine rg_dr _ ?_ | refine rg_d1 ?_ | refine rg_al _ ?_ | (refine rg_set ?_ ?_; focus (dsimp only; omega)) | (apply rg_be; assumption) | (refine rg_bn (by assumption) ?_ ?_; focus omega) | (refine rg_out (by assumption) ?_ ?_; focus omega))))) | ((refine wpList_store_box rfl _ _ _ rfl _ (A1) (B1) (X1) rfl rfl infoL ?_ ?_); (focus (repeat (first | (with_reducible first | assumption | refine o_dr _ ?_ | refine o_d1 ?_ | refine o_set ?_) | (with_reducible refine o_new ?_ ?_; (focus (simp)); (focus (simp))) | (with_reducible refine o_new ?_ ?_; (focus (simp [*]; done)); (focus (simp))) | (with_reducible refine o_new ?_ ?_; (focus (simp [*]; omega)); (focus (simp))) | (with_reducible first | refine o_al _ ?_ | (apply o_be; assumption))))); intro ws hrs hbs hos hss) | ((refine wpList_load_line rfl _ rfl (_) (0) rfl A1 B1 X1 ?_ ?_); (focus (repeat (with_reducible first | assumption | refine rg_dr _ ?_ | refine rg_d1 ?_ | refine rg_al _ ?_ | (refine rg_set ?_ ?_; focus (dsimp only; omega)) | (apply rg_be; assumption) | (refine rg_bn (by assumption) ?_ ?_; focus omega) | (refine rg_out (by assumption) ?_ ?_; focus omega))))) | (go_at_call 87; (with_reducible refine (I.out _ ?_).mono ?_); (focus (repeat (with_reducible first | assumption | refine rg_dr _ ?_ | refine rg_d1 ?_ | refine rg_al _ ?_ | (refine rg_set ?_ ?_; focus (dsimp only; omega)) | (apply rg_be; assumption) | (refine rg_bn (by assumption) ?_ ?_; focus omega) | (refine rg_out (by assumption) ?_ ?_; focus omega)))); rintro e wi ⟨rfl, hbi⟩; obtain ⟨hri, hhi, mi, hsi⟩ := bl_all hbi; have hTi := hide (ta_be hbi HT.out)) | (go_at_call 54; (with_reducible refine (C1.out _).mono ?_); rintro e wc ⟨rfl, hbc⟩; obtain ⟨hrc, hhc, mc, hsc⟩ := bl_all hbc; have hTc := (show TlbAt wc N R F from (by have hTi := hTi.out; repeat (with_reducible first | assumption | refine ta_dr _ ?_ | refine ta_d1 ?_ | refine ta_al _ ?_ | (refine ta_set ?_ ?_; focus (dsimp only; omega)) | (apply ta_be; assumption) | (refine ta_bn (by assumption) ?_ ?_; focus omega))))))
  refine bodyPost_ret (v := .slice (some ⟨N, o, none⟩) 0 2) (by simp (maxDischargeDepth := 4) [results, Tryd.results81, go_sem, *]) rfl ?_
  have hTi := hTi.out
  refine ⟨rfl, ?_, ?_⟩
  · repeat (with_reducible first | assumption | refine ta_dr _ ?_ | refine ta_d1 ?_ | refine ta_al _ ?_ | (refine ta_set ?_ ?_; focus (dsimp only; omega)) | (apply ta_be; assumption) | (refine ta_bn (by assumption) ?_ ?_; focus omega))
  · repeat (with_reducible first | assumption | exact Out1.refl _ _ | refine u_dr _ ?_ | refine u_d1 ?_ | refine u_al _ ?_ | (refine u_new _ ?_ ?_; focus (dsimp only; omega)) | (refine Out1.trans ?_ (by assumption)) | (apply u_bh; assumption) | (refine u_be (by assumption) ?_ ?_; focus omega))
end Go.Proofs.YtkajndonefkegaaDoor

namespace Go.Proofs.YtkajndonefkegaaDoor
open Go.RowKit

theorem del_any_c (g : Ln -> Bool) (hg : ∀ l, g l = true) (KC : ∀ (l : Ln) (W : World), Calls Tryd.prog 54 #[.agg #[.int .u64 l.1, .int .u64 l.2.1, .bool l.2.2.e0, .bool l.2.2.e1, .bool l.2.2.e2, .bool l.2.2.e3, .bool l.2.2.e4, .bool l.2.2.e5, .bool l.2.2.e6, .bool l.2.2.e7, .bool l.2.2.e8, .bool l.2.2.e9, .bool l.2.2.e10, .bool l.2.2.e11, .int .u64 l.2.2.f, .int .u64 l.2.2.a]] W (Makes (.bool (g l)) W)) (N q : Nat) (hq : q < 4) (L : List Ln) (hL : L.length ≤ 2) (w : World) (R : Nat -> Ln) (F : Nat -> Nat) (hR : ∀ j l, L[j]? = some l -> R (2 * q + j) = l) (hT : TlbAt w N R F)  :
    Calls Tryd.prog 81 #[.slice (some ⟨N, q * 32, none⟩) L.length L.length, .func (.func 54) #[] #[]] w (fun e w' => ∃ R', e = .returned (.slice (some ⟨N, q * 32, none⟩) (L.filter (fun l => !g l)).length L.length) /\ TlbAt w' N R' F /\ Out1 N w w' /\ (∀ k, k ≠ 2 * q -> k ≠ 2 * q + 1 -> R' k = R k) /\ ∀ j l, (L.filter (fun l => !g l))[j]? = some l -> R' (2 * q + j) = l) := by
  have hk : 2 * q + 2 ≤ 8 := by omega
  have ho : 16 * (2 * q) = q * 32 := by omega
  match L, hL, hR with
  | [], _, hR =>
    refine (del_c_e N (q * 32) (2 * q)  w R F hk ho hT).mono ?_
    rintro e w' ⟨rfl, h1, h2⟩
    exact ⟨R, rfl, h1, h2, fun _ _ _ => rfl, fun j l hl => by simp at hl⟩
  | [x], _, hR =>
    have ex : g x = true := hg x
    rw [show List.filter (fun l => !g l) [x] = [] by simp [ex]]
    refine (del_c_y N (q * 32) (2 * q) x.1 x.2.1 x.2.2  (fun W  => by have := KC x W ; rw [ex] at this; exact this) w R F hk ho hT (hR 0 x rfl) ).mono ?_
    rintro e w' ⟨rfl, h1, h2⟩
    refine ⟨zap R (2 * q) 1, rfl, h1, h2, fun k hk1 hk2 => ?_, fun j l hl => ?_⟩
    · unfold zap
      rw [if_neg (by omega)]
    · simp at hl
  | [x, y], _, hR =>
    have ex : g x = true := hg x
    have ey : g y = true := hg y
    rw [show List.filter (fun l => !g l) [x, y] = [] by simp [ex, ey]]
    refine (del_c_yy N (q * 32) (2 * q) x.1 x.2.1 x.2.2 y.1 y.2.1 y.2.2  (fun W  => by have := KC x W ; rw [ex] at this; exact this) (fun W  => by have := KC y W ; rw [ey] at this; exact this) w R F hk ho hT (hR 0 x rfl) (hR 1 y rfl) ).mono ?_
    rintro e w' ⟨rfl, h1, h2⟩
    refine ⟨zap R (2 * q) 2, rfl, h1, h2, fun k hk1 hk2 => ?_, fun j l hl => ?_⟩
    · unfold zap
      rw [if_neg (by omega)]
    · simp at hl
  | _ :: _ :: _ :: _, hL, _ =>
    simp only [List.length_cons] at hL
    omega

theorem rem_any_c (g : Ln -> Bool) (hg : ∀ l, g l = true) (KC : ∀ (l : Ln) (W : World), Calls Tryd.prog 54 #[.agg #[.int .u64 l.1, .int .u64 l.2.1, .bool l.2.2.e0, .bool l.2.2.e1, .bool l.2.2.e2, .bool l.2.2.e3, .bool l.2.2.e4, .bool l.2.2.e5, .bool l.2.2.e6, .bool l.2.2.e7, .bool l.2.2.e8, .bool l.2.2.e9, .bool l.2.2.e10, .bool l.2.2.e11, .int .u64 l.2.2.f, .int .u64 l.2.2.a]] W (Makes (.bool (g l)) W)) (N : Nat) (M : Nat -> List Ln) (w : World) (hM : TlbM w N M)  :
    Calls Tryd.prog 50 #[.pointer (some ⟨N, 0, none⟩), .func (.func 54) #[] #[]] w (fun e w' => e = .returned (.tuple #[]) /\ TlbM w' N (fun q => (M q).filter (fun l => !g l)) /\ Out1 N w w') := by
  obtain ⟨SS, LB', LS, LA', LH⟩ := rules5
  have HD := hide (fun q hq L hL W R F hR hT  => del_any_c g hg KC N q hq L hL W R F hR hT )
  have HF := hide (fun q n hq hn W hc => of_let N q n hn hq W hc)
  have HM := hide hM
  clear hM KC
  obtain ⟨M2, hM2⟩ : ∃ M2 : Nat -> List Ln, (fun q => (M q).filter (fun l => !g l)) = M2 := ⟨_, rfl⟩
  rw [hM2]
  have hm2 : ∀ q, (M q).filter (fun l => !g l) = M2 q := fun q => congrFun hM2 q
  have HG := hide hm2
  clear hM2 hm2
  go_enter Tryd.func50, Tryd.ntmps50
  go_wp2
  go_loopw [7] (fun i wr => ∃ q : Nat, q ≤ 4 /\ i = .int .u64 (q : Int) /\ TlbM wr N (upTo M M2 q) /\ Out1 N w wr) (fun i _ => 4 - (intOf i).toNat)
  case atStart =>
    refine ⟨0, by omega, rfl, ?_, Out1.refl _ _⟩
    have := HM.out
    rw [show upTo M M2 0 = M from funext fun q => if_neg (by omega)]
    exact this
  case round =>
    obtain ⟨q, hq, rfl, hT, hU⟩ := hrel
    by_cases hlt : q < 4
    · obtain ⟨R, hA, hB⟩ := hT
      have hL : upTo M M2 q q = M q := if_neg (by omega)
      have hB0 := hB q hlt
      rw [hL] at hB0
      have hfill := hA.fill q hlt
      simp only [hL] at hfill
      have D := fun W hT => HD.out q hlt (M q) hB0.1 W R (fun r => (upTo M M2 q r).length) hB0.2 hT
      have O := fun W hc => HF.out q (M q).length hlt hB0.1 W hc
      have hl2 : ((M q).filter (fun l => !g l)) = M2 q := HG.out q
      simp only [hl2] at D
      obtain ⟨n, hn⟩ : ∃ n, (M q).length = n := ⟨_, rfl⟩
      obtain ⟨m, hm⟩ : ∃ m, (M2 q).length = m := ⟨_, rfl⟩
      rw [hn] at D O hfill
      rw [hm] at D
      have DD := hide D
      have OO := hide O
      have HA := hide hA
      have HB := hide hB
      have HN := hide hn
      have HMM := hide hm
      have HL := hide hL
      clear D O hA hB hB0 hl2 hn hm hL
      have h1 : ¬ ((4 : Int) ≤ (q : Int)) := by omega
      have h2 : (q : Int) < 4 := by omega
      have h3 : (0 : Int) ≤ (q : Int) := by omega
      go_wp2_with fail
      go_region_with (first | (go_at_call 55; (with_reducible refine (OO.out _ ?_).mono ?_); (focus (repeat (with_reducible first | assumption | refine c_dr _ ?_ | refine c_d1 ?_ | refine c_al _ ?_ | (refine c_set ?_ ?_; focus (dsimp only; omega)) | (apply c_be; assumption) | (refine c_bn (by assumption) ?_ ?_; focus (dsimp only; omega)) | (refine Out1.reads (by assumption) ?_ ?_; focus (dsimp only; omega))))); rintro e w' ⟨rfl, n1, rfl⟩) | (go_at_call 81; (with_reducible refine (DD.out _ ?_).mono ?_); (focus (have hA := HA.out; repeat (with_reducible first | assumption | refine ta_dr _ ?_ | refine ta_d1 ?_ | refine ta_al _ ?_ | (refine ta_set ?_ ?_; focus (dsimp only; omega)) | (apply ta_be; assumption) | (refine ta_bn (by assumption) ?_ ?_; focus omega)))); rintro e wd ⟨R2, rfl, hTd, hUd, hRd, hRe⟩; have hTd2 := hide hTd; have hRe2 := hide hRe; have hRd2 := hide hRd; have hcd := hTd.fill q hlt; have hfd : wd.frozen? ⟨N, 128 + q, none⟩ = false := (hTd.part (128 + q) 1 (by omega) 0 (by omega)).2; clear hTd hRe hRd))
      all_goals go_wp2_with fail
      go_roundw
      case rel =>
        refine ⟨q + 1, by omega, by go_num, ⟨R2, ?_, fun r hr => ?_⟩, ?_⟩
        · rw [← updL_upTo M M2 q m HMM.out]
          have hX := ta_fill m rfl hlt rfl hTd2.out
          repeat (with_reducible first | assumption | refine ta_dr _ ?_ | refine ta_d1 ?_ | refine ta_al _ ?_ | (refine ta_set ?_ ?_; focus (dsimp only; omega)) | (apply ta_be; assumption) | (refine ta_bn (by assumption) ?_ ?_; focus omega))
        · have hB := HB.out r hr
          by_cases e : r = q
          · subst e
            rw [show upTo M M2 (r + 1) r = M2 r from if_pos (by omega)]
            refine ⟨?_, hRe2.out⟩
            rw [← HG.out r]
            have h1 := List.length_filter_le (fun l => !g l) (M r)
            have h2 := hB.1
            rw [HL.out] at h2
            omega
          · have e2 : upTo M M2 (q + 1) r = upTo M M2 q r := by
              unfold upTo
              by_cases h : r < q
              · rw [if_pos h, if_pos (by omega)]
              · rw [if_neg h, if_neg (by omega)]
            rw [e2]
            refine ⟨hB.1, fun j l hl => ?_⟩
            have hj : j < (upTo M M2 q r).length := (List.getElem?_eq_some_iff.1 hl).1
            have := hB.1
            rw [hRd2.out (2 * r + j) (by omega) (by omega)]
            exact hB.2 j l hl
        · repeat (with_reducible first | assumption | exact Out1.refl _ _ | refine u_dr _ ?_ | refine u_d1 ?_ | refine u_al _ ?_ | (refine u_in _ ?_ ?_; focus omega) | (refine u_new _ ?_ ?_; focus (dsimp only; omega)) | (refine Out1.trans ?_ (by assumption)) | (apply u_bh; assumption) | (refine u_be (by assumption) ?_ ?_; focus omega))
      case measure => simp [intOf]; omega
    · obtain rfl : q = 4 := by omega
      have hT2 := hide (tm_congr (fun q hq => show upTo M M2 4 q = M2 q from if_pos hq) hT)
      clear hT
      go_wp2_with fail
      refine bodyPost_end (v := .tuple #[]) (by simp (maxDischargeDepth := 4) [results, Tryd.results50, go_sem, *]) rfl ?_
      have hT := hT2.out
      refine ⟨rfl, ?_, ?_⟩
      · repeat (with_reducible first | assumption | refine tm_dr _ ?_ | refine tm_d1 ?_)
      · repeat (with_reducible first | assumption | exact Out1.refl _ _ | refine u_dr _ ?_ | refine u_d1 ?_ | refine u_al _ ?_ | (refine u_in _ ?_ ?_; focus omega) | (refine u_new _ ?_ ?_; focus (dsimp only; omega)) | (refine Out1.trans ?_ (by assumption)) | (apply u_bh; assumption) | (refine u_be (by assumption) ?_ ?_; focus omega))
end Go.Proofs.YtkajndonefkegaaDoor

namespace Go.Proofs.YtkajndonefkegaaDoor
open Go.RowKit

theorem run_copy_wide {P : Program} (w : World) (dT sT ty elem : TypeId) (b o dLen dCap : Nat) (a : Addr) (sLen sCap k : Nat) (cs : List Value)
    (hu : P.underlying dT = some (.slice elem)) (hs : (P.info? elem).map (·.size) = some k) (hn : cs.length = Nat.min sLen dLen * k)
    (hsrc : ∀ j v, cs[j]? = some v -> w.cell? (a.add j) = some v) (ht : w.there b o cs.length) (h1 : ∀ v ∈ cs, v.oneCell' = true) :
    (Builtin.copy_ #[dT, sT] ty #[.slice (some ⟨b, o, none⟩) dLen dCap, .slice (some a) sLen sCap]).run P w = .ok (goInt (Nat.min sLen dLen)) (w.setCells b o cs) := by
  have hl := run_loadCells_list (P := P) w a cs hsrc
  have hst := run_storeCells_cells (P := P) b o cs 0 w (fun j hj => by rw [Nat.add_zero]; exact (ht j hj).1) (fun j hj => by rw [Nat.add_zero]; exact (ht j hj).2) h1
  cases hq : P.info? elem with
  | none => simp [hq] at hs
  | some i =>
    have hi : i.size = k := by simpa [hq] using hs
    rw [hn] at hl
    simp [Builtin.copy_, run_underlying hu, Builtin.lenOf, Builtin.firstCells, sizeOf, typeInfo, hq, hi, hl, hst]

def flatC (L : List Ln) : List Value := (L.map lineC).flatten
theorem flatC_length (L : List Ln) : (flatC L).length = 16 * L.length := by
  induction L with
  | nil => rfl
  | cons x L ih =>
    show (lineC x ++ flatC L).length = _
    rw [List.length_append, lineC_length, ih, List.length_cons]
    omega
theorem flatC_append (L K : List Ln) : flatC (L ++ K) = flatC L ++ flatC K := by simp [flatC]
theorem flatC_one (L : List Ln) : ∀ v ∈ flatC L, v.oneCell' = true := by
  intro v hv
  obtain ⟨l, hl, hvl⟩ := List.mem_flatten.1 hv
  obtain ⟨x, _, rfl⟩ := List.mem_map.1 hl
  exact lineC_one x v hvl
theorem flatC_at : ∀ (L : List Ln) (k t : Nat) (l : Ln), L[k]? = some l -> t < 16 -> (flatC L)[16 * k + t]? = (lineC l)[t]?
  | [], k, t, l, h, _ => by simp at h
  | x :: L, 0, t, l, h, ht => by
    simp only [List.getElem?_cons_zero, Option.some.injEq] at h
    subst h
    show (lineC x ++ flatC L)[16 * 0 + t]? = _
    rw [List.getElem?_append_left (by rw [lineC_length]; omega), Nat.mul_zero, Nat.zero_add]
  | x :: L, k + 1, t, l, h, ht => by
    show (lineC x ++ flatC L)[16 * (k + 1) + t]? = _
    rw [List.getElem?_append_right (by rw [lineC_length]; omega), lineC_length, show 16 * (k + 1) + t - 16 = 16 * k + t by omega]
    exact flatC_at L k t l (by simpa using h) ht
theorem flat_line {W : World} {A : Nat} {L : List Ln} (h : W.rangeAt A 0 (flatC L)) (k : Nat) (l : Ln) (hl : L[k]? = some l) : W.rangeAt A (16 * k) (lineC l) := fun t v hv => by
  have ht : t < 16 := (List.getElem?_eq_some_iff.1 hv).1
  have := h (16 * k + t) v (by rw [flatC_at L k t l hl ht]; exact hv)
  rw [Nat.zero_add] at this
  exact this
theorem set_cells {W : World} {N : Nat} {R : Nat -> Ln} {F : Nat -> Nat} (h : TlbAt W N R F) (q : Nat) (hq : q < 4) (L : List Ln) (hL : L.length ≤ 2) (hR : ∀ j l, L[j]? = some l -> R (2 * q + j) = l) : ∀ j v, (flatC L)[j]? = some v -> W.cell? ((⟨N, q * 32, none⟩ : Addr).add j) = some v := by
  intro j v hv
  have hj : j < (flatC L).length := (List.getElem?_eq_some_iff.1 hv).1
  rw [flatC_length] at hj
  have hk : j / 16 < L.length := by omega
  have e1 := List.getElem?_eq_getElem hk
  have e2 := hR _ _ e1
  have e3 := flatC_at L (j / 16) (j % 16) _ e1 (by omega)
  rw [show 16 * (j / 16) + j % 16 = j by omega, hv, ← e2] at e3
  have := h.line (2 * q + j / 16) (by omega) (j % 16) v e3.symm
  rw [Addr.add_mid, show q * 32 + j = 16 * (2 * q + j / 16) + j % 16 by omega]
  exact this
def upF {α : Type} (M : Nat -> List (LnX α)) : Nat -> List (LnX α)
  | 0 => []
  | k + 1 => upF M k ++ M k
theorem upF_length {α : Type} (M : Nat -> List (LnX α)) : ∀ k, (∀ q, q < k -> (M q).length ≤ 2) -> (upF M k).length ≤ 2 * k
  | 0, _ => by simp [upF]
  | k + 1, h => by
    have := upF_length M k (fun q hq => h q (by omega))
    have := h k (by omega)
    simp only [upF, List.length_append]
    omega
theorem range_more {W : World} {A n : Nat} {L K : List Ln} (h : W.rangeAt A 0 (flatC L)) (hn : n = L.length * 16) (ht : W.there A 0 128) (hl : L.length + K.length ≤ 8) : (W.setCells A n (flatC K)).rangeAt A 0 (flatC (L ++ K)) := by
  subst hn
  intro j v hv
  rw [flatC_append] at hv
  rcases Nat.lt_or_ge j (flatC L).length with hj | hj
  · rw [List.getElem?_append_left hj] at hv
    rw [flatC_length] at hj
    have := h j v hv
    rw [World.cell?_setCells_out A _ _ W _ (fun _ _ => by left; show 0 + j < _; omega)]
    exact this
  · rw [List.getElem?_append_right hj] at hv
    rw [flatC_length] at hj hv
    have h2 := World.rangeAt_setCells_same W A (L.length * 16) (flatC K) (fun i hi => by
      rw [flatC_length] at hi
      have := ht (L.length * 16 + i) (by omega)
      rw [Nat.zero_add] at this
      exact this) _ v hv
    rw [show L.length * 16 + (j - 16 * L.length) = 0 + j by omega] at h2
    exact h2
theorem o_bn {n b k : Nat} {W W' : World} (hb : Below n W W') (hlt : b < n) (h : Own W b k) : Own W' b k := fun i hi => by
  rw [hb.cell (p := ⟨b, i, none⟩) hlt, hb.frozen (p := ⟨b, i, none⟩) hlt]
  exact h i hi
theorem row_rg {W : World} {b : Nat} {cs : List Value} (h : W.rangeAt b 0 cs) : Row W b cs := fun i v hv => by
  have := h i v hv
  rw [Nat.zero_add] at this
  exact this
theorem slice_linesT : Tryd.prog.underlying 73 = some (.slice 36) := by kernel_rfl
theorem zero_eight : ∃ Z : Array Value, Z.size = 128 /\ ∀ W, (zeroValue 126).run Tryd.prog W = .ok (.agg Z) W := by
  have h : ((Tryd.prog.info? 126).bind (·.zero)).map (fun z => z.cells.toList) = some ((List.replicate 8 (lineC zeroL)).flatten) := by kernel_rfl
  have h2 : ((Tryd.prog.info? 126).bind (·.zero)).map (fun z => match z with | .agg _ => true | _ => false) = some true := by kernel_rfl
  obtain ⟨z, hz0, hl⟩ := Option.map_eq_some_iff.1 h
  obtain ⟨i, hi, hz⟩ := Option.bind_eq_some_iff.1 hz0
  rw [hz0] at h2
  cases z with
  | agg cs =>
    refine ⟨cs, ?_, fun W => ?_⟩
    · have := congrArg List.length hl
      simpa [Value.cells] using this
    · simp [zeroValue, typeInfo, hi, hz]
  | _ => simp at h2

theorem lines_any (N : Nat) (M : Nat -> List Ln) (w : World) (hM : TlbM w N M) :
    Calls Tryd.prog 22 #[.pointer (some ⟨N, 0, none⟩)] w (fun e w' => ∃ A, e = .returned (.slice (some ⟨A, 0, none⟩) (upF M 4).length (upF M 4).length) /\ w'.rangeAt A 0 (flatC (upF M 4)) /\ w.heap.size ≤ A /\ Below w.heap.size w w') := by
  obtain ⟨SS, LB', LS, LA', LH⟩ := rules5
  have HF := hide (fun q n hq hn W hc => of_let N q n hn hq W hc)
  obtain ⟨Z, hZ, hz⟩ := zero_eight
  have HM := hide hM
  have hN : N < w.heap.size := hM.here
  clear hM
  go_enter Tryd.func22, Tryd.ntmps22
  go_wp2
  go_loopw [4, 8] (fun s i wr => ∃ q : Nat, q ≤ 4 /\ i = .int .u64 (q : Int) /\ s = .int .i64 ((upF M q).length : Int) /\ wr.rangeAt w.heap.size 0 (flatC (upF M q)) /\ wr.there w.heap.size 0 128 /\ Below w.heap.size w wr) (fun _ i _ => 4 - (intOf i).toNat)
  case atStart =>
    refine ⟨0, by omega, rfl, rfl, ?_, ?_, ?_⟩
    · intro j v hv
      simp [upF, flatC] at hv
    · exact th_own (o_new rfl (by omega))
    · repeat (with_reducible first | assumption | exact Below.refl _ _ | refine Below.drew ?_ | refine below_drewN ?_ _ | refine bw_alloc ?_ _ | (refine bw_set ?_ ?_ _; focus (dsimp only; omega)) | (apply bw_behind; assumption) | (refine bw_sc _ ?_ ?_; focus omega))
  case round =>
    obtain ⟨q, hq, rfl, rfl, hr, ht, hB⟩ := hrel
    by_cases hlt : q < 4
    · obtain ⟨R, hA, hP⟩ := tm_bn hB hN HM.out
      have hfill : wr.cell? ⟨N, 128 + q, none⟩ = some (.int .i64 ((M q).length : Int)) := hA.fill q hlt
      have hL := (hP q hlt).1
      have hl6 := upF_length M q (fun r hr => (hP r (by omega)).1)
      obtain ⟨n, hn⟩ : ∃ n, (upF M q).length = n := ⟨_, rfl⟩
      obtain ⟨m, hm⟩ : ∃ m, (M q).length = m := ⟨_, rfl⟩
      have O := hide (fun W hc => HF.out q m hlt (by omega) W hc)
      have hcp : ∀ k ty, (Builtin.copy_ #[73, 73] ty #[.slice (some ⟨w.heap.size, n * 16, none⟩) (8 - n) (8 - n), .slice (some ⟨N, q * 32, none⟩) m m]).run Tryd.prog (wr.drewN k) = .ok (.int .i64 (m : Int)) ((wr.drewN k).setCells w.heap.size (n * 16) (flatC (M q))) := fun k ty => by
        have hmin : Nat.min m (8 - n) = m := Nat.min_eq_left (by omega)
        have := run_copy_wide (P := Tryd.prog) (wr.drewN k) 73 73 ty 36 w.heap.size (n * 16) (8 - n) (8 - n) ⟨N, q * 32, none⟩ m m 16 (flatC (M q)) slice_linesT infoL (by rw [hmin, flatC_length]; omega)
          (set_cells (ta_dr k hA) q hlt (M q) hL (hP q hlt).2) (fun i hi => by
            rw [flatC_length] at hi
            have := ht (n * 16 + i) (by omega)
            rw [Nat.zero_add] at this
            exact this) (flatC_one _)
        rw [hmin] at this
        exact this
      rw [hn] at hl6 ⊢
      rw [hm] at hL hfill
      have h1 : ¬ ((4 : Int) ≤ (q : Int)) := by omega
      have h2 : (q : Int) < 4 := by omega
      have h3 : (0 : Int) ≤ (q : Int) := by omega
      have h4 : (0 : Int) ≤ (n : Int) := by omega
      have h5 : (n : Int) ≤ 8 := by omega
      have h6 : ¬ (8 = n) := by omega
      have hw : IntKind.i64.wrap ((n : Int) + (m : Int)) = ((n + m : Nat) : Int) := by rw [IntKind.wrap_i64]; omega
      have HR := hide hr
      have HT := hide ht
      have HL := hide hL
      have H6 := hide hl6
      have HN := hide hn
      have HMM := hide hm
      have HP := hide hP
      clear hr ht hL hl6 hn hm hA hP
      go_wp2_with fail
      go_region_with (first | (go_at_call 55; (with_reducible refine (O.out _ ?_).mono ?_); (focus (repeat (with_reducible first | assumption | refine c_dr _ ?_ | refine c_d1 ?_ | refine c_al _ ?_ | (refine c_set ?_ ?_; focus (dsimp only; omega)) | (apply c_be; assumption)))); rintro e w' ⟨rfl, n1, rfl⟩))
      all_goals go_wp2_with fail
      go_roundw
      case rel =>
        have hl := upF_length M (q + 1) (fun r hr => (HP.out r (by omega)).1)
        refine ⟨q + 1, by omega, by go_num, ?_, ?_, ?_, ?_⟩
        · rw [show (upF M (q + 1)).length = n + m by rw [← HN.out, ← HMM.out]; simp [upF]]
          first | rfl | go_num
        · show World.rangeAt _ w.heap.size 0 (flatC (upF M q ++ M q))
          refine range_more ?_ ?_ ?_ ?_
          · exact HR.out
          · rw [HN.out]
          · exact HT.out
          · rw [HN.out, HMM.out]
            have := H6.out
            have := HL.out
            omega
        · exact World.there_setCells (show World.there (wr.drewN _) w.heap.size 0 128 from HT.out) _ _ _
        · repeat (with_reducible first | assumption | exact Below.refl _ _ | refine Below.drew ?_ | refine below_drewN ?_ _ | refine bw_alloc ?_ _ | (refine bw_set ?_ ?_ _; focus (dsimp only; omega)) | (apply bw_behind; assumption) | (refine bw_sc _ ?_ ?_; focus omega))
      case measure => simp [intOf]; omega
    · obtain rfl : q = 4 := by omega
      obtain ⟨R, hA, hP⟩ := HM.out
      have hl8 := upF_length M 4 (fun r hr => (hP r (by omega)).1)
      obtain ⟨n, hn⟩ : ∃ n, (upF M 4).length = n := ⟨_, rfl⟩
      have HR := hide hr
      have HN := hide hn
      rw [hn] at hl8 ⊢
      clear hr ht hn hA hP
      have h4 : (0 : Int) ≤ (n : Int) := by omega
      have h5 : (n : Int) ≤ 8 := by omega
      go_wp2_with fail
      refine bodyPost_ret (v := .slice (some ⟨w.heap.size, 0, none⟩) n n) (by simp (maxDischargeDepth := 4) [results, Tryd.results22, go_sem, *]) rfl ?_
      refine ⟨w.heap.size, by rw [HN.out], ?_, Nat.le_refl _, ?_⟩
      · exact HR.out
      · repeat (with_reducible first | assumption | exact Below.refl _ _ | refine Below.drew ?_ | refine below_drewN ?_ _ | refine bw_alloc ?_ _ | (refine bw_set ?_ ?_ _; focus (dsimp only; omega)) | (apply bw_behind; assumption) | (refine bw_sc _ ?_ ?_; focus omega))
end Go.Proofs.YtkajndonefkegaaDoor
