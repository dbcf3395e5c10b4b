/-
  What slices.DeleteFunc turns, of at most two lines of the buffer, for a closure of the buffer.
-/
import Derived.Test.YtikdoknfcikfgaaTlb2c
namespace Go.Proofs.Ytikdoknfcikfgaa
open Go.RowKit

set_option maxRecDepth 100000 in
set_option maxHeartbeats 4000000 in
theorem del_c_e (N o k : Nat)  (w : World) (R : Nat → Ln) (F : Nat → Nat) (_hk : k + 2 ≤ 8) (_ho : 16 * k = o) (hT : TlbAt w N R F)   :
    Calls Try.prog 28 #[.slice (some ⟨N, o, none⟩) 0 0, .func (.func 27) #[] #[]] w (fun e w' => e = .returned (.slice (some ⟨N, o, none⟩) 0 0) ∧ TlbAt w' N (R) F ∧ Out1 N w w') := by
  have SS := cell_same
  have LB' := ltB_add
  have LS := ltB_self
  have LA' := alloc_reads
  have LH := alloc_holds
  have hN : N < w.heap.size := hT.here
  have I := hide (fun W => idx_c_e N o    W)
  have HT := hide hT
  clear hT 
  go_enter Try.func28, Try.ntmps28
  go_wp2_with (first | (go_at_call 29; (with_reducible refine (I.out _).mono ?_); rintro e wi ⟨rfl, hbi⟩; have hri := below_reads hbi; have hhi := below_holds hbi; obtain ⟨mi, hsi⟩ := below_grew hbi; have hTi := hide (ta_be hbi HT.out)))
  refine bodyPost_ret (v := .slice (some ⟨N, o, none⟩) 0 0) (by simp (maxDischargeDepth := 4) [results, Try.results28, go_sem, *]) rfl ?_
  have hTi := hTi.out
  refine ⟨rfl, ?_, ?_⟩
  · repeat (first | with_reducible assumption | with_reducible refine ta_dr _ ?_ | with_reducible refine ta_d1 ?_ | with_reducible refine ta_al _ ?_ | (with_reducible refine ta_set ?_ ?_; focus (dsimp only; omega)) | (with_reducible apply ta_be; with_reducible assumption) | (with_reducible refine ta_bn (by with_reducible assumption) ?_ ?_; focus omega))
  · repeat (first | with_reducible assumption | with_reducible exact Out1.refl _ _ | with_reducible refine u_dr _ ?_ | with_reducible refine u_d1 ?_ | with_reducible refine u_al _ ?_ | (with_reducible refine u_new _ ?_ ?_; focus (dsimp only; omega)) | (with_reducible refine Out1.trans ?_ (by with_reducible assumption)) | (with_reducible apply u_bh; with_reducible assumption) | (with_reducible refine u_be (by with_reducible assumption) ?_ ?_; focus omega))

set_option maxRecDepth 100000 in
set_option maxHeartbeats 4000000 in
theorem del_c_y (N o k : Nat) (A0 B0 X0 : Int) (k0 : ∀ W : World, Calls Try.prog 27 #[.agg #[.int .u64 A0, .int .u64 B0, .bool false, .bool false, .bool false, .bool false, .bool false, .bool false, .bool false, .bool false, .bool false, .bool false, .bool false, .bool false, .int .u64 0, .int .u64 X0]] W (Makes (.bool true) W)) (w : World) (R : Nat → Ln) (F : Nat → Nat) (_hk : k + 2 ≤ 8) (_ho : 16 * k = o) (hT : TlbAt w N R F) (e0 : R (k) = (A0, B0, X0))  :
    Calls Try.prog 28 #[.slice (some ⟨N, o, none⟩) 1 1, .func (.func 27) #[] #[]] w (fun e w' => e = .returned (.slice (some ⟨N, o, none⟩) 0 1) ∧ TlbAt w' N (zap R k 1) F ∧ Out1 N w w') := by
  have SS := cell_same
  have LB' := ltB_add
  have LS := ltB_self
  have LA' := alloc_reads
  have LH := alloc_holds
  have hN : N < w.heap.size := hT.here
  have r0 : w.rangeAt N (o) (lineI A0 B0 X0) := by
    have := hT.line (k) (by omega)
    rw [e0] at this
    rw [show o = 16 * (k) by omega]
    exact this
  have I := hide (fun W h0 => idx_c_y N o A0 B0 X0  k0 W h0)
  have C0 := hide k0
  have HT := hide hT
  clear hT k0 e0
  go_enter Try.func28, Try.ntmps28
  go_wp2_with (first | ((refine wpList_clear_lines rfl _ rfl N _ k 1 _ rfl (by omega) (by omega) (by omega) hTi.out ?_); intro wz hTz huz hsz) | (go_at_call 29; (with_reducible refine (I.out _ ?_).mono ?_); (focus (repeat (first | with_reducible assumption | with_reducible refine rg_dr _ ?_ | with_reducible refine rg_d1 ?_ | with_reducible refine rg_al _ ?_ | (with_reducible refine rg_set ?_ ?_; focus (dsimp only; omega)) | (with_reducible apply rg_be; with_reducible assumption) | (with_reducible refine rg_bn (by with_reducible assumption) ?_ ?_; focus omega) | (with_reducible refine rg_out (by with_reducible assumption) ?_ ?_; focus omega)))); rintro e wi ⟨rfl, hbi⟩; have hri := below_reads hbi; have hhi := below_holds hbi; obtain ⟨mi, hsi⟩ := below_grew hbi; have hTi := hide (ta_be hbi HT.out)))
  refine wp_loop_rounds 1 ?_
  rw [rounds_succ]
  go_wp2_with (first | ((refine wpList_clear_lines rfl _ rfl N _ k 1 _ rfl (by omega) (by omega) (by omega) hTi.out ?_); intro wz hTz huz hsz) | (go_at_call 29; (with_reducible refine (I.out _ ?_).mono ?_); (focus (repeat (first | with_reducible assumption | with_reducible refine rg_dr _ ?_ | with_reducible refine rg_d1 ?_ | with_reducible refine rg_al _ ?_ | (with_reducible refine rg_set ?_ ?_; focus (dsimp only; omega)) | (with_reducible apply rg_be; with_reducible assumption) | (with_reducible refine rg_bn (by with_reducible assumption) ?_ ?_; focus omega) | (with_reducible refine rg_out (by with_reducible assumption) ?_ ?_; focus omega)))); rintro e wi ⟨rfl, hbi⟩; have hri := below_reads hbi; have hhi := below_holds hbi; obtain ⟨mi, hsi⟩ := below_grew hbi; have hTi := hide (ta_be hbi HT.out)))
  refine bodyPost_ret (v := .slice (some ⟨N, o, none⟩) 0 1) (by simp (maxDischargeDepth := 4) [results, Try.results28, go_sem, *]) rfl ?_
  have hTi := hTi.out
  refine ⟨rfl, ?_, ?_⟩
  · repeat (first | with_reducible assumption | with_reducible refine ta_dr _ ?_ | with_reducible refine ta_d1 ?_ | with_reducible refine ta_al _ ?_ | (with_reducible refine ta_set ?_ ?_; focus (dsimp only; omega)) | (with_reducible apply ta_be; with_reducible assumption) | (with_reducible refine ta_bn (by with_reducible assumption) ?_ ?_; focus omega))
  · repeat (first | with_reducible assumption | with_reducible exact Out1.refl _ _ | with_reducible refine u_dr _ ?_ | with_reducible refine u_d1 ?_ | with_reducible refine u_al _ ?_ | (with_reducible refine u_new _ ?_ ?_; focus (dsimp only; omega)) | (with_reducible refine Out1.trans ?_ (by with_reducible assumption)) | (with_reducible apply u_bh; with_reducible assumption) | (with_reducible refine u_be (by with_reducible assumption) ?_ ?_; focus omega))

set_option maxRecDepth 100000 in
set_option maxHeartbeats 4000000 in
theorem del_c_yy (N o k : Nat) (A0 B0 X0 A1 B1 X1 : Int) (k0 : ∀ W : World, Calls Try.prog 27 #[.agg #[.int .u64 A0, .int .u64 B0, .bool false, .bool false, .bool false, .bool false, .bool false, .bool false, .bool false, .bool false, .bool false, .bool false, .bool false, .bool false, .int .u64 0, .int .u64 X0]] W (Makes (.bool true) W)) (k1 : ∀ W : World, Calls Try.prog 27 #[.agg #[.int .u64 A1, .int .u64 B1, .bool false, .bool false, .bool false, .bool false, .bool false, .bool false, .bool false, .bool false, .bool false, .bool false, .bool false, .bool false, .int .u64 0, .int .u64 X1]] W (Makes (.bool true) W)) (w : World) (R : Nat → Ln) (F : Nat → Nat) (_hk : k + 2 ≤ 8) (_ho : 16 * k = o) (hT : TlbAt w N R F) (e0 : R (k) = (A0, B0, X0)) (e1 : R (k + 1) = (A1, B1, X1))  :
    Calls Try.prog 28 #[.slice (some ⟨N, o, none⟩) 2 2, .func (.func 27) #[] #[]] w (fun e w' => e = .returned (.slice (some ⟨N, o, none⟩) 0 2) ∧ TlbAt w' N (zap R k 2) F ∧ Out1 N w w') := by
  have SS := cell_same
  have LB' := ltB_add
  have LS := ltB_self
  have LA' := alloc_reads
  have LH := alloc_holds
  have hN : N < w.heap.size := hT.here
  have r0 : w.rangeAt N (o) (lineI A0 B0 X0) := by
    have := hT.line (k) (by omega)
    rw [e0] at this
    rw [show o = 16 * (k) by omega]
    exact this
  have r1 : w.rangeAt N (o + 16) (lineI A1 B1 X1) := by
    have := hT.line (k + 1) (by omega)
    rw [e1] at this
    rw [show o + 16 = 16 * (k + 1) by omega]
    exact this
  have I := hide (fun W h0 => idx_c_yx N o A0 B0 X0  k0 W h0)
  have C0 := hide k0
  have C1 := hide k1
  have HT := hide hT
  clear hT k0 e0 k1 e1
  go_enter Try.func28, Try.ntmps28
  go_wp2_with (first | ((refine wpList_clear_lines rfl _ rfl N _ k 2 _ rfl (by omega) (by omega) (by omega) hTc ?_); intro wz hTz huz hsz) | ((refine wpList_load_line rfl _ rfl (N) (o + 16) rfl A1 B1 X1 ?_ ?_); (focus (repeat (first | with_reducible assumption | with_reducible refine rg_dr _ ?_ | with_reducible refine rg_d1 ?_ | with_reducible refine rg_al _ ?_ | (with_reducible refine rg_set ?_ ?_; focus (dsimp only; omega)) | (with_reducible apply rg_be; with_reducible assumption) | (with_reducible refine rg_bn (by with_reducible assumption) ?_ ?_; focus omega) | (with_reducible refine rg_out (by with_reducible assumption) ?_ ?_; focus omega))))) | ((refine wpList_store_box rfl _ _ _ rfl _ (A1) (B1) (X1) rfl rfl infoL ?_ ?_); (focus (repeat (first | with_reducible assumption | with_reducible refine o_dr _ ?_ | with_reducible refine o_d1 ?_ | with_reducible refine o_set ?_ | (with_reducible refine o_new ?_ ?_; (focus (simp)); (focus (simp))) | (with_reducible refine o_new ?_ ?_; (focus (simp [*]; done)); (focus (simp))) | (with_reducible refine o_new ?_ ?_; (focus (simp [*]; omega)); (focus (simp))) | with_reducible refine o_al _ ?_ | (with_reducible apply o_be; with_reducible assumption)))); intro ws hrs hbs hos hss) | ((refine wpList_load_line rfl _ rfl (_) (0) rfl A1 B1 X1 ?_ ?_); (focus (repeat (first | with_reducible assumption | with_reducible refine rg_dr _ ?_ | with_reducible refine rg_d1 ?_ | with_reducible refine rg_al _ ?_ | (with_reducible refine rg_set ?_ ?_; focus (dsimp only; omega)) | (with_reducible apply rg_be; with_reducible assumption) | (with_reducible refine rg_bn (by with_reducible assumption) ?_ ?_; focus omega) | (with_reducible refine rg_out (by with_reducible assumption) ?_ ?_; focus omega))))) | (go_at_call 29; (with_reducible refine (I.out _ ?_).mono ?_); (focus (repeat (first | with_reducible assumption | with_reducible refine rg_dr _ ?_ | with_reducible refine rg_d1 ?_ | with_reducible refine rg_al _ ?_ | (with_reducible refine rg_set ?_ ?_; focus (dsimp only; omega)) | (with_reducible apply rg_be; with_reducible assumption) | (with_reducible refine rg_bn (by with_reducible assumption) ?_ ?_; focus omega) | (with_reducible refine rg_out (by with_reducible assumption) ?_ ?_; focus omega)))); rintro e wi ⟨rfl, hbi⟩; have hri := below_reads hbi; have hhi := below_holds hbi; obtain ⟨mi, hsi⟩ := below_grew hbi; have hTi := hide (ta_be hbi HT.out)) | (go_at_call 27; (with_reducible refine (C1.out _).mono ?_); rintro e wc ⟨rfl, hbc⟩; have hrc := below_reads hbc; have hhc := below_holds hbc; obtain ⟨mc, hsc⟩ := below_grew hbc; have hTc := (show TlbAt wc N R F from (by have hTi := hTi.out; repeat (first | with_reducible assumption | with_reducible refine ta_dr _ ?_ | with_reducible refine ta_d1 ?_ | with_reducible refine ta_al _ ?_ | (with_reducible refine ta_set ?_ ?_; focus (dsimp only; omega)) | (with_reducible apply ta_be; with_reducible assumption) | (with_reducible refine ta_bn (by with_reducible assumption) ?_ ?_; focus omega))))))
  refine wp_loop_rounds 2 ?_
  rw [rounds_succ]
  go_wp2_with (first | ((refine wpList_clear_lines rfl _ rfl N _ k 2 _ rfl (by omega) (by omega) (by omega) hTc ?_); intro wz hTz huz hsz) | ((refine wpList_load_line rfl _ rfl (N) (o + 16) rfl A1 B1 X1 ?_ ?_); (focus (repeat (first | with_reducible assumption | with_reducible refine rg_dr _ ?_ | with_reducible refine rg_d1 ?_ | with_reducible refine rg_al _ ?_ | (with_reducible refine rg_set ?_ ?_; focus (dsimp only; omega)) | (with_reducible apply rg_be; with_reducible assumption) | (with_reducible refine rg_bn (by with_reducible assumption) ?_ ?_; focus omega) | (with_reducible refine rg_out (by with_reducible assumption) ?_ ?_; focus omega))))) | ((refine wpList_store_box rfl _ _ _ rfl _ (A1) (B1) (X1) rfl rfl infoL ?_ ?_); (focus (repeat (first | with_reducible assumption | with_reducible refine o_dr _ ?_ | with_reducible refine o_d1 ?_ | with_reducible refine o_set ?_ | (with_reducible refine o_new ?_ ?_; (focus (simp)); (focus (simp))) | (with_reducible refine o_new ?_ ?_; (focus (simp [*]; done)); (focus (simp))) | (with_reducible refine o_new ?_ ?_; (focus (simp [*]; omega)); (focus (simp))) | with_reducible refine o_al _ ?_ | (with_reducible apply o_be; with_reducible assumption)))); intro ws hrs hbs hos hss) | ((refine wpList_load_line rfl _ rfl (_) (0) rfl A1 B1 X1 ?_ ?_); (focus (repeat (first | with_reducible assumption | with_reducible refine rg_dr _ ?_ | with_reducible refine rg_d1 ?_ | with_reducible refine rg_al _ ?_ | (with_reducible refine rg_set ?_ ?_; focus (dsimp only; omega)) | (with_reducible apply rg_be; with_reducible assumption) | (with_reducible refine rg_bn (by with_reducible assumption) ?_ ?_; focus omega) | (with_reducible refine rg_out (by with_reducible assumption) ?_ ?_; focus omega))))) | (go_at_call 29; (with_reducible refine (I.out _ ?_).mono ?_); (focus (repeat (first | with_reducible assumption | with_reducible refine rg_dr _ ?_ | with_reducible refine rg_d1 ?_ | with_reducible refine rg_al _ ?_ | (with_reducible refine rg_set ?_ ?_; focus (dsimp only; omega)) | (with_reducible apply rg_be; with_reducible assumption) | (with_reducible refine rg_bn (by with_reducible assumption) ?_ ?_; focus omega) | (with_reducible refine rg_out (by with_reducible assumption) ?_ ?_; focus omega)))); rintro e wi ⟨rfl, hbi⟩; have hri := below_reads hbi; have hhi := below_holds hbi; obtain ⟨mi, hsi⟩ := below_grew hbi; have hTi := hide (ta_be hbi HT.out)) | (go_at_call 27; (with_reducible refine (C1.out _).mono ?_); rintro e wc ⟨rfl, hbc⟩; have hrc := below_reads hbc; have hhc := below_holds hbc; obtain ⟨mc, hsc⟩ := below_grew hbc; have hTc := (show TlbAt wc N R F from (by have hTi := hTi.out; repeat (first | with_reducible assumption | with_reducible refine ta_dr _ ?_ | with_reducible refine ta_d1 ?_ | with_reducible refine ta_al _ ?_ | (with_reducible refine ta_set ?_ ?_; focus (dsimp only; omega)) | (with_reducible apply ta_be; with_reducible assumption) | (with_reducible refine ta_bn (by with_reducible assumption) ?_ ?_; focus omega))))))
  rw [rounds_succ]
  go_wp2_with (first | ((refine wpList_clear_lines rfl _ rfl N _ k 2 _ rfl (by omega) (by omega) (by omega) hTc ?_); intro wz hTz huz hsz) | ((refine wpList_load_line rfl _ rfl (N) (o + 16) rfl A1 B1 X1 ?_ ?_); (focus (repeat (first | with_reducible assumption | with_reducible refine rg_dr _ ?_ | with_reducible refine rg_d1 ?_ | with_reducible refine rg_al _ ?_ | (with_reducible refine rg_set ?_ ?_; focus (dsimp only; omega)) | (with_reducible apply rg_be; with_reducible assumption) | (with_reducible refine rg_bn (by with_reducible assumption) ?_ ?_; focus omega) | (with_reducible refine rg_out (by with_reducible assumption) ?_ ?_; focus omega))))) | ((refine wpList_store_box rfl _ _ _ rfl _ (A1) (B1) (X1) rfl rfl infoL ?_ ?_); (focus (repeat (first | with_reducible assumption | with_reducible refine o_dr _ ?_ | with_reducible refine o_d1 ?_ | with_reducible refine o_set ?_ | (with_reducible refine o_new ?_ ?_; (focus (simp)); (focus (simp))) | (with_reducible refine o_new ?_ ?_; (focus (simp [*]; done)); (focus (simp))) | (with_reducible refine o_new ?_ ?_; (focus (simp [*]; omega)); (focus (simp))) | with_reducible refine o_al _ ?_ | (with_reducible apply o_be; with_reducible assumption)))); intro ws hrs hbs hos hss) | ((refine wpList_load_line rfl _ rfl (_) (0) rfl A1 B1 X1 ?_ ?_); (focus (repeat (first | with_reducible assumption | with_reducible refine rg_dr _ ?_ | with_reducible refine rg_d1 ?_ | with_reducible refine rg_al _ ?_ | (with_reducible refine rg_set ?_ ?_; focus (dsimp only; omega)) | (with_reducible apply rg_be; with_reducible assumption) | (with_reducible refine rg_bn (by with_reducible assumption) ?_ ?_; focus omega) | (with_reducible refine rg_out (by with_reducible assumption) ?_ ?_; focus omega))))) | (go_at_call 29; (with_reducible refine (I.out _ ?_).mono ?_); (focus (repeat (first | with_reducible assumption | with_reducible refine rg_dr _ ?_ | with_reducible refine rg_d1 ?_ | with_reducible refine rg_al _ ?_ | (with_reducible refine rg_set ?_ ?_; focus (dsimp only; omega)) | (with_reducible apply rg_be; with_reducible assumption) | (with_reducible refine rg_bn (by with_reducible assumption) ?_ ?_; focus omega) | (with_reducible refine rg_out (by with_reducible assumption) ?_ ?_; focus omega)))); rintro e wi ⟨rfl, hbi⟩; have hri := below_reads hbi; have hhi := below_holds hbi; obtain ⟨mi, hsi⟩ := below_grew hbi; have hTi := hide (ta_be hbi HT.out)) | (go_at_call 27; (with_reducible refine (C1.out _).mono ?_); rintro e wc ⟨rfl, hbc⟩; have hrc := below_reads hbc; have hhc := below_holds hbc; obtain ⟨mc, hsc⟩ := below_grew hbc; have hTc := (show TlbAt wc N R F from (by have hTi := hTi.out; repeat (first | with_reducible assumption | with_reducible refine ta_dr _ ?_ | with_reducible refine ta_d1 ?_ | with_reducible refine ta_al _ ?_ | (with_reducible refine ta_set ?_ ?_; focus (dsimp only; omega)) | (with_reducible apply ta_be; with_reducible assumption) | (with_reducible refine ta_bn (by with_reducible assumption) ?_ ?_; focus omega))))))
  refine bodyPost_ret (v := .slice (some ⟨N, o, none⟩) 0 2) (by simp (maxDischargeDepth := 4) [results, Try.results28, go_sem, *]) rfl ?_
  have hTi := hTi.out
  refine ⟨rfl, ?_, ?_⟩
  · repeat (first | with_reducible assumption | with_reducible refine ta_dr _ ?_ | with_reducible refine ta_d1 ?_ | with_reducible refine ta_al _ ?_ | (with_reducible refine ta_set ?_ ?_; focus (dsimp only; omega)) | (with_reducible apply ta_be; with_reducible assumption) | (with_reducible refine ta_bn (by with_reducible assumption) ?_ ?_; focus omega))
  · repeat (first | with_reducible assumption | with_reducible exact Out1.refl _ _ | with_reducible refine u_dr _ ?_ | with_reducible refine u_d1 ?_ | with_reducible refine u_al _ ?_ | (with_reducible refine u_new _ ?_ ?_; focus (dsimp only; omega)) | (with_reducible refine Out1.trans ?_ (by with_reducible assumption)) | (with_reducible apply u_bh; with_reducible assumption) | (with_reducible refine u_be (by with_reducible assumption) ?_ ?_; focus omega))
end Go.Proofs.Ytikdoknfcikfgaa
