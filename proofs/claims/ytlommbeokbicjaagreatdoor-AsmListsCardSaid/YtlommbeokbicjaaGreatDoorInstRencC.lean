/-
  The document's Encode, shape by shape, over letters.
-/
import Derived.Test.YtlommbeokbicjaaGreatDoorInstRows
import Derived.Test.YtlommbeokbicjaaGreatDoorGIref
import Derived.Test.YtlommbeokbicjaaGreatDoorGInst
namespace Go.Proofs.YtlommbeokbicjaaGreatDoor
open Go.RowKit Words FieldMath InstMath

set_option maxRecDepth 100000 in
set_option maxHeartbeats 4000000 in
theorem renc_H0 (j : Nat) (hj : j < 69) (S : ByteArray) (a b c m a1 a2 a3 b1 b2 b3 c1 c2 c3 Fv Cv Ov F2 W0 O2 T0 V V0 V1 V2 : Int) (ha : ∀ W, Calls Tryz.prog 95 #[.int .i64 a] W (Quiet (.bool false) W)) (t0 : ∀ W, Calls Tryz.prog 96 #[.int .i64 m, .int .i64 0, .int .i64 6, .int .i64 20] W (Quiet (.int .u32 T0) W)) (hrow : ∀ W N, RowsAt W N → W.cell? ⟨N, j * 5, none⟩ = some (.string S) ∧ W.cell? ⟨N, j * 5 + 1, none⟩ = some (.int .u8 72) ∧ W.cell? ⟨N, j * 5 + 2, none⟩ = some (.int .u32 Cv) ∧ W.cell? ⟨N, j * 5 + 3, none⟩ = some (.int .u32 Fv) ∧ W.cell? ⟨N, j * 5 + 4, none⟩ = some (.int .u32 Ov)) (q0 : IntKind.u32.wrap (Fv * 4096) = F2) (q1 : IntKind.u32.wrap (Cv + F2) = W0) (q2 : bits .and .i64 a 31 = a1) (q3 : IntKind.u32.wrap a1 = a2) (q4 : IntKind.u32.wrap (a2 * 128) = a3) (q5 : bits .and .i64 b 31 = b1) (q6 : IntKind.u32.wrap b1 = b2) (q7 : IntKind.u32.wrap (b2 * 32768) = b3) (q8 : bits .and .i64 c 31 = c1) (q9 : IntKind.u32.wrap c1 = c2) (q10 : IntKind.u32.wrap (c2 * 1048576) = c3) (q11 : IntKind.u32.wrap (Ov * 67108864) = O2) (q12 : IntKind.u32.wrap (W0 + a3) = V0) (q13 : IntKind.u32.wrap (V0 + b3) = V1) (q14 : IntKind.u32.wrap (V1 + T0) = V2) (q15 : IntKind.u32.wrap (V2 + O2) = V) (w : World) :
    Calls Tryz.prog 69 #[.agg #[.int .i64 ((j : Int) + 1), .int .i64 a, .int .i64 b, .int .i64 c, .int .i64 m]] w (Makes (.tuple #[.int .u32 V, .bool false]) w) := by
  have hj1 : (j : Int) + 1 ≤ 69 := by omega
  have HRow := hide hrow
  clear hrow
  have Cha := hide ha
  have Ct0 := hide t0
  clear ha t0
  have SS := cell_same
  have LB' := ltB_add
  have LS := ltB_self
  have LA' := alloc_reads
  have LH := alloc_holds
  go_enter Tryz.func69, Tryz.ntmps69
  go_upto_region 21 with (first | (go_at_call 66; (with_reducible refine (rows_any _).mono ?_); rintro e wa ⟨N, rfl, hN, hba, hRa⟩; obtain ⟨r0, r1, r2, r3, r4⟩ := HRow.out _ _ hRa; have hra := below_reads hba; have hha := below_holds hba; obtain ⟨ma, hsa⟩ := below_grew hba))

  refine wp_abs (fun W => Below w.heap.size w W ∧ W.cell? ⟨w.heap.size, 1, none⟩ = some (.int .i64 a) ∧ W.cell? ⟨w.heap.size, 2, none⟩ = some (.int .i64 b) ∧ W.cell? ⟨w.heap.size + 1 + ma, 4, none⟩ = some (.int .u32 Ov)) ?_ ?_
  · refine ⟨?_, ?_, ?_, ?_⟩
    all_goals (first | with_reducible assumption | ((repeat (first | with_reducible assumption | with_reducible refine c_dr _ ?_ | with_reducible refine c_d1 ?_ | with_reducible refine c_al _ ?_ | (with_reducible refine c_set ?_ ?_; focus (dsimp only; omega)) | (with_reducible apply c_be; with_reducible assumption))); done) | ((repeat (first | with_reducible assumption | with_reducible refine o_dr _ ?_ | with_reducible refine o_d1 ?_ | with_reducible refine o_set ?_ | (with_reducible refine o_new ?_ ?_; (focus (simp)); (focus (simp))) | with_reducible refine o_al _ ?_ | (with_reducible apply o_be; with_reducible assumption))); done) | ((repeat (first | with_reducible assumption | with_reducible exact Below.refl _ _ | with_reducible refine Below.drew ?_ | with_reducible refine below_drewN ?_ _ | with_reducible refine bw_alloc ?_ _ | (with_reducible refine bw_set ?_ ?_ _; focus (dsimp only; omega)) | (with_reducible apply bw_behind; with_reducible assumption))); done) | (simp [go_sem, *]; omega) | (simp (maxDischargeDepth := 4) [go_sem, *]; done))
  rintro w0 ⟨hB0, c0, c1, c2⟩
  have y0 := behind_cell0 c0
  have y1 := behind_cell0 c1
  have y2 := behind_cell0 c2
  have hsome := Behind.any w0
  clear c0 c1 c2
  refine wp_region_behind w0 (by kernel_rfl) (by kernel_rfl) (Below.refl _ _) ?_
  repeat (go_big_quiet_step (first | (go_at_call 95; with_reducible first | exact behind_one0 Cha.out _) | (go_at_call 96; with_reducible first | exact behind_one0 Ct0.out _)))
  refine wpQuiet_nil ?_
  rintro _ ⟨y, rfl⟩
  have hBy := bw_behind y.below hB0
  have x0 := y0 y
  have x1 := y1 y
  have x2 := y2 y
  clear hsome y0 y1 y2
  obtain ⟨w1, hw1⟩ : ∃ W, W = y.world := ⟨_, rfl⟩
  rw [← hw1] at hBy x0 x1 x2 ⊢
  clear hw1 y hB0
  go_wp2
  refine bodyPost_ret (v := .tuple #[.int .u32 V, .bool false]) (by simp (maxDischargeDepth := 4) [results, Tryz.results69, go_sem, *]) rfl ?_
  refine ⟨rfl, ?_⟩
  repeat (first | with_reducible assumption | with_reducible exact Below.refl _ _ | with_reducible refine Below.drew ?_ | with_reducible refine below_drewN ?_ _ | with_reducible refine bw_alloc ?_ _ | (with_reducible refine bw_set ?_ ?_ _; focus (dsimp only; omega)) | (with_reducible apply bw_behind; with_reducible assumption))

set_option maxRecDepth 100000 in
set_option maxHeartbeats 4000000 in
theorem renc_H1 (j : Nat) (hj : j < 69) (S : ByteArray) (a b c m a1 a2 a3 b1 b2 b3 c1 c2 c3 Fv Cv Ov F2 W0 O2 T0 V V0 V1 V2 : Int) (ha : ∀ W, Calls Tryz.prog 95 #[.int .i64 a] W (Quiet (.bool true) W)) (hb : ∀ W, Calls Tryz.prog 95 #[.int .i64 b] W (Quiet (.bool false) W)) (t0 : ∀ W, Calls Tryz.prog 96 #[.int .i64 m, .int .i64 0, .int .i64 6, .int .i64 20] W (Quiet (.int .u32 T0) W)) (hrow : ∀ W N, RowsAt W N → W.cell? ⟨N, j * 5, none⟩ = some (.string S) ∧ W.cell? ⟨N, j * 5 + 1, none⟩ = some (.int .u8 72) ∧ W.cell? ⟨N, j * 5 + 2, none⟩ = some (.int .u32 Cv) ∧ W.cell? ⟨N, j * 5 + 3, none⟩ = some (.int .u32 Fv) ∧ W.cell? ⟨N, j * 5 + 4, none⟩ = some (.int .u32 Ov)) (q0 : IntKind.u32.wrap (Fv * 4096) = F2) (q1 : IntKind.u32.wrap (Cv + F2) = W0) (q2 : bits .and .i64 a 31 = a1) (q3 : IntKind.u32.wrap a1 = a2) (q4 : IntKind.u32.wrap (a2 * 128) = a3) (q5 : bits .and .i64 b 31 = b1) (q6 : IntKind.u32.wrap b1 = b2) (q7 : IntKind.u32.wrap (b2 * 32768) = b3) (q8 : bits .and .i64 c 31 = c1) (q9 : IntKind.u32.wrap c1 = c2) (q10 : IntKind.u32.wrap (c2 * 1048576) = c3) (q11 : IntKind.u32.wrap (Ov * 67108864) = O2) (q12 : IntKind.u32.wrap (W0 + a3) = V0) (q13 : IntKind.u32.wrap (V0 + b3) = V1) (q14 : IntKind.u32.wrap (V1 + T0) = V2) (q15 : IntKind.u32.wrap (V2 + O2) = V) (w : World) :
    Calls Tryz.prog 69 #[.agg #[.int .i64 ((j : Int) + 1), .int .i64 a, .int .i64 b, .int .i64 c, .int .i64 m]] w (Makes (.tuple #[.int .u32 V, .bool false]) w) := by
  have hj1 : (j : Int) + 1 ≤ 69 := by omega
  have HRow := hide hrow
  clear hrow
  have Cha := hide ha
  have Chb := hide hb
  have Ct0 := hide t0
  clear ha hb t0
  have SS := cell_same
  have LB' := ltB_add
  have LS := ltB_self
  have LA' := alloc_reads
  have LH := alloc_holds
  go_enter Tryz.func69, Tryz.ntmps69
  go_upto_region 21 with (first | (go_at_call 66; (with_reducible refine (rows_any _).mono ?_); rintro e wa ⟨N, rfl, hN, hba, hRa⟩; obtain ⟨r0, r1, r2, r3, r4⟩ := HRow.out _ _ hRa; have hra := below_reads hba; have hha := below_holds hba; obtain ⟨ma, hsa⟩ := below_grew hba))

  refine wp_abs (fun W => Below w.heap.size w W ∧ W.cell? ⟨w.heap.size, 1, none⟩ = some (.int .i64 a) ∧ W.cell? ⟨w.heap.size, 2, none⟩ = some (.int .i64 b) ∧ W.cell? ⟨w.heap.size + 1 + ma, 4, none⟩ = some (.int .u32 Ov)) ?_ ?_
  · refine ⟨?_, ?_, ?_, ?_⟩
    all_goals (first | with_reducible assumption | ((repeat (first | with_reducible assumption | with_reducible refine c_dr _ ?_ | with_reducible refine c_d1 ?_ | with_reducible refine c_al _ ?_ | (with_reducible refine c_set ?_ ?_; focus (dsimp only; omega)) | (with_reducible apply c_be; with_reducible assumption))); done) | ((repeat (first | with_reducible assumption | with_reducible refine o_dr _ ?_ | with_reducible refine o_d1 ?_ | with_reducible refine o_set ?_ | (with_reducible refine o_new ?_ ?_; (focus (simp)); (focus (simp))) | with_reducible refine o_al _ ?_ | (with_reducible apply o_be; with_reducible assumption))); done) | ((repeat (first | with_reducible assumption | with_reducible exact Below.refl _ _ | with_reducible refine Below.drew ?_ | with_reducible refine below_drewN ?_ _ | with_reducible refine bw_alloc ?_ _ | (with_reducible refine bw_set ?_ ?_ _; focus (dsimp only; omega)) | (with_reducible apply bw_behind; with_reducible assumption))); done) | (simp [go_sem, *]; omega) | (simp (maxDischargeDepth := 4) [go_sem, *]; done))
  rintro w0 ⟨hB0, c0, c1, c2⟩
  have y0 := behind_cell0 c0
  have y1 := behind_cell0 c1
  have y2 := behind_cell0 c2
  have hsome := Behind.any w0
  clear c0 c1 c2
  refine wp_region_behind w0 (by kernel_rfl) (by kernel_rfl) (Below.refl _ _) ?_
  repeat (go_big_quiet_step (first | (go_at_call 95; with_reducible first | exact behind_one0 Cha.out _ | exact behind_one0 Chb.out _) | (go_at_call 96; with_reducible first | exact behind_one0 Ct0.out _)))
  refine wpQuiet_nil ?_
  rintro _ ⟨y, rfl⟩
  have hBy := bw_behind y.below hB0
  have x0 := y0 y
  have x1 := y1 y
  have x2 := y2 y
  clear hsome y0 y1 y2
  obtain ⟨w1, hw1⟩ : ∃ W, W = y.world := ⟨_, rfl⟩
  rw [← hw1] at hBy x0 x1 x2 ⊢
  clear hw1 y hB0
  go_wp2
  refine bodyPost_ret (v := .tuple #[.int .u32 V, .bool false]) (by simp (maxDischargeDepth := 4) [results, Tryz.results69, go_sem, *]) rfl ?_
  refine ⟨rfl, ?_⟩
  repeat (first | with_reducible assumption | with_reducible exact Below.refl _ _ | with_reducible refine Below.drew ?_ | with_reducible refine below_drewN ?_ _ | with_reducible refine bw_alloc ?_ _ | (with_reducible refine bw_set ?_ ?_ _; focus (dsimp only; omega)) | (with_reducible apply bw_behind; with_reducible assumption))

set_option maxRecDepth 100000 in
set_option maxHeartbeats 4000000 in
theorem renc_H2 (j : Nat) (hj : j < 69) (S : ByteArray) (L : Bool) (a b c m a1 a2 a3 b1 b2 b3 c1 c2 c3 Fv Cv Ov F2 W0 O2 T0 V V0 V1 V2 : Int) (ha : ∀ W, Calls Tryz.prog 95 #[.int .i64 a] W (Quiet (.bool true) W)) (hb : ∀ W, Calls Tryz.prog 95 #[.int .i64 b] W (Quiet (.bool true) W)) (t0 : ∀ W, Calls Tryz.prog 96 #[.int .i64 m, .int .i64 0, .int .i64 6, .int .i64 20] W (Quiet (.int .u32 T0) W)) (hf : ∀ W, Calls Tryz.prog 97 #[.int .i64 m, .int .i64 6, .bool false] W (Quiet (.bool L) W)) (hrow : ∀ W N, RowsAt W N → W.cell? ⟨N, j * 5, none⟩ = some (.string S) ∧ W.cell? ⟨N, j * 5 + 1, none⟩ = some (.int .u8 72) ∧ W.cell? ⟨N, j * 5 + 2, none⟩ = some (.int .u32 Cv) ∧ W.cell? ⟨N, j * 5 + 3, none⟩ = some (.int .u32 Fv) ∧ W.cell? ⟨N, j * 5 + 4, none⟩ = some (.int .u32 Ov)) (q0 : IntKind.u32.wrap (Fv * 4096) = F2) (q1 : IntKind.u32.wrap (Cv + F2) = W0) (q2 : bits .and .i64 a 31 = a1) (q3 : IntKind.u32.wrap a1 = a2) (q4 : IntKind.u32.wrap (a2 * 128) = a3) (q5 : bits .and .i64 b 31 = b1) (q6 : IntKind.u32.wrap b1 = b2) (q7 : IntKind.u32.wrap (b2 * 32768) = b3) (q8 : bits .and .i64 c 31 = c1) (q9 : IntKind.u32.wrap c1 = c2) (q10 : IntKind.u32.wrap (c2 * 1048576) = c3) (q11 : IntKind.u32.wrap (Ov * 67108864) = O2) (q12 : IntKind.u32.wrap (W0 + a3) = V0) (q13 : IntKind.u32.wrap (V0 + b3) = V1) (q14 : IntKind.u32.wrap (V1 + T0) = V2) (q15 : IntKind.u32.wrap (V2 + O2) = V) (w : World) :
    Calls Tryz.prog 69 #[.agg #[.int .i64 ((j : Int) + 1), .int .i64 a, .int .i64 b, .int .i64 c, .int .i64 m]] w (Makes (.tuple #[.int .u32 V, .bool L]) w) := by
  have hj1 : (j : Int) + 1 ≤ 69 := by omega
  have HRow := hide hrow
  clear hrow
  have Cha := hide ha
  have Chb := hide hb
  have Ct0 := hide t0
  have Chf := hide hf
  clear ha hb t0 hf
  have SS := cell_same
  have LB' := ltB_add
  have LS := ltB_self
  have LA' := alloc_reads
  have LH := alloc_holds
  go_enter Tryz.func69, Tryz.ntmps69
  go_upto_region 21 with (first | (go_at_call 66; (with_reducible refine (rows_any _).mono ?_); rintro e wa ⟨N, rfl, hN, hba, hRa⟩; obtain ⟨r0, r1, r2, r3, r4⟩ := HRow.out _ _ hRa; have hra := below_reads hba; have hha := below_holds hba; obtain ⟨ma, hsa⟩ := below_grew hba))

  refine wp_abs (fun W => Below w.heap.size w W ∧ W.cell? ⟨w.heap.size, 1, none⟩ = some (.int .i64 a) ∧ W.cell? ⟨w.heap.size, 2, none⟩ = some (.int .i64 b) ∧ W.cell? ⟨w.heap.size + 1 + ma, 4, none⟩ = some (.int .u32 Ov)) ?_ ?_
  · refine ⟨?_, ?_, ?_, ?_⟩
    all_goals (first | with_reducible assumption | ((repeat (first | with_reducible assumption | with_reducible refine c_dr _ ?_ | with_reducible refine c_d1 ?_ | with_reducible refine c_al _ ?_ | (with_reducible refine c_set ?_ ?_; focus (dsimp only; omega)) | (with_reducible apply c_be; with_reducible assumption))); done) | ((repeat (first | with_reducible assumption | with_reducible refine o_dr _ ?_ | with_reducible refine o_d1 ?_ | with_reducible refine o_set ?_ | (with_reducible refine o_new ?_ ?_; (focus (simp)); (focus (simp))) | with_reducible refine o_al _ ?_ | (with_reducible apply o_be; with_reducible assumption))); done) | ((repeat (first | with_reducible assumption | with_reducible exact Below.refl _ _ | with_reducible refine Below.drew ?_ | with_reducible refine below_drewN ?_ _ | with_reducible refine bw_alloc ?_ _ | (with_reducible refine bw_set ?_ ?_ _; focus (dsimp only; omega)) | (with_reducible apply bw_behind; with_reducible assumption))); done) | (simp [go_sem, *]; omega) | (simp (maxDischargeDepth := 4) [go_sem, *]; done))
  rintro w0 ⟨hB0, c0, c1, c2⟩
  have y0 := behind_cell0 c0
  have y1 := behind_cell0 c1
  have y2 := behind_cell0 c2
  have hsome := Behind.any w0
  clear c0 c1 c2
  refine wp_region_behind w0 (by kernel_rfl) (by kernel_rfl) (Below.refl _ _) ?_
  repeat (go_big_quiet_step (first | (go_at_call 95; with_reducible first | exact behind_one0 Cha.out _ | exact behind_one0 Chb.out _) | (go_at_call 96; with_reducible first | exact behind_one0 Ct0.out _) | (go_at_call 97; with_reducible first | exact behind_one0 Chf.out _)))
  refine wpQuiet_nil ?_
  rintro _ ⟨y, rfl⟩
  have hBy := bw_behind y.below hB0
  have x0 := y0 y
  have x1 := y1 y
  have x2 := y2 y
  clear hsome y0 y1 y2
  obtain ⟨w1, hw1⟩ : ∃ W, W = y.world := ⟨_, rfl⟩
  rw [← hw1] at hBy x0 x1 x2 ⊢
  clear hw1 y hB0
  go_wp2
  refine bodyPost_ret (v := .tuple #[.int .u32 V, .bool L]) (by simp (maxDischargeDepth := 4) [results, Tryz.results69, go_sem, *]) rfl ?_
  refine ⟨rfl, ?_⟩
  repeat (first | with_reducible assumption | with_reducible exact Below.refl _ _ | with_reducible refine Below.drew ?_ | with_reducible refine below_drewN ?_ _ | with_reducible refine bw_alloc ?_ _ | (with_reducible refine bw_set ?_ ?_ _; focus (dsimp only; omega)) | (with_reducible apply bw_behind; with_reducible assumption))

set_option maxRecDepth 100000 in
set_option maxHeartbeats 4000000 in
theorem renc_S0 (j : Nat) (hj : j < 69) (S : ByteArray) (a b c m a1 a2 a3 b1 b2 b3 c1 c2 c3 Fv Cv Ov F2 W0 T0 T1 V V0 V1 V2 : Int) (hb : ∀ W, Calls Tryz.prog 95 #[.int .i64 b] W (Quiet (.bool false) W)) (t0 : ∀ W, Calls Tryz.prog 96 #[.int .i64 m, .int .i64 0, .int .i64 5, .int .i64 7] W (Quiet (.int .u32 T0) W)) (t1 : ∀ W, Calls Tryz.prog 96 #[.int .i64 m, .int .i64 5, .int .i64 7, .int .i64 25] W (Quiet (.int .u32 T1) W)) (hrow : ∀ W N, RowsAt W N → W.cell? ⟨N, j * 5, none⟩ = some (.string S) ∧ W.cell? ⟨N, j * 5 + 1, none⟩ = some (.int .u8 83) ∧ W.cell? ⟨N, j * 5 + 2, none⟩ = some (.int .u32 Cv) ∧ W.cell? ⟨N, j * 5 + 3, none⟩ = some (.int .u32 Fv) ∧ W.cell? ⟨N, j * 5 + 4, none⟩ = some (.int .u32 Ov)) (q0 : IntKind.u32.wrap (Fv * 4096) = F2) (q1 : IntKind.u32.wrap (Cv + F2) = W0) (q2 : bits .and .i64 a 31 = a1) (q3 : IntKind.u32.wrap a1 = a2) (q4 : IntKind.u32.wrap (a2 * 128) = a3) (q5 : bits .and .i64 b 31 = b1) (q6 : IntKind.u32.wrap b1 = b2) (q7 : IntKind.u32.wrap (b2 * 32768) = b3) (q8 : bits .and .i64 c 31 = c1) (q9 : IntKind.u32.wrap c1 = c2) (q10 : IntKind.u32.wrap (c2 * 1048576) = c3) (q11 : IntKind.u32.wrap (W0 + b3) = V0) (q12 : IntKind.u32.wrap (V0 + c3) = V1) (q13 : IntKind.u32.wrap (V1 + T0) = V2) (q14 : IntKind.u32.wrap (V2 + T1) = V) (w : World) :
    Calls Tryz.prog 69 #[.agg #[.int .i64 ((j : Int) + 1), .int .i64 a, .int .i64 b, .int .i64 c, .int .i64 m]] w (Makes (.tuple #[.int .u32 V, .bool false]) w) := by
  have hj1 : (j : Int) + 1 ≤ 69 := by omega
  have HRow := hide hrow
  clear hrow
  have Chb := hide hb
  have Ct0 := hide t0
  have Ct1 := hide t1
  clear hb t0 t1
  have SS := cell_same
  have LB' := ltB_add
  have LS := ltB_self
  have LA' := alloc_reads
  have LH := alloc_holds
  go_enter Tryz.func69, Tryz.ntmps69
  go_upto_region 23 with (first | (go_at_call 66; (with_reducible refine (rows_any _).mono ?_); rintro e wa ⟨N, rfl, hN, hba, hRa⟩; obtain ⟨r0, r1, r2, r3, r4⟩ := HRow.out _ _ hRa; have hra := below_reads hba; have hha := below_holds hba; obtain ⟨ma, hsa⟩ := below_grew hba))

  refine wp_abs (fun W => Below w.heap.size w W ∧ W.cell? ⟨w.heap.size, 2, none⟩ = some (.int .i64 b) ∧ W.cell? ⟨w.heap.size, 3, none⟩ = some (.int .i64 c)) ?_ ?_
  · refine ⟨?_, ?_, ?_⟩
    all_goals (first | with_reducible assumption | ((repeat (first | with_reducible assumption | with_reducible refine c_dr _ ?_ | with_reducible refine c_d1 ?_ | with_reducible refine c_al _ ?_ | (with_reducible refine c_set ?_ ?_; focus (dsimp only; omega)) | (with_reducible apply c_be; with_reducible assumption))); done) | ((repeat (first | with_reducible assumption | with_reducible refine o_dr _ ?_ | with_reducible refine o_d1 ?_ | with_reducible refine o_set ?_ | (with_reducible refine o_new ?_ ?_; (focus (simp)); (focus (simp))) | with_reducible refine o_al _ ?_ | (with_reducible apply o_be; with_reducible assumption))); done) | ((repeat (first | with_reducible assumption | with_reducible exact Below.refl _ _ | with_reducible refine Below.drew ?_ | with_reducible refine below_drewN ?_ _ | with_reducible refine bw_alloc ?_ _ | (with_reducible refine bw_set ?_ ?_ _; focus (dsimp only; omega)) | (with_reducible apply bw_behind; with_reducible assumption))); done) | (simp [go_sem, *]; omega) | (simp (maxDischargeDepth := 4) [go_sem, *]; done))
  rintro w0 ⟨hB0, c0, c1⟩
  have y0 := behind_cell0 c0
  have y1 := behind_cell0 c1
  have hsome := Behind.any w0
  clear c0 c1
  refine wp_region_behind w0 (by kernel_rfl) (by kernel_rfl) (Below.refl _ _) ?_
  repeat (go_big_quiet_step (first | (go_at_call 95; with_reducible first | exact behind_one0 Chb.out _) | (go_at_call 96; with_reducible first | exact behind_one0 Ct0.out _ | exact behind_one0 Ct1.out _)))
  refine wpQuiet_nil ?_
  rintro _ ⟨y, rfl⟩
  have hBy := bw_behind y.below hB0
  have x0 := y0 y
  have x1 := y1 y
  clear hsome y0 y1
  obtain ⟨w1, hw1⟩ : ∃ W, W = y.world := ⟨_, rfl⟩
  rw [← hw1] at hBy x0 x1 ⊢
  clear hw1 y hB0
  go_wp2
  refine bodyPost_ret (v := .tuple #[.int .u32 V, .bool false]) (by simp (maxDischargeDepth := 4) [results, Tryz.results69, go_sem, *]) rfl ?_
  refine ⟨rfl, ?_⟩
  repeat (first | with_reducible assumption | with_reducible exact Below.refl _ _ | with_reducible refine Below.drew ?_ | with_reducible refine below_drewN ?_ _ | with_reducible refine bw_alloc ?_ _ | (with_reducible refine bw_set ?_ ?_ _; focus (dsimp only; omega)) | (with_reducible apply bw_behind; with_reducible assumption))

set_option maxRecDepth 100000 in
set_option maxHeartbeats 4000000 in
theorem renc_S1 (j : Nat) (hj : j < 69) (S : ByteArray) (a b c m a1 a2 a3 b1 b2 b3 c1 c2 c3 Fv Cv Ov F2 W0 T0 T1 V V0 V1 V2 : Int) (hb : ∀ W, Calls Tryz.prog 95 #[.int .i64 b] W (Quiet (.bool true) W)) (hc : ∀ W, Calls Tryz.prog 95 #[.int .i64 c] W (Quiet (.bool false) W)) (t0 : ∀ W, Calls Tryz.prog 96 #[.int .i64 m, .int .i64 0, .int .i64 5, .int .i64 7] W (Quiet (.int .u32 T0) W)) (t1 : ∀ W, Calls Tryz.prog 96 #[.int .i64 m, .int .i64 5, .int .i64 7, .int .i64 25] W (Quiet (.int .u32 T1) W)) (hrow : ∀ W N, RowsAt W N → W.cell? ⟨N, j * 5, none⟩ = some (.string S) ∧ W.cell? ⟨N, j * 5 + 1, none⟩ = some (.int .u8 83) ∧ W.cell? ⟨N, j * 5 + 2, none⟩ = some (.int .u32 Cv) ∧ W.cell? ⟨N, j * 5 + 3, none⟩ = some (.int .u32 Fv) ∧ W.cell? ⟨N, j * 5 + 4, none⟩ = some (.int .u32 Ov)) (q0 : IntKind.u32.wrap (Fv * 4096) = F2) (q1 : IntKind.u32.wrap (Cv + F2) = W0) (q2 : bits .and .i64 a 31 = a1) (q3 : IntKind.u32.wrap a1 = a2) (q4 : IntKind.u32.wrap (a2 * 128) = a3) (q5 : bits .and .i64 b 31 = b1) (q6 : IntKind.u32.wrap b1 = b2) (q7 : IntKind.u32.wrap (b2 * 32768) = b3) (q8 : bits .and .i64 c 31 = c1) (q9 : IntKind.u32.wrap c1 = c2) (q10 : IntKind.u32.wrap (c2 * 1048576) = c3) (q11 : IntKind.u32.wrap (W0 + b3) = V0) (q12 : IntKind.u32.wrap (V0 + c3) = V1) (q13 : IntKind.u32.wrap (V1 + T0) = V2) (q14 : IntKind.u32.wrap (V2 + T1) = V) (w : World) :
    Calls Tryz.prog 69 #[.agg #[.int .i64 ((j : Int) + 1), .int .i64 a, .int .i64 b, .int .i64 c, .int .i64 m]] w (Makes (.tuple #[.int .u32 V, .bool false]) w) := by
  have hj1 : (j : Int) + 1 ≤ 69 := by omega
  have HRow := hide hrow
  clear hrow
  have Chb := hide hb
  have Chc := hide hc
  have Ct0 := hide t0
  have Ct1 := hide t1
  clear hb hc t0 t1
  have SS := cell_same
  have LB' := ltB_add
  have LS := ltB_self
  have LA' := alloc_reads
  have LH := alloc_holds
  go_enter Tryz.func69, Tryz.ntmps69
  go_upto_region 23 with (first | (go_at_call 66; (with_reducible refine (rows_any _).mono ?_); rintro e wa ⟨N, rfl, hN, hba, hRa⟩; obtain ⟨r0, r1, r2, r3, r4⟩ := HRow.out _ _ hRa; have hra := below_reads hba; have hha := below_holds hba; obtain ⟨ma, hsa⟩ := below_grew hba))

  refine wp_abs (fun W => Below w.heap.size w W ∧ W.cell? ⟨w.heap.size, 2, none⟩ = some (.int .i64 b) ∧ W.cell? ⟨w.heap.size, 3, none⟩ = some (.int .i64 c)) ?_ ?_
  · refine ⟨?_, ?_, ?_⟩
    all_goals (first | with_reducible assumption | ((repeat (first | with_reducible assumption | with_reducible refine c_dr _ ?_ | with_reducible refine c_d1 ?_ | with_reducible refine c_al _ ?_ | (with_reducible refine c_set ?_ ?_; focus (dsimp only; omega)) | (with_reducible apply c_be; with_reducible assumption))); done) | ((repeat (first | with_reducible assumption | with_reducible refine o_dr _ ?_ | with_reducible refine o_d1 ?_ | with_reducible refine o_set ?_ | (with_reducible refine o_new ?_ ?_; (focus (simp)); (focus (simp))) | with_reducible refine o_al _ ?_ | (with_reducible apply o_be; with_reducible assumption))); done) | ((repeat (first | with_reducible assumption | with_reducible exact Below.refl _ _ | with_reducible refine Below.drew ?_ | with_reducible refine below_drewN ?_ _ | with_reducible refine bw_alloc ?_ _ | (with_reducible refine bw_set ?_ ?_ _; focus (dsimp only; omega)) | (with_reducible apply bw_behind; with_reducible assumption))); done) | (simp [go_sem, *]; omega) | (simp (maxDischargeDepth := 4) [go_sem, *]; done))
  rintro w0 ⟨hB0, c0, c1⟩
  have y0 := behind_cell0 c0
  have y1 := behind_cell0 c1
  have hsome := Behind.any w0
  clear c0 c1
  refine wp_region_behind w0 (by kernel_rfl) (by kernel_rfl) (Below.refl _ _) ?_
  repeat (go_big_quiet_step (first | (go_at_call 95; with_reducible first | exact behind_one0 Chb.out _ | exact behind_one0 Chc.out _) | (go_at_call 96; with_reducible first | exact behind_one0 Ct0.out _ | exact behind_one0 Ct1.out _)))
  refine wpQuiet_nil ?_
  rintro _ ⟨y, rfl⟩
  have hBy := bw_behind y.below hB0
  have x0 := y0 y
  have x1 := y1 y
  clear hsome y0 y1
  obtain ⟨w1, hw1⟩ : ∃ W, W = y.world := ⟨_, rfl⟩
  rw [← hw1] at hBy x0 x1 ⊢
  clear hw1 y hB0
  go_wp2
  refine bodyPost_ret (v := .tuple #[.int .u32 V, .bool false]) (by simp (maxDischargeDepth := 4) [results, Tryz.results69, go_sem, *]) rfl ?_
  refine ⟨rfl, ?_⟩
  repeat (first | with_reducible assumption | with_reducible exact Below.refl _ _ | with_reducible refine Below.drew ?_ | with_reducible refine below_drewN ?_ _ | with_reducible refine bw_alloc ?_ _ | (with_reducible refine bw_set ?_ ?_ _; focus (dsimp only; omega)) | (with_reducible apply bw_behind; with_reducible assumption))

set_option maxRecDepth 100000 in
set_option maxHeartbeats 4000000 in
theorem renc_S2 (j : Nat) (hj : j < 69) (S : ByteArray) (L : Bool) (a b c m a1 a2 a3 b1 b2 b3 c1 c2 c3 Fv Cv Ov F2 W0 T0 T1 V V0 V1 V2 : Int) (hb : ∀ W, Calls Tryz.prog 95 #[.int .i64 b] W (Quiet (.bool true) W)) (hc : ∀ W, Calls Tryz.prog 95 #[.int .i64 c] W (Quiet (.bool true) W)) (t0 : ∀ W, Calls Tryz.prog 96 #[.int .i64 m, .int .i64 0, .int .i64 5, .int .i64 7] W (Quiet (.int .u32 T0) W)) (t1 : ∀ W, Calls Tryz.prog 96 #[.int .i64 m, .int .i64 5, .int .i64 7, .int .i64 25] W (Quiet (.int .u32 T1) W)) (hf : ∀ W, Calls Tryz.prog 97 #[.int .i64 m, .int .i64 12, .bool true] W (Quiet (.bool L) W)) (hrow : ∀ W N, RowsAt W N → W.cell? ⟨N, j * 5, none⟩ = some (.string S) ∧ W.cell? ⟨N, j * 5 + 1, none⟩ = some (.int .u8 83) ∧ W.cell? ⟨N, j * 5 + 2, none⟩ = some (.int .u32 Cv) ∧ W.cell? ⟨N, j * 5 + 3, none⟩ = some (.int .u32 Fv) ∧ W.cell? ⟨N, j * 5 + 4, none⟩ = some (.int .u32 Ov)) (q0 : IntKind.u32.wrap (Fv * 4096) = F2) (q1 : IntKind.u32.wrap (Cv + F2) = W0) (q2 : bits .and .i64 a 31 = a1) (q3 : IntKind.u32.wrap a1 = a2) (q4 : IntKind.u32.wrap (a2 * 128) = a3) (q5 : bits .and .i64 b 31 = b1) (q6 : IntKind.u32.wrap b1 = b2) (q7 : IntKind.u32.wrap (b2 * 32768) = b3) (q8 : bits .and .i64 c 31 = c1) (q9 : IntKind.u32.wrap c1 = c2) (q10 : IntKind.u32.wrap (c2 * 1048576) = c3) (q11 : IntKind.u32.wrap (W0 + b3) = V0) (q12 : IntKind.u32.wrap (V0 + c3) = V1) (q13 : IntKind.u32.wrap (V1 + T0) = V2) (q14 : IntKind.u32.wrap (V2 + T1) = V) (w : World) :
    Calls Tryz.prog 69 #[.agg #[.int .i64 ((j : Int) + 1), .int .i64 a, .int .i64 b, .int .i64 c, .int .i64 m]] w (Makes (.tuple #[.int .u32 V, .bool L]) w) := by
  have hj1 : (j : Int) + 1 ≤ 69 := by omega
  have HRow := hide hrow
  clear hrow
  have Chb := hide hb
  have Chc := hide hc
  have Ct0 := hide t0
  have Ct1 := hide t1
  have Chf := hide hf
  clear hb hc t0 t1 hf
  have SS := cell_same
  have LB' := ltB_add
  have LS := ltB_self
  have LA' := alloc_reads
  have LH := alloc_holds
  go_enter Tryz.func69, Tryz.ntmps69
  go_upto_region 23 with (first | (go_at_call 66; (with_reducible refine (rows_any _).mono ?_); rintro e wa ⟨N, rfl, hN, hba, hRa⟩; obtain ⟨r0, r1, r2, r3, r4⟩ := HRow.out _ _ hRa; have hra := below_reads hba; have hha := below_holds hba; obtain ⟨ma, hsa⟩ := below_grew hba))

  refine wp_abs (fun W => Below w.heap.size w W ∧ W.cell? ⟨w.heap.size, 2, none⟩ = some (.int .i64 b) ∧ W.cell? ⟨w.heap.size, 3, none⟩ = some (.int .i64 c)) ?_ ?_
  · refine ⟨?_, ?_, ?_⟩
    all_goals (first | with_reducible assumption | ((repeat (first | with_reducible assumption | with_reducible refine c_dr _ ?_ | with_reducible refine c_d1 ?_ | with_reducible refine c_al _ ?_ | (with_reducible refine c_set ?_ ?_; focus (dsimp only; omega)) | (with_reducible apply c_be; with_reducible assumption))); done) | ((repeat (first | with_reducible assumption | with_reducible refine o_dr _ ?_ | with_reducible refine o_d1 ?_ | with_reducible refine o_set ?_ | (with_reducible refine o_new ?_ ?_; (focus (simp)); (focus (simp))) | with_reducible refine o_al _ ?_ | (with_reducible apply o_be; with_reducible assumption))); done) | ((repeat (first | with_reducible assumption | with_reducible exact Below.refl _ _ | with_reducible refine Below.drew ?_ | with_reducible refine below_drewN ?_ _ | with_reducible refine bw_alloc ?_ _ | (with_reducible refine bw_set ?_ ?_ _; focus (dsimp only; omega)) | (with_reducible apply bw_behind; with_reducible assumption))); done) | (simp [go_sem, *]; omega) | (simp (maxDischargeDepth := 4) [go_sem, *]; done))
  rintro w0 ⟨hB0, c0, c1⟩
  have y0 := behind_cell0 c0
  have y1 := behind_cell0 c1
  have hsome := Behind.any w0
  clear c0 c1
  refine wp_region_behind w0 (by kernel_rfl) (by kernel_rfl) (Below.refl _ _) ?_
  repeat (go_big_quiet_step (first | (go_at_call 95; with_reducible first | exact behind_one0 Chb.out _ | exact behind_one0 Chc.out _) | (go_at_call 96; with_reducible first | exact behind_one0 Ct0.out _ | exact behind_one0 Ct1.out _) | (go_at_call 97; with_reducible first | exact behind_one0 Chf.out _)))
  refine wpQuiet_nil ?_
  rintro _ ⟨y, rfl⟩
  have hBy := bw_behind y.below hB0
  have x0 := y0 y
  have x1 := y1 y
  clear hsome y0 y1
  obtain ⟨w1, hw1⟩ : ∃ W, W = y.world := ⟨_, rfl⟩
  rw [← hw1] at hBy x0 x1 ⊢
  clear hw1 y hB0
  go_wp2
  refine bodyPost_ret (v := .tuple #[.int .u32 V, .bool L]) (by simp (maxDischargeDepth := 4) [results, Tryz.results69, go_sem, *]) rfl ?_
  refine ⟨rfl, ?_⟩
  repeat (first | with_reducible assumption | with_reducible exact Below.refl _ _ | with_reducible refine Below.drew ?_ | with_reducible refine below_drewN ?_ _ | with_reducible refine bw_alloc ?_ _ | (with_reducible refine bw_set ?_ ?_ _; focus (dsimp only; omega)) | (with_reducible apply bw_behind; with_reducible assumption))

set_option maxRecDepth 100000 in
set_option maxHeartbeats 4000000 in
theorem renc_B0 (j : Nat) (hj : j < 69) (S : ByteArray) (a b c m a1 a2 a3 b1 b2 b3 c1 c2 c3 Fv Cv Ov F2 W0 T0 T1 T2 T3 V V0 V1 V2 V3 V4 : Int) (hb : ∀ W, Calls Tryz.prog 95 #[.int .i64 b] W (Quiet (.bool false) W)) (t0 : ∀ W, Calls Tryz.prog 96 #[.int .i64 m, .int .i64 1, .int .i64 4, .int .i64 8] W (Quiet (.int .u32 T0) W)) (t1 : ∀ W, Calls Tryz.prog 96 #[.int .i64 m, .int .i64 5, .int .i64 6, .int .i64 25] W (Quiet (.int .u32 T1) W)) (t2 : ∀ W, Calls Tryz.prog 96 #[.int .i64 m, .int .i64 11, .int .i64 1, .int .i64 7] W (Quiet (.int .u32 T2) W)) (t3 : ∀ W, Calls Tryz.prog 96 #[.int .i64 m, .int .i64 12, .int .i64 1, .int .i64 31] W (Quiet (.int .u32 T3) W)) (hrow : ∀ W N, RowsAt W N → W.cell? ⟨N, j * 5, none⟩ = some (.string S) ∧ W.cell? ⟨N, j * 5 + 1, none⟩ = some (.int .u8 66) ∧ W.cell? ⟨N, j * 5 + 2, none⟩ = some (.int .u32 Cv) ∧ W.cell? ⟨N, j * 5 + 3, none⟩ = some (.int .u32 Fv) ∧ W.cell? ⟨N, j * 5 + 4, none⟩ = some (.int .u32 Ov)) (q0 : IntKind.u32.wrap (Fv * 4096) = F2) (q1 : IntKind.u32.wrap (Cv + F2) = W0) (q2 : bits .and .i64 a 31 = a1) (q3 : IntKind.u32.wrap a1 = a2) (q4 : IntKind.u32.wrap (a2 * 128) = a3) (q5 : bits .and .i64 b 31 = b1) (q6 : IntKind.u32.wrap b1 = b2) (q7 : IntKind.u32.wrap (b2 * 32768) = b3) (q8 : bits .and .i64 c 31 = c1) (q9 : IntKind.u32.wrap c1 = c2) (q10 : IntKind.u32.wrap (c2 * 1048576) = c3) (q11 : IntKind.u32.wrap (W0 + b3) = V0) (q12 : IntKind.u32.wrap (V0 + c3) = V1) (q13 : IntKind.u32.wrap (V1 + T0) = V2) (q14 : IntKind.u32.wrap (V2 + T1) = V3) (q15 : IntKind.u32.wrap (V3 + T2) = V4) (q16 : IntKind.u32.wrap (V4 + T3) = V) (w : World) :
    Calls Tryz.prog 69 #[.agg #[.int .i64 ((j : Int) + 1), .int .i64 a, .int .i64 b, .int .i64 c, .int .i64 m]] w (Makes (.tuple #[.int .u32 V, .bool false]) w) := by
  have hj1 : (j : Int) + 1 ≤ 69 := by omega
  have HRow := hide hrow
  clear hrow
  have Chb := hide hb
  have Ct0 := hide t0
  have Ct1 := hide t1
  have Ct2 := hide t2
  have Ct3 := hide t3
  clear hb t0 t1 t2 t3
  have SS := cell_same
  have LB' := ltB_add
  have LS := ltB_self
  have LA' := alloc_reads
  have LH := alloc_holds
  go_enter Tryz.func69, Tryz.ntmps69
  go_upto_region 25 with (first | (go_at_call 66; (with_reducible refine (rows_any _).mono ?_); rintro e wa ⟨N, rfl, hN, hba, hRa⟩; obtain ⟨r0, r1, r2, r3, r4⟩ := HRow.out _ _ hRa; have hra := below_reads hba; have hha := below_holds hba; obtain ⟨ma, hsa⟩ := below_grew hba))

  refine wp_abs (fun W => Below w.heap.size w W ∧ W.cell? ⟨w.heap.size, 2, none⟩ = some (.int .i64 b) ∧ W.cell? ⟨w.heap.size, 3, none⟩ = some (.int .i64 c)) ?_ ?_
  · refine ⟨?_, ?_, ?_⟩
    all_goals (first | with_reducible assumption | ((repeat (first | with_reducible assumption | with_reducible refine c_dr _ ?_ | with_reducible refine c_d1 ?_ | with_reducible refine c_al _ ?_ | (with_reducible refine c_set ?_ ?_; focus (dsimp only; omega)) | (with_reducible apply c_be; with_reducible assumption))); done) | ((repeat (first | with_reducible assumption | with_reducible refine o_dr _ ?_ | with_reducible refine o_d1 ?_ | with_reducible refine o_set ?_ | (with_reducible refine o_new ?_ ?_; (focus (simp)); (focus (simp))) | with_reducible refine o_al _ ?_ | (with_reducible apply o_be; with_reducible assumption))); done) | ((repeat (first | with_reducible assumption | with_reducible exact Below.refl _ _ | with_reducible refine Below.drew ?_ | with_reducible refine below_drewN ?_ _ | with_reducible refine bw_alloc ?_ _ | (with_reducible refine bw_set ?_ ?_ _; focus (dsimp only; omega)) | (with_reducible apply bw_behind; with_reducible assumption))); done) | (simp [go_sem, *]; omega) | (simp (maxDischargeDepth := 4) [go_sem, *]; done))
  rintro w0 ⟨hB0, c0, c1⟩
  have y0 := behind_cell0 c0
  have y1 := behind_cell0 c1
  have hsome := Behind.any w0
  clear c0 c1
  refine wp_region_behind w0 (by kernel_rfl) (by kernel_rfl) (Below.refl _ _) ?_
  repeat (go_big_quiet_step (first | (go_at_call 95; with_reducible first | exact behind_one0 Chb.out _) | (go_at_call 96; with_reducible first | exact behind_one0 Ct0.out _ | exact behind_one0 Ct1.out _ | exact behind_one0 Ct2.out _ | exact behind_one0 Ct3.out _)))
  refine wpQuiet_nil ?_
  rintro _ ⟨y, rfl⟩
  have hBy := bw_behind y.below hB0
  have x0 := y0 y
  have x1 := y1 y
  clear hsome y0 y1
  obtain ⟨w1, hw1⟩ : ∃ W, W = y.world := ⟨_, rfl⟩
  rw [← hw1] at hBy x0 x1 ⊢
  clear hw1 y hB0
  go_wp2
  refine bodyPost_ret (v := .tuple #[.int .u32 V, .bool false]) (by simp (maxDischargeDepth := 4) [results, Tryz.results69, go_sem, *]) rfl ?_
  refine ⟨rfl, ?_⟩
  repeat (first | with_reducible assumption | with_reducible exact Below.refl _ _ | with_reducible refine Below.drew ?_ | with_reducible refine below_drewN ?_ _ | with_reducible refine bw_alloc ?_ _ | (with_reducible refine bw_set ?_ ?_ _; focus (dsimp only; omega)) | (with_reducible apply bw_behind; with_reducible assumption))

set_option maxRecDepth 100000 in
set_option maxHeartbeats 4000000 in
theorem renc_B1 (j : Nat) (hj : j < 69) (S : ByteArray) (a b c m a1 a2 a3 b1 b2 b3 c1 c2 c3 Fv Cv Ov F2 W0 T0 T1 T2 T3 V V0 V1 V2 V3 V4 : Int) (hb : ∀ W, Calls Tryz.prog 95 #[.int .i64 b] W (Quiet (.bool true) W)) (hc : ∀ W, Calls Tryz.prog 95 #[.int .i64 c] W (Quiet (.bool false) W)) (t0 : ∀ W, Calls Tryz.prog 96 #[.int .i64 m, .int .i64 1, .int .i64 4, .int .i64 8] W (Quiet (.int .u32 T0) W)) (t1 : ∀ W, Calls Tryz.prog 96 #[.int .i64 m, .int .i64 5, .int .i64 6, .int .i64 25] W (Quiet (.int .u32 T1) W)) (t2 : ∀ W, Calls Tryz.prog 96 #[.int .i64 m, .int .i64 11, .int .i64 1, .int .i64 7] W (Quiet (.int .u32 T2) W)) (t3 : ∀ W, Calls Tryz.prog 96 #[.int .i64 m, .int .i64 12, .int .i64 1, .int .i64 31] W (Quiet (.int .u32 T3) W)) (hrow : ∀ W N, RowsAt W N → W.cell? ⟨N, j * 5, none⟩ = some (.string S) ∧ W.cell? ⟨N, j * 5 + 1, none⟩ = some (.int .u8 66) ∧ W.cell? ⟨N, j * 5 + 2, none⟩ = some (.int .u32 Cv) ∧ W.cell? ⟨N, j * 5 + 3, none⟩ = some (.int .u32 Fv) ∧ W.cell? ⟨N, j * 5 + 4, none⟩ = some (.int .u32 Ov)) (q0 : IntKind.u32.wrap (Fv * 4096) = F2) (q1 : IntKind.u32.wrap (Cv + F2) = W0) (q2 : bits .and .i64 a 31 = a1) (q3 : IntKind.u32.wrap a1 = a2) (q4 : IntKind.u32.wrap (a2 * 128) = a3) (q5 : bits .and .i64 b 31 = b1) (q6 : IntKind.u32.wrap b1 = b2) (q7 : IntKind.u32.wrap (b2 * 32768) = b3) (q8 : bits .and .i64 c 31 = c1) (q9 : IntKind.u32.wrap c1 = c2) (q10 : IntKind.u32.wrap (c2 * 1048576) = c3) (q11 : IntKind.u32.wrap (W0 + b3) = V0) (q12 : IntKind.u32.wrap (V0 + c3) = V1) (q13 : IntKind.u32.wrap (V1 + T0) = V2) (q14 : IntKind.u32.wrap (V2 + T1) = V3) (q15 : IntKind.u32.wrap (V3 + T2) = V4) (q16 : IntKind.u32.wrap (V4 + T3) = V) (w : World) :
    Calls Tryz.prog 69 #[.agg #[.int .i64 ((j : Int) + 1), .int .i64 a, .int .i64 b, .int .i64 c, .int .i64 m]] w (Makes (.tuple #[.int .u32 V, .bool false]) w) := by
  have hj1 : (j : Int) + 1 ≤ 69 := by omega
  have HRow := hide hrow
  clear hrow
  have Chb := hide hb
  have Chc := hide hc
  have Ct0 := hide t0
  have Ct1 := hide t1
  have Ct2 := hide t2
  have Ct3 := hide t3
  clear hb hc t0 t1 t2 t3
  have SS := cell_same
  have LB' := ltB_add
  have LS := ltB_self
  have LA' := alloc_reads
  have LH := alloc_holds
  go_enter Tryz.func69, Tryz.ntmps69
  go_upto_region 25 with (first | (go_at_call 66; (with_reducible refine (rows_any _).mono ?_); rintro e wa ⟨N, rfl, hN, hba, hRa⟩; obtain ⟨r0, r1, r2, r3, r4⟩ := HRow.out _ _ hRa; have hra := below_reads hba; have hha := below_holds hba; obtain ⟨ma, hsa⟩ := below_grew hba))

  refine wp_abs (fun W => Below w.heap.size w W ∧ W.cell? ⟨w.heap.size, 2, none⟩ = some (.int .i64 b) ∧ W.cell? ⟨w.heap.size, 3, none⟩ = some (.int .i64 c)) ?_ ?_
  · refine ⟨?_, ?_, ?_⟩
    all_goals (first | with_reducible assumption | ((repeat (first | with_reducible assumption | with_reducible refine c_dr _ ?_ | with_reducible refine c_d1 ?_ | with_reducible refine c_al _ ?_ | (with_reducible refine c_set ?_ ?_; focus (dsimp only; omega)) | (with_reducible apply c_be; with_reducible assumption))); done) | ((repeat (first | with_reducible assumption | with_reducible refine o_dr _ ?_ | with_reducible refine o_d1 ?_ | with_reducible refine o_set ?_ | (with_reducible refine o_new ?_ ?_; (focus (simp)); (focus (simp))) | with_reducible refine o_al _ ?_ | (with_reducible apply o_be; with_reducible assumption))); done) | ((repeat (first | with_reducible assumption | with_reducible exact Below.refl _ _ | with_reducible refine Below.drew ?_ | with_reducible refine below_drewN ?_ _ | with_reducible refine bw_alloc ?_ _ | (with_reducible refine bw_set ?_ ?_ _; focus (dsimp only; omega)) | (with_reducible apply bw_behind; with_reducible assumption))); done) | (simp [go_sem, *]; omega) | (simp (maxDischargeDepth := 4) [go_sem, *]; done))
  rintro w0 ⟨hB0, c0, c1⟩
  have y0 := behind_cell0 c0
  have y1 := behind_cell0 c1
  have hsome := Behind.any w0
  clear c0 c1
  refine wp_region_behind w0 (by kernel_rfl) (by kernel_rfl) (Below.refl _ _) ?_
  repeat (go_big_quiet_step (first | (go_at_call 95; with_reducible first | exact behind_one0 Chb.out _ | exact behind_one0 Chc.out _) | (go_at_call 96; with_reducible first | exact behind_one0 Ct0.out _ | exact behind_one0 Ct1.out _ | exact behind_one0 Ct2.out _ | exact behind_one0 Ct3.out _)))
  refine wpQuiet_nil ?_
  rintro _ ⟨y, rfl⟩
  have hBy := bw_behind y.below hB0
  have x0 := y0 y
  have x1 := y1 y
  clear hsome y0 y1
  obtain ⟨w1, hw1⟩ : ∃ W, W = y.world := ⟨_, rfl⟩
  rw [← hw1] at hBy x0 x1 ⊢
  clear hw1 y hB0
  go_wp2
  refine bodyPost_ret (v := .tuple #[.int .u32 V, .bool false]) (by simp (maxDischargeDepth := 4) [results, Tryz.results69, go_sem, *]) rfl ?_
  refine ⟨rfl, ?_⟩
  repeat (first | with_reducible assumption | with_reducible exact Below.refl _ _ | with_reducible refine Below.drew ?_ | with_reducible refine below_drewN ?_ _ | with_reducible refine bw_alloc ?_ _ | (with_reducible refine bw_set ?_ ?_ _; focus (dsimp only; omega)) | (with_reducible apply bw_behind; with_reducible assumption))

set_option maxRecDepth 100000 in
set_option maxHeartbeats 4000000 in
theorem renc_B2 (j : Nat) (hj : j < 69) (S : ByteArray) (a b c m a1 a2 a3 b1 b2 b3 c1 c2 c3 Fv Cv Ov F2 W0 T0 T1 T2 T3 V V0 V1 V2 V3 V4 : Int) (hb : ∀ W, Calls Tryz.prog 95 #[.int .i64 b] W (Quiet (.bool true) W)) (hc : ∀ W, Calls Tryz.prog 95 #[.int .i64 c] W (Quiet (.bool true) W)) (t0 : ∀ W, Calls Tryz.prog 96 #[.int .i64 m, .int .i64 1, .int .i64 4, .int .i64 8] W (Quiet (.int .u32 T0) W)) (t1 : ∀ W, Calls Tryz.prog 96 #[.int .i64 m, .int .i64 5, .int .i64 6, .int .i64 25] W (Quiet (.int .u32 T1) W)) (t2 : ∀ W, Calls Tryz.prog 96 #[.int .i64 m, .int .i64 11, .int .i64 1, .int .i64 7] W (Quiet (.int .u32 T2) W)) (t3 : ∀ W, Calls Tryz.prog 96 #[.int .i64 m, .int .i64 12, .int .i64 1, .int .i64 31] W (Quiet (.int .u32 T3) W)) (hf : ∀ W, Calls Tryz.prog 97 #[.int .i64 m, .int .i64 13, .bool true] W (Quiet (.bool false) W)) (hrow : ∀ W N, RowsAt W N → W.cell? ⟨N, j * 5, none⟩ = some (.string S) ∧ W.cell? ⟨N, j * 5 + 1, none⟩ = some (.int .u8 66) ∧ W.cell? ⟨N, j * 5 + 2, none⟩ = some (.int .u32 Cv) ∧ W.cell? ⟨N, j * 5 + 3, none⟩ = some (.int .u32 Fv) ∧ W.cell? ⟨N, j * 5 + 4, none⟩ = some (.int .u32 Ov)) (q0 : IntKind.u32.wrap (Fv * 4096) = F2) (q1 : IntKind.u32.wrap (Cv + F2) = W0) (q2 : bits .and .i64 a 31 = a1) (q3 : IntKind.u32.wrap a1 = a2) (q4 : IntKind.u32.wrap (a2 * 128) = a3) (q5 : bits .and .i64 b 31 = b1) (q6 : IntKind.u32.wrap b1 = b2) (q7 : IntKind.u32.wrap (b2 * 32768) = b3) (q8 : bits .and .i64 c 31 = c1) (q9 : IntKind.u32.wrap c1 = c2) (q10 : IntKind.u32.wrap (c2 * 1048576) = c3) (q11 : IntKind.u32.wrap (W0 + b3) = V0) (q12 : IntKind.u32.wrap (V0 + c3) = V1) (q13 : IntKind.u32.wrap (V1 + T0) = V2) (q14 : IntKind.u32.wrap (V2 + T1) = V3) (q15 : IntKind.u32.wrap (V3 + T2) = V4) (q16 : IntKind.u32.wrap (V4 + T3) = V) (w : World) :
    Calls Tryz.prog 69 #[.agg #[.int .i64 ((j : Int) + 1), .int .i64 a, .int .i64 b, .int .i64 c, .int .i64 m]] w (Makes (.tuple #[.int .u32 V, .bool false]) w) := by
  have hj1 : (j : Int) + 1 ≤ 69 := by omega
  have HRow := hide hrow
  clear hrow
  have Chb := hide hb
  have Chc := hide hc
  have Ct0 := hide t0
  have Ct1 := hide t1
  have Ct2 := hide t2
  have Ct3 := hide t3
  have Chf := hide hf
  clear hb hc t0 t1 t2 t3 hf
  have SS := cell_same
  have LB' := ltB_add
  have LS := ltB_self
  have LA' := alloc_reads
  have LH := alloc_holds
  go_enter Tryz.func69, Tryz.ntmps69
  go_upto_region 25 with (first | (go_at_call 66; (with_reducible refine (rows_any _).mono ?_); rintro e wa ⟨N, rfl, hN, hba, hRa⟩; obtain ⟨r0, r1, r2, r3, r4⟩ := HRow.out _ _ hRa; have hra := below_reads hba; have hha := below_holds hba; obtain ⟨ma, hsa⟩ := below_grew hba))

  refine wp_abs (fun W => Below w.heap.size w W ∧ W.cell? ⟨w.heap.size, 2, none⟩ = some (.int .i64 b) ∧ W.cell? ⟨w.heap.size, 3, none⟩ = some (.int .i64 c)) ?_ ?_
  · refine ⟨?_, ?_, ?_⟩
    all_goals (first | with_reducible assumption | ((repeat (first | with_reducible assumption | with_reducible refine c_dr _ ?_ | with_reducible refine c_d1 ?_ | with_reducible refine c_al _ ?_ | (with_reducible refine c_set ?_ ?_; focus (dsimp only; omega)) | (with_reducible apply c_be; with_reducible assumption))); done) | ((repeat (first | with_reducible assumption | with_reducible refine o_dr _ ?_ | with_reducible refine o_d1 ?_ | with_reducible refine o_set ?_ | (with_reducible refine o_new ?_ ?_; (focus (simp)); (focus (simp))) | with_reducible refine o_al _ ?_ | (with_reducible apply o_be; with_reducible assumption))); done) | ((repeat (first | with_reducible assumption | with_reducible exact Below.refl _ _ | with_reducible refine Below.drew ?_ | with_reducible refine below_drewN ?_ _ | with_reducible refine bw_alloc ?_ _ | (with_reducible refine bw_set ?_ ?_ _; focus (dsimp only; omega)) | (with_reducible apply bw_behind; with_reducible assumption))); done) | (simp [go_sem, *]; omega) | (simp (maxDischargeDepth := 4) [go_sem, *]; done))
  rintro w0 ⟨hB0, c0, c1⟩
  have y0 := behind_cell0 c0
  have y1 := behind_cell0 c1
  have hsome := Behind.any w0
  clear c0 c1
  refine wp_region_behind w0 (by kernel_rfl) (by kernel_rfl) (Below.refl _ _) ?_
  repeat (go_big_quiet_step (first | (go_at_call 95; with_reducible first | exact behind_one0 Chb.out _ | exact behind_one0 Chc.out _) | (go_at_call 96; with_reducible first | exact behind_one0 Ct0.out _ | exact behind_one0 Ct1.out _ | exact behind_one0 Ct2.out _ | exact behind_one0 Ct3.out _) | (go_at_call 97; with_reducible first | exact behind_one0 Chf.out _)))
  refine wpQuiet_nil ?_
  rintro _ ⟨y, rfl⟩
  have hBy := bw_behind y.below hB0
  have x0 := y0 y
  have x1 := y1 y
  clear hsome y0 y1
  obtain ⟨w1, hw1⟩ : ∃ W, W = y.world := ⟨_, rfl⟩
  rw [← hw1] at hBy x0 x1 ⊢
  clear hw1 y hB0
  go_wp2
  refine bodyPost_ret (v := .tuple #[.int .u32 V, .bool false]) (by simp (maxDischargeDepth := 4) [results, Tryz.results69, go_sem, *]) rfl ?_
  refine ⟨rfl, ?_⟩
  repeat (first | with_reducible assumption | with_reducible exact Below.refl _ _ | with_reducible refine Below.drew ?_ | with_reducible refine below_drewN ?_ _ | with_reducible refine bw_alloc ?_ _ | (with_reducible refine bw_set ?_ ?_ _; focus (dsimp only; omega)) | (with_reducible apply bw_behind; with_reducible assumption))

set_option maxRecDepth 100000 in
set_option maxHeartbeats 4000000 in
theorem renc_B3 (j : Nat) (hj : j < 69) (S : ByteArray) (L : Bool) (a b c m a1 a2 a3 b1 b2 b3 c1 c2 c3 Fv Cv Ov F2 W0 T0 T1 T2 T3 V V0 V1 V2 V3 V4 M1 : Int) (hb : ∀ W, Calls Tryz.prog 95 #[.int .i64 b] W (Quiet (.bool true) W)) (hc : ∀ W, Calls Tryz.prog 95 #[.int .i64 c] W (Quiet (.bool true) W)) (t0 : ∀ W, Calls Tryz.prog 96 #[.int .i64 m, .int .i64 1, .int .i64 4, .int .i64 8] W (Quiet (.int .u32 T0) W)) (t1 : ∀ W, Calls Tryz.prog 96 #[.int .i64 m, .int .i64 5, .int .i64 6, .int .i64 25] W (Quiet (.int .u32 T1) W)) (t2 : ∀ W, Calls Tryz.prog 96 #[.int .i64 m, .int .i64 11, .int .i64 1, .int .i64 7] W (Quiet (.int .u32 T2) W)) (t3 : ∀ W, Calls Tryz.prog 96 #[.int .i64 m, .int .i64 12, .int .i64 1, .int .i64 31] W (Quiet (.int .u32 T3) W)) (hf : ∀ W, Calls Tryz.prog 97 #[.int .i64 m, .int .i64 13, .bool true] W (Quiet (.bool true) W)) (hrow : ∀ W N, RowsAt W N → W.cell? ⟨N, j * 5, none⟩ = some (.string S) ∧ W.cell? ⟨N, j * 5 + 1, none⟩ = some (.int .u8 66) ∧ W.cell? ⟨N, j * 5 + 2, none⟩ = some (.int .u32 Cv) ∧ W.cell? ⟨N, j * 5 + 3, none⟩ = some (.int .u32 Fv) ∧ W.cell? ⟨N, j * 5 + 4, none⟩ = some (.int .u32 Ov)) (q0 : IntKind.u32.wrap (Fv * 4096) = F2) (q1 : IntKind.u32.wrap (Cv + F2) = W0) (q2 : bits .and .i64 a 31 = a1) (q3 : IntKind.u32.wrap a1 = a2) (q4 : IntKind.u32.wrap (a2 * 128) = a3) (q5 : bits .and .i64 b 31 = b1) (q6 : IntKind.u32.wrap b1 = b2) (q7 : IntKind.u32.wrap (b2 * 32768) = b3) (q8 : bits .and .i64 c 31 = c1) (q9 : IntKind.u32.wrap c1 = c2) (q10 : IntKind.u32.wrap (c2 * 1048576) = c3) (q11 : IntKind.u32.wrap (W0 + b3) = V0) (q12 : IntKind.u32.wrap (V0 + c3) = V1) (q13 : IntKind.u32.wrap (V1 + T0) = V2) (q14 : IntKind.u32.wrap (V2 + T1) = V3) (q15 : IntKind.u32.wrap (V3 + T2) = V4) (q16 : IntKind.u32.wrap (V4 + T3) = V) (y1 : m.tmod 2 = M1) (y2 : (M1 == 0) = L) (w : World) :
    Calls Tryz.prog 69 #[.agg #[.int .i64 ((j : Int) + 1), .int .i64 a, .int .i64 b, .int .i64 c, .int .i64 m]] w (Makes (.tuple #[.int .u32 V, .bool L]) w) := by
  have hj1 : (j : Int) + 1 ≤ 69 := by omega
  have HRow := hide hrow
  clear hrow
  have Chb := hide hb
  have Chc := hide hc
  have Ct0 := hide t0
  have Ct1 := hide t1
  have Ct2 := hide t2
  have Ct3 := hide t3
  have Chf := hide hf
  clear hb hc t0 t1 t2 t3 hf
  have SS := cell_same
  have LB' := ltB_add
  have LS := ltB_self
  have LA' := alloc_reads
  have LH := alloc_holds
  go_enter Tryz.func69, Tryz.ntmps69
  go_upto_region 25 with (first | (go_at_call 66; (with_reducible refine (rows_any _).mono ?_); rintro e wa ⟨N, rfl, hN, hba, hRa⟩; obtain ⟨r0, r1, r2, r3, r4⟩ := HRow.out _ _ hRa; have hra := below_reads hba; have hha := below_holds hba; obtain ⟨ma, hsa⟩ := below_grew hba))

  refine wp_abs (fun W => Below w.heap.size w W ∧ W.cell? ⟨w.heap.size, 2, none⟩ = some (.int .i64 b) ∧ W.cell? ⟨w.heap.size, 3, none⟩ = some (.int .i64 c)) ?_ ?_
  · refine ⟨?_, ?_, ?_⟩
    all_goals (first | with_reducible assumption | ((repeat (first | with_reducible assumption | with_reducible refine c_dr _ ?_ | with_reducible refine c_d1 ?_ | with_reducible refine c_al _ ?_ | (with_reducible refine c_set ?_ ?_; focus (dsimp only; omega)) | (with_reducible apply c_be; with_reducible assumption))); done) | ((repeat (first | with_reducible assumption | with_reducible refine o_dr _ ?_ | with_reducible refine o_d1 ?_ | with_reducible refine o_set ?_ | (with_reducible refine o_new ?_ ?_; (focus (simp)); (focus (simp))) | with_reducible refine o_al _ ?_ | (with_reducible apply o_be; with_reducible assumption))); done) | ((repeat (first | with_reducible assumption | with_reducible exact Below.refl _ _ | with_reducible refine Below.drew ?_ | with_reducible refine below_drewN ?_ _ | with_reducible refine bw_alloc ?_ _ | (with_reducible refine bw_set ?_ ?_ _; focus (dsimp only; omega)) | (with_reducible apply bw_behind; with_reducible assumption))); done) | (simp [go_sem, *]; omega) | (simp (maxDischargeDepth := 4) [go_sem, *]; done))
  rintro w0 ⟨hB0, c0, c1⟩
  have y0 := behind_cell0 c0
  have y1 := behind_cell0 c1
  have hsome := Behind.any w0
  clear c0 c1
  refine wp_region_behind w0 (by kernel_rfl) (by kernel_rfl) (Below.refl _ _) ?_
  repeat (go_big_quiet_step (first | (go_at_call 95; with_reducible first | exact behind_one0 Chb.out _ | exact behind_one0 Chc.out _) | (go_at_call 96; with_reducible first | exact behind_one0 Ct0.out _ | exact behind_one0 Ct1.out _ | exact behind_one0 Ct2.out _ | exact behind_one0 Ct3.out _) | (go_at_call 97; with_reducible first | exact behind_one0 Chf.out _)))
  refine wpQuiet_nil ?_
  rintro _ ⟨y, rfl⟩
  have hBy := bw_behind y.below hB0
  have x0 := y0 y
  have x1 := y1 y
  clear hsome y0 y1
  obtain ⟨w1, hw1⟩ : ∃ W, W = y.world := ⟨_, rfl⟩
  rw [← hw1] at hBy x0 x1 ⊢
  clear hw1 y hB0
  go_wp2
  refine bodyPost_ret (v := .tuple #[.int .u32 V, .bool L]) (by simp (maxDischargeDepth := 4) [results, Tryz.results69, go_sem, *]) rfl ?_
  refine ⟨rfl, ?_⟩
  repeat (first | with_reducible assumption | with_reducible exact Below.refl _ _ | with_reducible refine Below.drew ?_ | with_reducible refine below_drewN ?_ _ | with_reducible refine bw_alloc ?_ _ | (with_reducible refine bw_set ?_ ?_ _; focus (dsimp only; omega)) | (with_reducible apply bw_behind; with_reducible assumption))
end Go.Proofs.YtlommbeokbicjaaGreatDoor
