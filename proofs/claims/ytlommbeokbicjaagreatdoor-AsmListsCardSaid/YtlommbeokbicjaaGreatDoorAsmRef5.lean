/-
  The document's text of a word that was decoded.
-/
import Derived.Test.YtlommbeokbicjaaGreatDoorAsmRef4
import Derived.Test.YtlommbeokbicjaaGreatDoorInstDoc
import Derived.Deep.DeepCutAuto
namespace Go.Proofs.YtlommbeokbicjaaGreatDoor
open Go.RowKit InstMath AsmMath
open Go.Lib (itoa)

set_option maxRecDepth 100000 in
set_option maxHeartbeats 8000000 in
theorem rtext_R (j : Nat) (hj : j < 69) (a b c m V : Int) (hs : shp (j + 1) = 82) (Na Da Aa Ba Ma Z1 Z2 Z3 Z4 Z5 Z6 : ByteArray) (hn : nameB (j + 1) = Na)
    (ce : ∀ W, Calls Tryz.prog 69 #[.agg #[.int .i64 ((j : Int) + 1), .int .i64 a, .int .i64 b, .int .i64 c, .int .i64 m]] W (Makes (.tuple #[.int .u32 V, .bool true]) W))
    (ca : ∀ W, Calls Tryz.prog 70 #[.int .i64 a] W (Makes (.string Da) W)) (cb : ∀ W, Calls Tryz.prog 70 #[.int .i64 b] W (Makes (.string Aa) W)) (cc : ∀ W, Calls Tryz.prog 70 #[.int .i64 c] W (Makes (.string Ba) W)) (cm : ∀ W, Calls Tryz.prog 32 #[.int .i64 m] W (Makes (.string Ma) W)) (q0 : ∀ W, (Op.stringOp .add Na ⟨#[32]⟩).run Tryz.prog W = .ok (.string Z1) W) (q1 : ∀ W, (Op.stringOp .add Z1 Da).run Tryz.prog W = .ok (.string Z2) W) (q2 : ∀ W, (Op.stringOp .add Z2 ⟨#[44, 32]⟩).run Tryz.prog W = .ok (.string Z3) W) (q3 : ∀ W, (Op.stringOp .add Z3 Aa).run Tryz.prog W = .ok (.string Z4) W) (q4 : ∀ W, (Op.stringOp .add Z4 ⟨#[44, 32]⟩).run Tryz.prog W = .ok (.string Z5) W) (q5 : ∀ W, (Op.stringOp .add Z5 Ba).run Tryz.prog W = .ok (.string Z6) W) (w : World) :
    Calls Tryz.prog 35 #[.agg #[.int .i64 ((j : Int) + 1), .int .i64 a, .int .i64 b, .int .i64 c, .int .i64 m]] w (Makes (.string Z6) w) := by
  have CE := hide ce
  have CA := hide ca
  have CB := hide cb
  have CC := hide cc
  have CM := hide cm
  clear ce ca cb cc cm
  obtain ⟨K, hK⟩ : ∃ K, (j : Int) + 1 = K := ⟨_, rfl⟩
  have k1 : IntKind.i64.wrap (K - 1) = (j : Int) := by rw [IntKind.wrap_i64]; omega
  have k7 : IntKind.i64.wrap (j : Int) = (j : Int) := by rw [IntKind.wrap_i64]; omega
  have k2 : K - 1 = (j : Int) := by omega
  have k3 : (j : Int) < 69 := by omega
  have k4 : (0 : Int) ≤ (j : Int) := by omega
  have k5 : K ≤ 69 := by omega
  have k6 : 1 ≤ K := by omega
  rw [hK] at CE ⊢
  clear hK
  have SS := cell_same
  have LB' := ltB_add
  have LS := ltB_self
  have LA' := alloc_reads
  have LH := alloc_holds
  go_enter Tryz.func35, Tryz.ntmps35
  go_upto_region 4 with (first | (go_at_call 69; (with_reducible refine (CE.out _).mono ?_); rintro e w1 ⟨rfl, hb1⟩; have hr1 := below_reads hb1; have hh1 := below_holds hb1; obtain ⟨m1, hs1⟩ := below_grew hb1))
  refine wp_abs (fun W => Below w.heap.size w W ∧ W.cell? ⟨w.heap.size, 0, none⟩ = some (.int .i64 K) ∧ W.cell? ⟨w.heap.size, 1, none⟩ = some (.int .i64 a) ∧ W.cell? ⟨w.heap.size, 2, none⟩ = some (.int .i64 b) ∧ W.cell? ⟨w.heap.size, 3, none⟩ = some (.int .i64 c) ∧ W.cell? ⟨w.heap.size, 4, none⟩ = some (.int .i64 m)) ?_ ?_
  · refine ⟨?_, ?_, ?_, ?_, ?_, ?_⟩
    all_goals (first | with_reducible assumption | ((repeat (first | with_reducible assumption | with_reducible refine c_dr _ ?_ | with_reducible refine c_d1 ?_ | with_reducible refine c_al _ ?_ | (with_reducible refine c_set ?_ ?_; focus (dsimp only; omega)) | (with_reducible apply c_be; with_reducible assumption))); done) | ((repeat (first | with_reducible assumption | with_reducible exact Below.refl _ _ | with_reducible refine Below.drew ?_ | with_reducible refine below_drewN ?_ _ | with_reducible refine bw_alloc ?_ _ | (with_reducible refine bw_set ?_ ?_ _; focus (dsimp only; omega)) | (with_reducible apply bw_behind; with_reducible assumption))); done) | (simp [go_sem, *]; omega) | (simp (maxDischargeDepth := 4) [go_sem, *]; done))
  clear CE
  rintro w0 ⟨hB0, c0, c1, c2, c3, c4⟩
  have lB : ltB w.heap.size w0.heap.size = true := by unfold ltB; simpa using World.block_lt_of_cell? _ _ c0
  have hlw : w.heap.size < w0.heap.size := World.block_lt_of_cell? _ _ c0
  go_cut [5] (fun s5 wx => ∃ n : Nat, s5 = .pointer (some ⟨n, 0, none⟩) ∧ wx.cell? ⟨n, 0, none⟩ = some (.string Na) ∧ wx.cell? ⟨n, 1, none⟩ = some (.int .u8 82) ∧ wx.cell? ⟨w.heap.size, 1, none⟩ = some (.int .i64 a) ∧ wx.cell? ⟨w.heap.size, 2, none⟩ = some (.int .i64 b) ∧ wx.cell? ⟨w.heap.size, 3, none⟩ = some (.int .i64 c) ∧ wx.cell? ⟨w.heap.size, 4, none⟩ = some (.int .i64 m) ∧ Below w.heap.size w wx)
  case first =>
    go_region_with (first | (go_at_call 66; (with_reducible refine (rows_any _).mono ?_); rintro e wa ⟨N, rfl, hN, hba, hRa⟩; obtain ⟨r0, r1, r2, r3, r4⟩ := hRa _ hj; rw [hs] at r1; rw [hn] at r0; have lN : ltB N wa.heap.size = true := (by unfold ltB; simpa using World.block_lt_of_cell? _ _ r0); have hra := below_reads hba; have hha := below_holds hba; have lW : ltB w.heap.size wa.heap.size = true := (by have hz := hba.size; have hl := lB; unfold ltB at hl ⊢; simp at hl hz ⊢; omega)))
    all_goals
      have hBa : Below w.heap.size w wa := bw_behind hba (by (repeat (first | with_reducible assumption | with_reducible exact Below.refl _ _ | with_reducible refine Below.drew ?_ | with_reducible refine below_drewN ?_ _ | with_reducible refine bw_alloc ?_ _ | (with_reducible refine bw_set ?_ ?_ _; focus (dsimp only; omega)) | (with_reducible apply bw_behind; with_reducible assumption))))
      have hlw2 : w.heap.size < wa.heap.size := by
        have := lW
        unfold ltB at this
        simpa using this
      go_wp2_with fail
      go_meet
      refine ⟨_, rfl, ?_, ?_, ?_, ?_, ?_, ?_, ?_⟩
    all_goals (first | with_reducible assumption | ((repeat (first | with_reducible assumption | with_reducible refine c_dr _ ?_ | with_reducible refine c_d1 ?_ | with_reducible refine c_al _ ?_ | (with_reducible refine c_set ?_ ?_; focus (dsimp only; omega)) | (with_reducible apply c_be; with_reducible assumption))); done) | ((repeat (first | with_reducible assumption | with_reducible exact Below.refl _ _ | with_reducible refine Below.drew ?_ | with_reducible refine below_drewN ?_ _ | with_reducible refine bw_alloc ?_ _ | (with_reducible refine bw_set ?_ ?_ _; focus (dsimp only; omega)) | (with_reducible apply bw_behind; with_reducible assumption))); done) | (simp [go_sem, *]; omega) | (simp (maxDischargeDepth := 4) [go_sem, *]; done))
  case rest =>
    obtain ⟨n, rfl, z0, z1, z2, z3, z4, z5, hB⟩ := hcut
    clear c0 c1 c2 c3 c4 k1 k2 k5 k6 k7 hB0 lB
    go_upto_region 5 with fail
    have y0 := behind_cell0 z0
    have y1 := behind_cell0 z1
    have y2 := behind_cell0 z2
    have y3 := behind_cell0 z3
    have y4 := behind_cell0 z4
    have y5 := behind_cell0 z5
    have hsome := Behind.any wc
    clear z0 z1 z2 z3 z4 z5
    refine wp_region_behind wc (by kernel_rfl) (by kernel_rfl) (Below.refl _ _) ?_
    repeat (go_big_quiet_step (first | (go_at_call 70; with_reducible first | exact behind_m CA.out _ | exact behind_m CB.out _ | exact behind_m CC.out _) | (go_at_call 32; with_reducible first | exact behind_m CM.out _)))
    refine wpQuiet_nil ?_
    rintro _ ⟨y, rfl⟩
    have hBy := bw_behind y.below hB
    have x0 := y0 y
    have x1 := y1 y
    clear hsome y0 y1 y2 y3 y4 y5
    obtain ⟨w1, hw1⟩ : ∃ W, W = y.world := ⟨_, rfl⟩
    rw [← hw1] at hBy x0 x1 ⊢
    clear hw1 y hB
    go_wp2
    refine bodyPost_ret (v := .string Z6) (by simp (maxDischargeDepth := 4) [results, Tryz.results35, go_sem, *]) rfl ?_
    refine ⟨rfl, ?_⟩
    repeat (first | with_reducible assumption | with_reducible exact Below.refl _ _ | with_reducible refine Below.drew ?_ | with_reducible refine below_drewN ?_ _ | with_reducible refine bw_alloc ?_ _ | (with_reducible refine bw_set ?_ ?_ _; focus (dsimp only; omega)) | (with_reducible apply bw_behind; with_reducible assumption))

set_option maxRecDepth 100000 in
set_option maxHeartbeats 8000000 in
theorem rtext_G (j : Nat) (hj : j < 69) (a b c m V : Int) (hs : shp (j + 1) = 71) (Na Da Aa Ba Ma Z1 Z2 Z3 Z4 : ByteArray) (hn : nameB (j + 1) = Na)
    (ce : ∀ W, Calls Tryz.prog 69 #[.agg #[.int .i64 ((j : Int) + 1), .int .i64 a, .int .i64 b, .int .i64 c, .int .i64 m]] W (Makes (.tuple #[.int .u32 V, .bool true]) W))
    (ca : ∀ W, Calls Tryz.prog 70 #[.int .i64 a] W (Makes (.string Da) W)) (cb : ∀ W, Calls Tryz.prog 70 #[.int .i64 b] W (Makes (.string Aa) W)) (cc : ∀ W, Calls Tryz.prog 70 #[.int .i64 c] W (Makes (.string Ba) W)) (cm : ∀ W, Calls Tryz.prog 32 #[.int .i64 m] W (Makes (.string Ma) W)) (q0 : ∀ W, (Op.stringOp .add Na ⟨#[32]⟩).run Tryz.prog W = .ok (.string Z1) W) (q1 : ∀ W, (Op.stringOp .add Z1 Da).run Tryz.prog W = .ok (.string Z2) W) (q2 : ∀ W, (Op.stringOp .add Z2 ⟨#[44, 32]⟩).run Tryz.prog W = .ok (.string Z3) W) (q3 : ∀ W, (Op.stringOp .add Z3 Aa).run Tryz.prog W = .ok (.string Z4) W) (w : World) :
    Calls Tryz.prog 35 #[.agg #[.int .i64 ((j : Int) + 1), .int .i64 a, .int .i64 b, .int .i64 c, .int .i64 m]] w (Makes (.string Z4) w) := by
  have CE := hide ce
  have CA := hide ca
  have CB := hide cb
  have CC := hide cc
  have CM := hide cm
  clear ce ca cb cc cm
  obtain ⟨K, hK⟩ : ∃ K, (j : Int) + 1 = K := ⟨_, rfl⟩
  have k1 : IntKind.i64.wrap (K - 1) = (j : Int) := by rw [IntKind.wrap_i64]; omega
  have k7 : IntKind.i64.wrap (j : Int) = (j : Int) := by rw [IntKind.wrap_i64]; omega
  have k2 : K - 1 = (j : Int) := by omega
  have k3 : (j : Int) < 69 := by omega
  have k4 : (0 : Int) ≤ (j : Int) := by omega
  have k5 : K ≤ 69 := by omega
  have k6 : 1 ≤ K := by omega
  rw [hK] at CE ⊢
  clear hK
  have SS := cell_same
  have LB' := ltB_add
  have LS := ltB_self
  have LA' := alloc_reads
  have LH := alloc_holds
  go_enter Tryz.func35, Tryz.ntmps35
  go_upto_region 4 with (first | (go_at_call 69; (with_reducible refine (CE.out _).mono ?_); rintro e w1 ⟨rfl, hb1⟩; have hr1 := below_reads hb1; have hh1 := below_holds hb1; obtain ⟨m1, hs1⟩ := below_grew hb1))
  refine wp_abs (fun W => Below w.heap.size w W ∧ W.cell? ⟨w.heap.size, 0, none⟩ = some (.int .i64 K) ∧ W.cell? ⟨w.heap.size, 1, none⟩ = some (.int .i64 a) ∧ W.cell? ⟨w.heap.size, 2, none⟩ = some (.int .i64 b) ∧ W.cell? ⟨w.heap.size, 3, none⟩ = some (.int .i64 c) ∧ W.cell? ⟨w.heap.size, 4, none⟩ = some (.int .i64 m)) ?_ ?_
  · refine ⟨?_, ?_, ?_, ?_, ?_, ?_⟩
    all_goals (first | with_reducible assumption | ((repeat (first | with_reducible assumption | with_reducible refine c_dr _ ?_ | with_reducible refine c_d1 ?_ | with_reducible refine c_al _ ?_ | (with_reducible refine c_set ?_ ?_; focus (dsimp only; omega)) | (with_reducible apply c_be; with_reducible assumption))); done) | ((repeat (first | with_reducible assumption | with_reducible exact Below.refl _ _ | with_reducible refine Below.drew ?_ | with_reducible refine below_drewN ?_ _ | with_reducible refine bw_alloc ?_ _ | (with_reducible refine bw_set ?_ ?_ _; focus (dsimp only; omega)) | (with_reducible apply bw_behind; with_reducible assumption))); done) | (simp [go_sem, *]; omega) | (simp (maxDischargeDepth := 4) [go_sem, *]; done))
  clear CE
  rintro w0 ⟨hB0, c0, c1, c2, c3, c4⟩
  have lB : ltB w.heap.size w0.heap.size = true := by unfold ltB; simpa using World.block_lt_of_cell? _ _ c0
  have hlw : w.heap.size < w0.heap.size := World.block_lt_of_cell? _ _ c0
  go_cut [5] (fun s5 wx => ∃ n : Nat, s5 = .pointer (some ⟨n, 0, none⟩) ∧ wx.cell? ⟨n, 0, none⟩ = some (.string Na) ∧ wx.cell? ⟨n, 1, none⟩ = some (.int .u8 71) ∧ wx.cell? ⟨w.heap.size, 1, none⟩ = some (.int .i64 a) ∧ wx.cell? ⟨w.heap.size, 2, none⟩ = some (.int .i64 b) ∧ wx.cell? ⟨w.heap.size, 3, none⟩ = some (.int .i64 c) ∧ wx.cell? ⟨w.heap.size, 4, none⟩ = some (.int .i64 m) ∧ Below w.heap.size w wx)
  case first =>
    go_region_with (first | (go_at_call 66; (with_reducible refine (rows_any _).mono ?_); rintro e wa ⟨N, rfl, hN, hba, hRa⟩; obtain ⟨r0, r1, r2, r3, r4⟩ := hRa _ hj; rw [hs] at r1; rw [hn] at r0; have lN : ltB N wa.heap.size = true := (by unfold ltB; simpa using World.block_lt_of_cell? _ _ r0); have hra := below_reads hba; have hha := below_holds hba; have lW : ltB w.heap.size wa.heap.size = true := (by have hz := hba.size; have hl := lB; unfold ltB at hl ⊢; simp at hl hz ⊢; omega)))
    all_goals
      have hBa : Below w.heap.size w wa := bw_behind hba (by (repeat (first | with_reducible assumption | with_reducible exact Below.refl _ _ | with_reducible refine Below.drew ?_ | with_reducible refine below_drewN ?_ _ | with_reducible refine bw_alloc ?_ _ | (with_reducible refine bw_set ?_ ?_ _; focus (dsimp only; omega)) | (with_reducible apply bw_behind; with_reducible assumption))))
      have hlw2 : w.heap.size < wa.heap.size := by
        have := lW
        unfold ltB at this
        simpa using this
      go_wp2_with fail
      go_meet
      refine ⟨_, rfl, ?_, ?_, ?_, ?_, ?_, ?_, ?_⟩
    all_goals (first | with_reducible assumption | ((repeat (first | with_reducible assumption | with_reducible refine c_dr _ ?_ | with_reducible refine c_d1 ?_ | with_reducible refine c_al _ ?_ | (with_reducible refine c_set ?_ ?_; focus (dsimp only; omega)) | (with_reducible apply c_be; with_reducible assumption))); done) | ((repeat (first | with_reducible assumption | with_reducible exact Below.refl _ _ | with_reducible refine Below.drew ?_ | with_reducible refine below_drewN ?_ _ | with_reducible refine bw_alloc ?_ _ | (with_reducible refine bw_set ?_ ?_ _; focus (dsimp only; omega)) | (with_reducible apply bw_behind; with_reducible assumption))); done) | (simp [go_sem, *]; omega) | (simp (maxDischargeDepth := 4) [go_sem, *]; done))
  case rest =>
    obtain ⟨n, rfl, z0, z1, z2, z3, z4, z5, hB⟩ := hcut
    clear c0 c1 c2 c3 c4 k1 k2 k5 k6 k7 hB0 lB
    go_upto_region 5 with fail
    have y0 := behind_cell0 z0
    have y1 := behind_cell0 z1
    have y2 := behind_cell0 z2
    have y3 := behind_cell0 z3
    have y4 := behind_cell0 z4
    have y5 := behind_cell0 z5
    have hsome := Behind.any wc
    clear z0 z1 z2 z3 z4 z5
    refine wp_region_behind wc (by kernel_rfl) (by kernel_rfl) (Below.refl _ _) ?_
    repeat (go_big_quiet_step (first | (go_at_call 70; with_reducible first | exact behind_m CA.out _ | exact behind_m CB.out _ | exact behind_m CC.out _) | (go_at_call 32; with_reducible first | exact behind_m CM.out _)))
    refine wpQuiet_nil ?_
    rintro _ ⟨y, rfl⟩
    have hBy := bw_behind y.below hB
    have x0 := y0 y
    have x1 := y1 y
    clear hsome y0 y1 y2 y3 y4 y5
    obtain ⟨w1, hw1⟩ : ∃ W, W = y.world := ⟨_, rfl⟩
    rw [← hw1] at hBy x0 x1 ⊢
    clear hw1 y hB
    go_wp2
    refine bodyPost_ret (v := .string Z4) (by simp (maxDischargeDepth := 4) [results, Tryz.results35, go_sem, *]) rfl ?_
    refine ⟨rfl, ?_⟩
    repeat (first | with_reducible assumption | with_reducible exact Below.refl _ _ | with_reducible refine Below.drew ?_ | with_reducible refine below_drewN ?_ _ | with_reducible refine bw_alloc ?_ _ | (with_reducible refine bw_set ?_ ?_ _; focus (dsimp only; omega)) | (with_reducible apply bw_behind; with_reducible assumption))

set_option maxRecDepth 100000 in
set_option maxHeartbeats 8000000 in
theorem rtext_I (j : Nat) (hj : j < 69) (a b c m V : Int) (hs : shp (j + 1) = 73) (Na Da Aa Ba Ma Z1 Z2 Z3 Z4 Z5 Z6 : ByteArray) (hn : nameB (j + 1) = Na)
    (ce : ∀ W, Calls Tryz.prog 69 #[.agg #[.int .i64 ((j : Int) + 1), .int .i64 a, .int .i64 b, .int .i64 c, .int .i64 m]] W (Makes (.tuple #[.int .u32 V, .bool true]) W))
    (ca : ∀ W, Calls Tryz.prog 70 #[.int .i64 a] W (Makes (.string Da) W)) (cb : ∀ W, Calls Tryz.prog 70 #[.int .i64 b] W (Makes (.string Aa) W)) (cc : ∀ W, Calls Tryz.prog 70 #[.int .i64 c] W (Makes (.string Ba) W)) (cm : ∀ W, Calls Tryz.prog 32 #[.int .i64 m] W (Makes (.string Ma) W)) (q0 : ∀ W, (Op.stringOp .add Na ⟨#[32]⟩).run Tryz.prog W = .ok (.string Z1) W) (q1 : ∀ W, (Op.stringOp .add Z1 Da).run Tryz.prog W = .ok (.string Z2) W) (q2 : ∀ W, (Op.stringOp .add Z2 ⟨#[44, 32]⟩).run Tryz.prog W = .ok (.string Z3) W) (q3 : ∀ W, (Op.stringOp .add Z3 Aa).run Tryz.prog W = .ok (.string Z4) W) (q4 : ∀ W, (Op.stringOp .add Z4 ⟨#[44, 32]⟩).run Tryz.prog W = .ok (.string Z5) W) (q5 : ∀ W, (Op.stringOp .add Z5 Ma).run Tryz.prog W = .ok (.string Z6) W) (w : World) :
    Calls Tryz.prog 35 #[.agg #[.int .i64 ((j : Int) + 1), .int .i64 a, .int .i64 b, .int .i64 c, .int .i64 m]] w (Makes (.string Z6) w) := by
  have CE := hide ce
  have CA := hide ca
  have CB := hide cb
  have CC := hide cc
  have CM := hide cm
  clear ce ca cb cc cm
  obtain ⟨K, hK⟩ : ∃ K, (j : Int) + 1 = K := ⟨_, rfl⟩
  have k1 : IntKind.i64.wrap (K - 1) = (j : Int) := by rw [IntKind.wrap_i64]; omega
  have k7 : IntKind.i64.wrap (j : Int) = (j : Int) := by rw [IntKind.wrap_i64]; omega
  have k2 : K - 1 = (j : Int) := by omega
  have k3 : (j : Int) < 69 := by omega
  have k4 : (0 : Int) ≤ (j : Int) := by omega
  have k5 : K ≤ 69 := by omega
  have k6 : 1 ≤ K := by omega
  rw [hK] at CE ⊢
  clear hK
  have SS := cell_same
  have LB' := ltB_add
  have LS := ltB_self
  have LA' := alloc_reads
  have LH := alloc_holds
  go_enter Tryz.func35, Tryz.ntmps35
  go_upto_region 4 with (first | (go_at_call 69; (with_reducible refine (CE.out _).mono ?_); rintro e w1 ⟨rfl, hb1⟩; have hr1 := below_reads hb1; have hh1 := below_holds hb1; obtain ⟨m1, hs1⟩ := below_grew hb1))
  refine wp_abs (fun W => Below w.heap.size w W ∧ W.cell? ⟨w.heap.size, 0, none⟩ = some (.int .i64 K) ∧ W.cell? ⟨w.heap.size, 1, none⟩ = some (.int .i64 a) ∧ W.cell? ⟨w.heap.size, 2, none⟩ = some (.int .i64 b) ∧ W.cell? ⟨w.heap.size, 3, none⟩ = some (.int .i64 c) ∧ W.cell? ⟨w.heap.size, 4, none⟩ = some (.int .i64 m)) ?_ ?_
  · refine ⟨?_, ?_, ?_, ?_, ?_, ?_⟩
    all_goals (first | with_reducible assumption | ((repeat (first | with_reducible assumption | with_reducible refine c_dr _ ?_ | with_reducible refine c_d1 ?_ | with_reducible refine c_al _ ?_ | (with_reducible refine c_set ?_ ?_; focus (dsimp only; omega)) | (with_reducible apply c_be; with_reducible assumption))); done) | ((repeat (first | with_reducible assumption | with_reducible exact Below.refl _ _ | with_reducible refine Below.drew ?_ | with_reducible refine below_drewN ?_ _ | with_reducible refine bw_alloc ?_ _ | (with_reducible refine bw_set ?_ ?_ _; focus (dsimp only; omega)) | (with_reducible apply bw_behind; with_reducible assumption))); done) | (simp [go_sem, *]; omega) | (simp (maxDischargeDepth := 4) [go_sem, *]; done))
  clear CE
  rintro w0 ⟨hB0, c0, c1, c2, c3, c4⟩
  have lB : ltB w.heap.size w0.heap.size = true := by unfold ltB; simpa using World.block_lt_of_cell? _ _ c0
  have hlw : w.heap.size < w0.heap.size := World.block_lt_of_cell? _ _ c0
  go_cut [5] (fun s5 wx => ∃ n : Nat, s5 = .pointer (some ⟨n, 0, none⟩) ∧ wx.cell? ⟨n, 0, none⟩ = some (.string Na) ∧ wx.cell? ⟨n, 1, none⟩ = some (.int .u8 73) ∧ wx.cell? ⟨w.heap.size, 1, none⟩ = some (.int .i64 a) ∧ wx.cell? ⟨w.heap.size, 2, none⟩ = some (.int .i64 b) ∧ wx.cell? ⟨w.heap.size, 3, none⟩ = some (.int .i64 c) ∧ wx.cell? ⟨w.heap.size, 4, none⟩ = some (.int .i64 m) ∧ Below w.heap.size w wx)
  case first =>
    go_region_with (first | (go_at_call 66; (with_reducible refine (rows_any _).mono ?_); rintro e wa ⟨N, rfl, hN, hba, hRa⟩; obtain ⟨r0, r1, r2, r3, r4⟩ := hRa _ hj; rw [hs] at r1; rw [hn] at r0; have lN : ltB N wa.heap.size = true := (by unfold ltB; simpa using World.block_lt_of_cell? _ _ r0); have hra := below_reads hba; have hha := below_holds hba; have lW : ltB w.heap.size wa.heap.size = true := (by have hz := hba.size; have hl := lB; unfold ltB at hl ⊢; simp at hl hz ⊢; omega)))
    all_goals
      have hBa : Below w.heap.size w wa := bw_behind hba (by (repeat (first | with_reducible assumption | with_reducible exact Below.refl _ _ | with_reducible refine Below.drew ?_ | with_reducible refine below_drewN ?_ _ | with_reducible refine bw_alloc ?_ _ | (with_reducible refine bw_set ?_ ?_ _; focus (dsimp only; omega)) | (with_reducible apply bw_behind; with_reducible assumption))))
      have hlw2 : w.heap.size < wa.heap.size := by
        have := lW
        unfold ltB at this
        simpa using this
      go_wp2_with fail
      go_meet
      refine ⟨_, rfl, ?_, ?_, ?_, ?_, ?_, ?_, ?_⟩
    all_goals (first | with_reducible assumption | ((repeat (first | with_reducible assumption | with_reducible refine c_dr _ ?_ | with_reducible refine c_d1 ?_ | with_reducible refine c_al _ ?_ | (with_reducible refine c_set ?_ ?_; focus (dsimp only; omega)) | (with_reducible apply c_be; with_reducible assumption))); done) | ((repeat (first | with_reducible assumption | with_reducible exact Below.refl _ _ | with_reducible refine Below.drew ?_ | with_reducible refine below_drewN ?_ _ | with_reducible refine bw_alloc ?_ _ | (with_reducible refine bw_set ?_ ?_ _; focus (dsimp only; omega)) | (with_reducible apply bw_behind; with_reducible assumption))); done) | (simp [go_sem, *]; omega) | (simp (maxDischargeDepth := 4) [go_sem, *]; done))
  case rest =>
    obtain ⟨n, rfl, z0, z1, z2, z3, z4, z5, hB⟩ := hcut
    clear c0 c1 c2 c3 c4 k1 k2 k5 k6 k7 hB0 lB
    go_upto_region 5 with fail
    have y0 := behind_cell0 z0
    have y1 := behind_cell0 z1
    have y2 := behind_cell0 z2
    have y3 := behind_cell0 z3
    have y4 := behind_cell0 z4
    have y5 := behind_cell0 z5
    have hsome := Behind.any wc
    clear z0 z1 z2 z3 z4 z5
    refine wp_region_behind wc (by kernel_rfl) (by kernel_rfl) (Below.refl _ _) ?_
    repeat (go_big_quiet_step (first | (go_at_call 70; with_reducible first | exact behind_m CA.out _ | exact behind_m CB.out _ | exact behind_m CC.out _) | (go_at_call 32; with_reducible first | exact behind_m CM.out _)))
    refine wpQuiet_nil ?_
    rintro _ ⟨y, rfl⟩
    have hBy := bw_behind y.below hB
    have x0 := y0 y
    have x1 := y1 y
    clear hsome y0 y1 y2 y3 y4 y5
    obtain ⟨w1, hw1⟩ : ∃ W, W = y.world := ⟨_, rfl⟩
    rw [← hw1] at hBy x0 x1 ⊢
    clear hw1 y hB
    go_wp2
    refine bodyPost_ret (v := .string Z6) (by simp (maxDischargeDepth := 4) [results, Tryz.results35, go_sem, *]) rfl ?_
    refine ⟨rfl, ?_⟩
    repeat (first | with_reducible assumption | with_reducible exact Below.refl _ _ | with_reducible refine Below.drew ?_ | with_reducible refine below_drewN ?_ _ | with_reducible refine bw_alloc ?_ _ | (with_reducible refine bw_set ?_ ?_ _; focus (dsimp only; omega)) | (with_reducible apply bw_behind; with_reducible assumption))

set_option maxRecDepth 100000 in
set_option maxHeartbeats 8000000 in
theorem rtext_C (j : Nat) (hj : j < 69) (a b c m V : Int) (hs : shp (j + 1) = 67) (Na Da Aa Ba Ma Z1 Z2 Z3 Z4 Z5 Z6 : ByteArray) (hn : nameB (j + 1) = Na)
    (ce : ∀ W, Calls Tryz.prog 69 #[.agg #[.int .i64 ((j : Int) + 1), .int .i64 a, .int .i64 b, .int .i64 c, .int .i64 m]] W (Makes (.tuple #[.int .u32 V, .bool true]) W))
    (ca : ∀ W, Calls Tryz.prog 70 #[.int .i64 a] W (Makes (.string Da) W)) (cb : ∀ W, Calls Tryz.prog 70 #[.int .i64 b] W (Makes (.string Aa) W)) (cc : ∀ W, Calls Tryz.prog 70 #[.int .i64 c] W (Makes (.string Ba) W)) (cm : ∀ W, Calls Tryz.prog 32 #[.int .i64 m] W (Makes (.string Ma) W)) (q0 : ∀ W, (Op.stringOp .add Na ⟨#[32]⟩).run Tryz.prog W = .ok (.string Z1) W) (q1 : ∀ W, (Op.stringOp .add Z1 Da).run Tryz.prog W = .ok (.string Z2) W) (q2 : ∀ W, (Op.stringOp .add Z2 ⟨#[44, 32]⟩).run Tryz.prog W = .ok (.string Z3) W) (q3 : ∀ W, (Op.stringOp .add Z3 Aa).run Tryz.prog W = .ok (.string Z4) W) (q4 : ∀ W, (Op.stringOp .add Z4 ⟨#[44, 32]⟩).run Tryz.prog W = .ok (.string Z5) W) (q5 : ∀ W, (Op.stringOp .add Z5 Ma).run Tryz.prog W = .ok (.string Z6) W) (w : World) :
    Calls Tryz.prog 35 #[.agg #[.int .i64 ((j : Int) + 1), .int .i64 a, .int .i64 b, .int .i64 c, .int .i64 m]] w (Makes (.string Z6) w) := by
  have CE := hide ce
  have CA := hide ca
  have CB := hide cb
  have CC := hide cc
  have CM := hide cm
  clear ce ca cb cc cm
  obtain ⟨K, hK⟩ : ∃ K, (j : Int) + 1 = K := ⟨_, rfl⟩
  have k1 : IntKind.i64.wrap (K - 1) = (j : Int) := by rw [IntKind.wrap_i64]; omega
  have k7 : IntKind.i64.wrap (j : Int) = (j : Int) := by rw [IntKind.wrap_i64]; omega
  have k2 : K - 1 = (j : Int) := by omega
  have k3 : (j : Int) < 69 := by omega
  have k4 : (0 : Int) ≤ (j : Int) := by omega
  have k5 : K ≤ 69 := by omega
  have k6 : 1 ≤ K := by omega
  rw [hK] at CE ⊢
  clear hK
  have SS := cell_same
  have LB' := ltB_add
  have LS := ltB_self
  have LA' := alloc_reads
  have LH := alloc_holds
  go_enter Tryz.func35, Tryz.ntmps35
  go_upto_region 4 with (first | (go_at_call 69; (with_reducible refine (CE.out _).mono ?_); rintro e w1 ⟨rfl, hb1⟩; have hr1 := below_reads hb1; have hh1 := below_holds hb1; obtain ⟨m1, hs1⟩ := below_grew hb1))
  refine wp_abs (fun W => Below w.heap.size w W ∧ W.cell? ⟨w.heap.size, 0, none⟩ = some (.int .i64 K) ∧ W.cell? ⟨w.heap.size, 1, none⟩ = some (.int .i64 a) ∧ W.cell? ⟨w.heap.size, 2, none⟩ = some (.int .i64 b) ∧ W.cell? ⟨w.heap.size, 3, none⟩ = some (.int .i64 c) ∧ W.cell? ⟨w.heap.size, 4, none⟩ = some (.int .i64 m)) ?_ ?_
  · refine ⟨?_, ?_, ?_, ?_, ?_, ?_⟩
    all_goals (first | with_reducible assumption | ((repeat (first | with_reducible assumption | with_reducible refine c_dr _ ?_ | with_reducible refine c_d1 ?_ | with_reducible refine c_al _ ?_ | (with_reducible refine c_set ?_ ?_; focus (dsimp only; omega)) | (with_reducible apply c_be; with_reducible assumption))); done) | ((repeat (first | with_reducible assumption | with_reducible exact Below.refl _ _ | with_reducible refine Below.drew ?_ | with_reducible refine below_drewN ?_ _ | with_reducible refine bw_alloc ?_ _ | (with_reducible refine bw_set ?_ ?_ _; focus (dsimp only; omega)) | (with_reducible apply bw_behind; with_reducible assumption))); done) | (simp [go_sem, *]; omega) | (simp (maxDischargeDepth := 4) [go_sem, *]; done))
  clear CE
  rintro w0 ⟨hB0, c0, c1, c2, c3, c4⟩
  have lB : ltB w.heap.size w0.heap.size = true := by unfold ltB; simpa using World.block_lt_of_cell? _ _ c0
  have hlw : w.heap.size < w0.heap.size := World.block_lt_of_cell? _ _ c0
  go_cut [5] (fun s5 wx => ∃ n : Nat, s5 = .pointer (some ⟨n, 0, none⟩) ∧ wx.cell? ⟨n, 0, none⟩ = some (.string Na) ∧ wx.cell? ⟨n, 1, none⟩ = some (.int .u8 67) ∧ wx.cell? ⟨w.heap.size, 1, none⟩ = some (.int .i64 a) ∧ wx.cell? ⟨w.heap.size, 2, none⟩ = some (.int .i64 b) ∧ wx.cell? ⟨w.heap.size, 3, none⟩ = some (.int .i64 c) ∧ wx.cell? ⟨w.heap.size, 4, none⟩ = some (.int .i64 m) ∧ Below w.heap.size w wx)
  case first =>
    go_region_with (first | (go_at_call 66; (with_reducible refine (rows_any _).mono ?_); rintro e wa ⟨N, rfl, hN, hba, hRa⟩; obtain ⟨r0, r1, r2, r3, r4⟩ := hRa _ hj; rw [hs] at r1; rw [hn] at r0; have lN : ltB N wa.heap.size = true := (by unfold ltB; simpa using World.block_lt_of_cell? _ _ r0); have hra := below_reads hba; have hha := below_holds hba; have lW : ltB w.heap.size wa.heap.size = true := (by have hz := hba.size; have hl := lB; unfold ltB at hl ⊢; simp at hl hz ⊢; omega)))
    all_goals
      have hBa : Below w.heap.size w wa := bw_behind hba (by (repeat (first | with_reducible assumption | with_reducible exact Below.refl _ _ | with_reducible refine Below.drew ?_ | with_reducible refine below_drewN ?_ _ | with_reducible refine bw_alloc ?_ _ | (with_reducible refine bw_set ?_ ?_ _; focus (dsimp only; omega)) | (with_reducible apply bw_behind; with_reducible assumption))))
      have hlw2 : w.heap.size < wa.heap.size := by
        have := lW
        unfold ltB at this
        simpa using this
      go_wp2_with fail
      go_meet
      refine ⟨_, rfl, ?_, ?_, ?_, ?_, ?_, ?_, ?_⟩
    all_goals (first | with_reducible assumption | ((repeat (first | with_reducible assumption | with_reducible refine c_dr _ ?_ | with_reducible refine c_d1 ?_ | with_reducible refine c_al _ ?_ | (with_reducible refine c_set ?_ ?_; focus (dsimp only; omega)) | (with_reducible apply c_be; with_reducible assumption))); done) | ((repeat (first | with_reducible assumption | with_reducible exact Below.refl _ _ | with_reducible refine Below.drew ?_ | with_reducible refine below_drewN ?_ _ | with_reducible refine bw_alloc ?_ _ | (with_reducible refine bw_set ?_ ?_ _; focus (dsimp only; omega)) | (with_reducible apply bw_behind; with_reducible assumption))); done) | (simp [go_sem, *]; omega) | (simp (maxDischargeDepth := 4) [go_sem, *]; done))
  case rest =>
    obtain ⟨n, rfl, z0, z1, z2, z3, z4, z5, hB⟩ := hcut
    clear c0 c1 c2 c3 c4 k1 k2 k5 k6 k7 hB0 lB
    go_upto_region 5 with fail
    have y0 := behind_cell0 z0
    have y1 := behind_cell0 z1
    have y2 := behind_cell0 z2
    have y3 := behind_cell0 z3
    have y4 := behind_cell0 z4
    have y5 := behind_cell0 z5
    have hsome := Behind.any wc
    clear z0 z1 z2 z3 z4 z5
    refine wp_region_behind wc (by kernel_rfl) (by kernel_rfl) (Below.refl _ _) ?_
    repeat (go_big_quiet_step (first | (go_at_call 70; with_reducible first | exact behind_m CA.out _ | exact behind_m CB.out _ | exact behind_m CC.out _) | (go_at_call 32; with_reducible first | exact behind_m CM.out _)))
    refine wpQuiet_nil ?_
    rintro _ ⟨y, rfl⟩
    have hBy := bw_behind y.below hB
    have x0 := y0 y
    have x1 := y1 y
    clear hsome y0 y1 y2 y3 y4 y5
    obtain ⟨w1, hw1⟩ : ∃ W, W = y.world := ⟨_, rfl⟩
    rw [← hw1] at hBy x0 x1 ⊢
    clear hw1 y hB
    go_wp2
    refine bodyPost_ret (v := .string Z6) (by simp (maxDischargeDepth := 4) [results, Tryz.results35, go_sem, *]) rfl ?_
    refine ⟨rfl, ?_⟩
    repeat (first | with_reducible assumption | with_reducible exact Below.refl _ _ | with_reducible refine Below.drew ?_ | with_reducible refine below_drewN ?_ _ | with_reducible refine bw_alloc ?_ _ | (with_reducible refine bw_set ?_ ?_ _; focus (dsimp only; omega)) | (with_reducible apply bw_behind; with_reducible assumption))

set_option maxRecDepth 100000 in
set_option maxHeartbeats 8000000 in
theorem rtext_H (j : Nat) (hj : j < 69) (a b c m V : Int) (hs : shp (j + 1) = 72) (Na Da Aa Ba Ma Z1 Z2 Z3 Z4 Z5 Z6 : ByteArray) (hn : nameB (j + 1) = Na)
    (ce : ∀ W, Calls Tryz.prog 69 #[.agg #[.int .i64 ((j : Int) + 1), .int .i64 a, .int .i64 b, .int .i64 c, .int .i64 m]] W (Makes (.tuple #[.int .u32 V, .bool true]) W))
    (ca : ∀ W, Calls Tryz.prog 70 #[.int .i64 a] W (Makes (.string Da) W)) (cb : ∀ W, Calls Tryz.prog 70 #[.int .i64 b] W (Makes (.string Aa) W)) (cc : ∀ W, Calls Tryz.prog 70 #[.int .i64 c] W (Makes (.string Ba) W)) (cm : ∀ W, Calls Tryz.prog 32 #[.int .i64 m] W (Makes (.string Ma) W)) (q0 : ∀ W, (Op.stringOp .add Na ⟨#[32]⟩).run Tryz.prog W = .ok (.string Z1) W) (q1 : ∀ W, (Op.stringOp .add Z1 Da).run Tryz.prog W = .ok (.string Z2) W) (q2 : ∀ W, (Op.stringOp .add Z2 ⟨#[44, 32]⟩).run Tryz.prog W = .ok (.string Z3) W) (q3 : ∀ W, (Op.stringOp .add Z3 Aa).run Tryz.prog W = .ok (.string Z4) W) (q4 : ∀ W, (Op.stringOp .add Z4 ⟨#[44, 32]⟩).run Tryz.prog W = .ok (.string Z5) W) (q5 : ∀ W, (Op.stringOp .add Z5 Ma).run Tryz.prog W = .ok (.string Z6) W) (w : World) :
    Calls Tryz.prog 35 #[.agg #[.int .i64 ((j : Int) + 1), .int .i64 a, .int .i64 b, .int .i64 c, .int .i64 m]] w (Makes (.string Z6) w) := by
  have CE := hide ce
  have CA := hide ca
  have CB := hide cb
  have CC := hide cc
  have CM := hide cm
  clear ce ca cb cc cm
  obtain ⟨K, hK⟩ : ∃ K, (j : Int) + 1 = K := ⟨_, rfl⟩
  have k1 : IntKind.i64.wrap (K - 1) = (j : Int) := by rw [IntKind.wrap_i64]; omega
  have k7 : IntKind.i64.wrap (j : Int) = (j : Int) := by rw [IntKind.wrap_i64]; omega
  have k2 : K - 1 = (j : Int) := by omega
  have k3 : (j : Int) < 69 := by omega
  have k4 : (0 : Int) ≤ (j : Int) := by omega
  have k5 : K ≤ 69 := by omega
  have k6 : 1 ≤ K := by omega
  rw [hK] at CE ⊢
  clear hK
  have SS := cell_same
  have LB' := ltB_add
  have LS := ltB_self
  have LA' := alloc_reads
  have LH := alloc_holds
  go_enter Tryz.func35, Tryz.ntmps35
  go_upto_region 4 with (first | (go_at_call 69; (with_reducible refine (CE.out _).mono ?_); rintro e w1 ⟨rfl, hb1⟩; have hr1 := below_reads hb1; have hh1 := below_holds hb1; obtain ⟨m1, hs1⟩ := below_grew hb1))
  refine wp_abs (fun W => Below w.heap.size w W ∧ W.cell? ⟨w.heap.size, 0, none⟩ = some (.int .i64 K) ∧ W.cell? ⟨w.heap.size, 1, none⟩ = some (.int .i64 a) ∧ W.cell? ⟨w.heap.size, 2, none⟩ = some (.int .i64 b) ∧ W.cell? ⟨w.heap.size, 3, none⟩ = some (.int .i64 c) ∧ W.cell? ⟨w.heap.size, 4, none⟩ = some (.int .i64 m)) ?_ ?_
  · refine ⟨?_, ?_, ?_, ?_, ?_, ?_⟩
    all_goals (first | with_reducible assumption | ((repeat (first | with_reducible assumption | with_reducible refine c_dr _ ?_ | with_reducible refine c_d1 ?_ | with_reducible refine c_al _ ?_ | (with_reducible refine c_set ?_ ?_; focus (dsimp only; omega)) | (with_reducible apply c_be; with_reducible assumption))); done) | ((repeat (first | with_reducible assumption | with_reducible exact Below.refl _ _ | with_reducible refine Below.drew ?_ | with_reducible refine below_drewN ?_ _ | with_reducible refine bw_alloc ?_ _ | (with_reducible refine bw_set ?_ ?_ _; focus (dsimp only; omega)) | (with_reducible apply bw_behind; with_reducible assumption))); done) | (simp [go_sem, *]; omega) | (simp (maxDischargeDepth := 4) [go_sem, *]; done))
  clear CE
  rintro w0 ⟨hB0, c0, c1, c2, c3, c4⟩
  have lB : ltB w.heap.size w0.heap.size = true := by unfold ltB; simpa using World.block_lt_of_cell? _ _ c0
  have hlw : w.heap.size < w0.heap.size := World.block_lt_of_cell? _ _ c0
  go_cut [5] (fun s5 wx => ∃ n : Nat, s5 = .pointer (some ⟨n, 0, none⟩) ∧ wx.cell? ⟨n, 0, none⟩ = some (.string Na) ∧ wx.cell? ⟨n, 1, none⟩ = some (.int .u8 72) ∧ wx.cell? ⟨w.heap.size, 1, none⟩ = some (.int .i64 a) ∧ wx.cell? ⟨w.heap.size, 2, none⟩ = some (.int .i64 b) ∧ wx.cell? ⟨w.heap.size, 3, none⟩ = some (.int .i64 c) ∧ wx.cell? ⟨w.heap.size, 4, none⟩ = some (.int .i64 m) ∧ Below w.heap.size w wx)
  case first =>
    go_region_with (first | (go_at_call 66; (with_reducible refine (rows_any _).mono ?_); rintro e wa ⟨N, rfl, hN, hba, hRa⟩; obtain ⟨r0, r1, r2, r3, r4⟩ := hRa _ hj; rw [hs] at r1; rw [hn] at r0; have lN : ltB N wa.heap.size = true := (by unfold ltB; simpa using World.block_lt_of_cell? _ _ r0); have hra := below_reads hba; have hha := below_holds hba; have lW : ltB w.heap.size wa.heap.size = true := (by have hz := hba.size; have hl := lB; unfold ltB at hl ⊢; simp at hl hz ⊢; omega)))
    all_goals
      have hBa : Below w.heap.size w wa := bw_behind hba (by (repeat (first | with_reducible assumption | with_reducible exact Below.refl _ _ | with_reducible refine Below.drew ?_ | with_reducible refine below_drewN ?_ _ | with_reducible refine bw_alloc ?_ _ | (with_reducible refine bw_set ?_ ?_ _; focus (dsimp only; omega)) | (with_reducible apply bw_behind; with_reducible assumption))))
      have hlw2 : w.heap.size < wa.heap.size := by
        have := lW
        unfold ltB at this
        simpa using this
      go_wp2_with fail
      go_meet
      refine ⟨_, rfl, ?_, ?_, ?_, ?_, ?_, ?_, ?_⟩
    all_goals (first | with_reducible assumption | ((repeat (first | with_reducible assumption | with_reducible refine c_dr _ ?_ | with_reducible refine c_d1 ?_ | with_reducible refine c_al _ ?_ | (with_reducible refine c_set ?_ ?_; focus (dsimp only; omega)) | (with_reducible apply c_be; with_reducible assumption))); done) | ((repeat (first | with_reducible assumption | with_reducible exact Below.refl _ _ | with_reducible refine Below.drew ?_ | with_reducible refine below_drewN ?_ _ | with_reducible refine bw_alloc ?_ _ | (with_reducible refine bw_set ?_ ?_ _; focus (dsimp only; omega)) | (with_reducible apply bw_behind; with_reducible assumption))); done) | (simp [go_sem, *]; omega) | (simp (maxDischargeDepth := 4) [go_sem, *]; done))
  case rest =>
    obtain ⟨n, rfl, z0, z1, z2, z3, z4, z5, hB⟩ := hcut
    clear c0 c1 c2 c3 c4 k1 k2 k5 k6 k7 hB0 lB
    go_upto_region 5 with fail
    have y0 := behind_cell0 z0
    have y1 := behind_cell0 z1
    have y2 := behind_cell0 z2
    have y3 := behind_cell0 z3
    have y4 := behind_cell0 z4
    have y5 := behind_cell0 z5
    have hsome := Behind.any wc
    clear z0 z1 z2 z3 z4 z5
    refine wp_region_behind wc (by kernel_rfl) (by kernel_rfl) (Below.refl _ _) ?_
    repeat (go_big_quiet_step (first | (go_at_call 70; with_reducible first | exact behind_m CA.out _ | exact behind_m CB.out _ | exact behind_m CC.out _) | (go_at_call 32; with_reducible first | exact behind_m CM.out _)))
    refine wpQuiet_nil ?_
    rintro _ ⟨y, rfl⟩
    have hBy := bw_behind y.below hB
    have x0 := y0 y
    have x1 := y1 y
    clear hsome y0 y1 y2 y3 y4 y5
    obtain ⟨w1, hw1⟩ : ∃ W, W = y.world := ⟨_, rfl⟩
    rw [← hw1] at hBy x0 x1 ⊢
    clear hw1 y hB
    go_wp2
    refine bodyPost_ret (v := .string Z6) (by simp (maxDischargeDepth := 4) [results, Tryz.results35, go_sem, *]) rfl ?_
    refine ⟨rfl, ?_⟩
    repeat (first | with_reducible assumption | with_reducible exact Below.refl _ _ | with_reducible refine Below.drew ?_ | with_reducible refine below_drewN ?_ _ | with_reducible refine bw_alloc ?_ _ | (with_reducible refine bw_set ?_ ?_ _; focus (dsimp only; omega)) | (with_reducible apply bw_behind; with_reducible assumption))

set_option maxRecDepth 100000 in
set_option maxHeartbeats 8000000 in
theorem rtext_S (j : Nat) (hj : j < 69) (a b c m V : Int) (hs : shp (j + 1) = 83) (Na Da Aa Ba Ma Z1 Z2 Z3 Z4 Z5 Z6 : ByteArray) (hn : nameB (j + 1) = Na)
    (ce : ∀ W, Calls Tryz.prog 69 #[.agg #[.int .i64 ((j : Int) + 1), .int .i64 a, .int .i64 b, .int .i64 c, .int .i64 m]] W (Makes (.tuple #[.int .u32 V, .bool true]) W))
    (ca : ∀ W, Calls Tryz.prog 70 #[.int .i64 a] W (Makes (.string Da) W)) (cb : ∀ W, Calls Tryz.prog 70 #[.int .i64 b] W (Makes (.string Aa) W)) (cc : ∀ W, Calls Tryz.prog 70 #[.int .i64 c] W (Makes (.string Ba) W)) (cm : ∀ W, Calls Tryz.prog 32 #[.int .i64 m] W (Makes (.string Ma) W)) (q0 : ∀ W, (Op.stringOp .add Na ⟨#[32]⟩).run Tryz.prog W = .ok (.string Z1) W) (q1 : ∀ W, (Op.stringOp .add Z1 Ba).run Tryz.prog W = .ok (.string Z2) W) (q2 : ∀ W, (Op.stringOp .add Z2 ⟨#[44, 32]⟩).run Tryz.prog W = .ok (.string Z3) W) (q3 : ∀ W, (Op.stringOp .add Z3 Aa).run Tryz.prog W = .ok (.string Z4) W) (q4 : ∀ W, (Op.stringOp .add Z4 ⟨#[44, 32]⟩).run Tryz.prog W = .ok (.string Z5) W) (q5 : ∀ W, (Op.stringOp .add Z5 Ma).run Tryz.prog W = .ok (.string Z6) W) (w : World) :
    Calls Tryz.prog 35 #[.agg #[.int .i64 ((j : Int) + 1), .int .i64 a, .int .i64 b, .int .i64 c, .int .i64 m]] w (Makes (.string Z6) w) := by
  have CE := hide ce
  have CA := hide ca
  have CB := hide cb
  have CC := hide cc
  have CM := hide cm
  clear ce ca cb cc cm
  obtain ⟨K, hK⟩ : ∃ K, (j : Int) + 1 = K := ⟨_, rfl⟩
  have k1 : IntKind.i64.wrap (K - 1) = (j : Int) := by rw [IntKind.wrap_i64]; omega
  have k7 : IntKind.i64.wrap (j : Int) = (j : Int) := by rw [IntKind.wrap_i64]; omega
  have k2 : K - 1 = (j : Int) := by omega
  have k3 : (j : Int) < 69 := by omega
  have k4 : (0 : Int) ≤ (j : Int) := by omega
  have k5 : K ≤ 69 := by omega
  have k6 : 1 ≤ K := by omega
  rw [hK] at CE ⊢
  clear hK
  have SS := cell_same
  have LB' := ltB_add
  have LS := ltB_self
  have LA' := alloc_reads
  have LH := alloc_holds
  go_enter Tryz.func35, Tryz.ntmps35
  go_upto_region 4 with (first | (go_at_call 69; (with_reducible refine (CE.out _).mono ?_); rintro e w1 ⟨rfl, hb1⟩; have hr1 := below_reads hb1; have hh1 := below_holds hb1; obtain ⟨m1, hs1⟩ := below_grew hb1))
  refine wp_abs (fun W => Below w.heap.size w W ∧ W.cell? ⟨w.heap.size, 0, none⟩ = some (.int .i64 K) ∧ W.cell? ⟨w.heap.size, 1, none⟩ = some (.int .i64 a) ∧ W.cell? ⟨w.heap.size, 2, none⟩ = some (.int .i64 b) ∧ W.cell? ⟨w.heap.size, 3, none⟩ = some (.int .i64 c) ∧ W.cell? ⟨w.heap.size, 4, none⟩ = some (.int .i64 m)) ?_ ?_
  · refine ⟨?_, ?_, ?_, ?_, ?_, ?_⟩
    all_goals (first | with_reducible assumption | ((repeat (first | with_reducible assumption | with_reducible refine c_dr _ ?_ | with_reducible refine c_d1 ?_ | with_reducible refine c_al _ ?_ | (with_reducible refine c_set ?_ ?_; focus (dsimp only; omega)) | (with_reducible apply c_be; with_reducible assumption))); done) | ((repeat (first | with_reducible assumption | with_reducible exact Below.refl _ _ | with_reducible refine Below.drew ?_ | with_reducible refine below_drewN ?_ _ | with_reducible refine bw_alloc ?_ _ | (with_reducible refine bw_set ?_ ?_ _; focus (dsimp only; omega)) | (with_reducible apply bw_behind; with_reducible assumption))); done) | (simp [go_sem, *]; omega) | (simp (maxDischargeDepth := 4) [go_sem, *]; done))
  clear CE
  rintro w0 ⟨hB0, c0, c1, c2, c3, c4⟩
  have lB : ltB w.heap.size w0.heap.size = true := by unfold ltB; simpa using World.block_lt_of_cell? _ _ c0
  have hlw : w.heap.size < w0.heap.size := World.block_lt_of_cell? _ _ c0
  go_cut [5] (fun s5 wx => ∃ n : Nat, s5 = .pointer (some ⟨n, 0, none⟩) ∧ wx.cell? ⟨n, 0, none⟩ = some (.string Na) ∧ wx.cell? ⟨n, 1, none⟩ = some (.int .u8 83) ∧ wx.cell? ⟨w.heap.size, 1, none⟩ = some (.int .i64 a) ∧ wx.cell? ⟨w.heap.size, 2, none⟩ = some (.int .i64 b) ∧ wx.cell? ⟨w.heap.size, 3, none⟩ = some (.int .i64 c) ∧ wx.cell? ⟨w.heap.size, 4, none⟩ = some (.int .i64 m) ∧ Below w.heap.size w wx)
  case first =>
    go_region_with (first | (go_at_call 66; (with_reducible refine (rows_any _).mono ?_); rintro e wa ⟨N, rfl, hN, hba, hRa⟩; obtain ⟨r0, r1, r2, r3, r4⟩ := hRa _ hj; rw [hs] at r1; rw [hn] at r0; have lN : ltB N wa.heap.size = true := (by unfold ltB; simpa using World.block_lt_of_cell? _ _ r0); have hra := below_reads hba; have hha := below_holds hba; have lW : ltB w.heap.size wa.heap.size = true := (by have hz := hba.size; have hl := lB; unfold ltB at hl ⊢; simp at hl hz ⊢; omega)))
    all_goals
      have hBa : Below w.heap.size w wa := bw_behind hba (by (repeat (first | with_reducible assumption | with_reducible exact Below.refl _ _ | with_reducible refine Below.drew ?_ | with_reducible refine below_drewN ?_ _ | with_reducible refine bw_alloc ?_ _ | (with_reducible refine bw_set ?_ ?_ _; focus (dsimp only; omega)) | (with_reducible apply bw_behind; with_reducible assumption))))
      have hlw2 : w.heap.size < wa.heap.size := by
        have := lW
        unfold ltB at this
        simpa using this
      go_wp2_with fail
      go_meet
      refine ⟨_, rfl, ?_, ?_, ?_, ?_, ?_, ?_, ?_⟩
    all_goals (first | with_reducible assumption | ((repeat (first | with_reducible assumption | with_reducible refine c_dr _ ?_ | with_reducible refine c_d1 ?_ | with_reducible refine c_al _ ?_ | (with_reducible refine c_set ?_ ?_; focus (dsimp only; omega)) | (with_reducible apply c_be; with_reducible assumption))); done) | ((repeat (first | with_reducible assumption | with_reducible exact Below.refl _ _ | with_reducible refine Below.drew ?_ | with_reducible refine below_drewN ?_ _ | with_reducible refine bw_alloc ?_ _ | (with_reducible refine bw_set ?_ ?_ _; focus (dsimp only; omega)) | (with_reducible apply bw_behind; with_reducible assumption))); done) | (simp [go_sem, *]; omega) | (simp (maxDischargeDepth := 4) [go_sem, *]; done))
  case rest =>
    obtain ⟨n, rfl, z0, z1, z2, z3, z4, z5, hB⟩ := hcut
    clear c0 c1 c2 c3 c4 k1 k2 k5 k6 k7 hB0 lB
    go_upto_region 5 with fail
    have y0 := behind_cell0 z0
    have y1 := behind_cell0 z1
    have y2 := behind_cell0 z2
    have y3 := behind_cell0 z3
    have y4 := behind_cell0 z4
    have y5 := behind_cell0 z5
    have hsome := Behind.any wc
    clear z0 z1 z2 z3 z4 z5
    refine wp_region_behind wc (by kernel_rfl) (by kernel_rfl) (Below.refl _ _) ?_
    repeat (go_big_quiet_step (first | (go_at_call 70; with_reducible first | exact behind_m CA.out _ | exact behind_m CB.out _ | exact behind_m CC.out _) | (go_at_call 32; with_reducible first | exact behind_m CM.out _)))
    refine wpQuiet_nil ?_
    rintro _ ⟨y, rfl⟩
    have hBy := bw_behind y.below hB
    have x0 := y0 y
    have x1 := y1 y
    clear hsome y0 y1 y2 y3 y4 y5
    obtain ⟨w1, hw1⟩ : ∃ W, W = y.world := ⟨_, rfl⟩
    rw [← hw1] at hBy x0 x1 ⊢
    clear hw1 y hB
    go_wp2
    refine bodyPost_ret (v := .string Z6) (by simp (maxDischargeDepth := 4) [results, Tryz.results35, go_sem, *]) rfl ?_
    refine ⟨rfl, ?_⟩
    repeat (first | with_reducible assumption | with_reducible exact Below.refl _ _ | with_reducible refine Below.drew ?_ | with_reducible refine below_drewN ?_ _ | with_reducible refine bw_alloc ?_ _ | (with_reducible refine bw_set ?_ ?_ _; focus (dsimp only; omega)) | (with_reducible apply bw_behind; with_reducible assumption))

set_option maxRecDepth 100000 in
set_option maxHeartbeats 8000000 in
theorem rtext_B (j : Nat) (hj : j < 69) (a b c m V : Int) (hs : shp (j + 1) = 66) (Na Da Aa Ba Ma Z1 Z2 Z3 Z4 Z5 Z6 : ByteArray) (hn : nameB (j + 1) = Na)
    (ce : ∀ W, Calls Tryz.prog 69 #[.agg #[.int .i64 ((j : Int) + 1), .int .i64 a, .int .i64 b, .int .i64 c, .int .i64 m]] W (Makes (.tuple #[.int .u32 V, .bool true]) W))
    (ca : ∀ W, Calls Tryz.prog 70 #[.int .i64 a] W (Makes (.string Da) W)) (cb : ∀ W, Calls Tryz.prog 70 #[.int .i64 b] W (Makes (.string Aa) W)) (cc : ∀ W, Calls Tryz.prog 70 #[.int .i64 c] W (Makes (.string Ba) W)) (cm : ∀ W, Calls Tryz.prog 32 #[.int .i64 m] W (Makes (.string Ma) W)) (q0 : ∀ W, (Op.stringOp .add Na ⟨#[32]⟩).run Tryz.prog W = .ok (.string Z1) W) (q1 : ∀ W, (Op.stringOp .add Z1 Aa).run Tryz.prog W = .ok (.string Z2) W) (q2 : ∀ W, (Op.stringOp .add Z2 ⟨#[44, 32]⟩).run Tryz.prog W = .ok (.string Z3) W) (q3 : ∀ W, (Op.stringOp .add Z3 Ba).run Tryz.prog W = .ok (.string Z4) W) (q4 : ∀ W, (Op.stringOp .add Z4 ⟨#[44, 32]⟩).run Tryz.prog W = .ok (.string Z5) W) (q5 : ∀ W, (Op.stringOp .add Z5 Ma).run Tryz.prog W = .ok (.string Z6) W) (w : World) :
    Calls Tryz.prog 35 #[.agg #[.int .i64 ((j : Int) + 1), .int .i64 a, .int .i64 b, .int .i64 c, .int .i64 m]] w (Makes (.string Z6) w) := by
  have CE := hide ce
  have CA := hide ca
  have CB := hide cb
  have CC := hide cc
  have CM := hide cm
  clear ce ca cb cc cm
  obtain ⟨K, hK⟩ : ∃ K, (j : Int) + 1 = K := ⟨_, rfl⟩
  have k1 : IntKind.i64.wrap (K - 1) = (j : Int) := by rw [IntKind.wrap_i64]; omega
  have k7 : IntKind.i64.wrap (j : Int) = (j : Int) := by rw [IntKind.wrap_i64]; omega
  have k2 : K - 1 = (j : Int) := by omega
  have k3 : (j : Int) < 69 := by omega
  have k4 : (0 : Int) ≤ (j : Int) := by omega
  have k5 : K ≤ 69 := by omega
  have k6 : 1 ≤ K := by omega
  rw [hK] at CE ⊢
  clear hK
  have SS := cell_same
  have LB' := ltB_add
  have LS := ltB_self
  have LA' := alloc_reads
  have LH := alloc_holds
  go_enter Tryz.func35, Tryz.ntmps35
  go_upto_region 4 with (first | (go_at_call 69; (with_reducible refine (CE.out _).mono ?_); rintro e w1 ⟨rfl, hb1⟩; have hr1 := below_reads hb1; have hh1 := below_holds hb1; obtain ⟨m1, hs1⟩ := below_grew hb1))
  refine wp_abs (fun W => Below w.heap.size w W ∧ W.cell? ⟨w.heap.size, 0, none⟩ = some (.int .i64 K) ∧ W.cell? ⟨w.heap.size, 1, none⟩ = some (.int .i64 a) ∧ W.cell? ⟨w.heap.size, 2, none⟩ = some (.int .i64 b) ∧ W.cell? ⟨w.heap.size, 3, none⟩ = some (.int .i64 c) ∧ W.cell? ⟨w.heap.size, 4, none⟩ = some (.int .i64 m)) ?_ ?_
  · refine ⟨?_, ?_, ?_, ?_, ?_, ?_⟩
    all_goals (first | with_reducible assumption | ((repeat (first | with_reducible assumption | with_reducible refine c_dr _ ?_ | with_reducible refine c_d1 ?_ | with_reducible refine c_al _ ?_ | (with_reducible refine c_set ?_ ?_; focus (dsimp only; omega)) | (with_reducible apply c_be; with_reducible assumption))); done) | ((repeat (first | with_reducible assumption | with_reducible exact Below.refl _ _ | with_reducible refine Below.drew ?_ | with_reducible refine below_drewN ?_ _ | with_reducible refine bw_alloc ?_ _ | (with_reducible refine bw_set ?_ ?_ _; focus (dsimp only; omega)) | (with_reducible apply bw_behind; with_reducible assumption))); done) | (simp [go_sem, *]; omega) | (simp (maxDischargeDepth := 4) [go_sem, *]; done))
  clear CE
  rintro w0 ⟨hB0, c0, c1, c2, c3, c4⟩
  have lB : ltB w.heap.size w0.heap.size = true := by unfold ltB; simpa using World.block_lt_of_cell? _ _ c0
  have hlw : w.heap.size < w0.heap.size := World.block_lt_of_cell? _ _ c0
  go_cut [5] (fun s5 wx => ∃ n : Nat, s5 = .pointer (some ⟨n, 0, none⟩) ∧ wx.cell? ⟨n, 0, none⟩ = some (.string Na) ∧ wx.cell? ⟨n, 1, none⟩ = some (.int .u8 66) ∧ wx.cell? ⟨w.heap.size, 1, none⟩ = some (.int .i64 a) ∧ wx.cell? ⟨w.heap.size, 2, none⟩ = some (.int .i64 b) ∧ wx.cell? ⟨w.heap.size, 3, none⟩ = some (.int .i64 c) ∧ wx.cell? ⟨w.heap.size, 4, none⟩ = some (.int .i64 m) ∧ Below w.heap.size w wx)
  case first =>
    go_region_with (first | (go_at_call 66; (with_reducible refine (rows_any _).mono ?_); rintro e wa ⟨N, rfl, hN, hba, hRa⟩; obtain ⟨r0, r1, r2, r3, r4⟩ := hRa _ hj; rw [hs] at r1; rw [hn] at r0; have lN : ltB N wa.heap.size = true := (by unfold ltB; simpa using World.block_lt_of_cell? _ _ r0); have hra := below_reads hba; have hha := below_holds hba; have lW : ltB w.heap.size wa.heap.size = true := (by have hz := hba.size; have hl := lB; unfold ltB at hl ⊢; simp at hl hz ⊢; omega)))
    all_goals
      have hBa : Below w.heap.size w wa := bw_behind hba (by (repeat (first | with_reducible assumption | with_reducible exact Below.refl _ _ | with_reducible refine Below.drew ?_ | with_reducible refine below_drewN ?_ _ | with_reducible refine bw_alloc ?_ _ | (with_reducible refine bw_set ?_ ?_ _; focus (dsimp only; omega)) | (with_reducible apply bw_behind; with_reducible assumption))))
      have hlw2 : w.heap.size < wa.heap.size := by
        have := lW
        unfold ltB at this
        simpa using this
      go_wp2_with fail
      go_meet
      refine ⟨_, rfl, ?_, ?_, ?_, ?_, ?_, ?_, ?_⟩
    all_goals (first | with_reducible assumption | ((repeat (first | with_reducible assumption | with_reducible refine c_dr _ ?_ | with_reducible refine c_d1 ?_ | with_reducible refine c_al _ ?_ | (with_reducible refine c_set ?_ ?_; focus (dsimp only; omega)) | (with_reducible apply c_be; with_reducible assumption))); done) | ((repeat (first | with_reducible assumption | with_reducible exact Below.refl _ _ | with_reducible refine Below.drew ?_ | with_reducible refine below_drewN ?_ _ | with_reducible refine bw_alloc ?_ _ | (with_reducible refine bw_set ?_ ?_ _; focus (dsimp only; omega)) | (with_reducible apply bw_behind; with_reducible assumption))); done) | (simp [go_sem, *]; omega) | (simp (maxDischargeDepth := 4) [go_sem, *]; done))
  case rest =>
    obtain ⟨n, rfl, z0, z1, z2, z3, z4, z5, hB⟩ := hcut
    clear c0 c1 c2 c3 c4 k1 k2 k5 k6 k7 hB0 lB
    go_upto_region 5 with fail
    have y0 := behind_cell0 z0
    have y1 := behind_cell0 z1
    have y2 := behind_cell0 z2
    have y3 := behind_cell0 z3
    have y4 := behind_cell0 z4
    have y5 := behind_cell0 z5
    have hsome := Behind.any wc
    clear z0 z1 z2 z3 z4 z5
    refine wp_region_behind wc (by kernel_rfl) (by kernel_rfl) (Below.refl _ _) ?_
    repeat (go_big_quiet_step (first | (go_at_call 70; with_reducible first | exact behind_m CA.out _ | exact behind_m CB.out _ | exact behind_m CC.out _) | (go_at_call 32; with_reducible first | exact behind_m CM.out _)))
    refine wpQuiet_nil ?_
    rintro _ ⟨y, rfl⟩
    have hBy := bw_behind y.below hB
    have x0 := y0 y
    have x1 := y1 y
    clear hsome y0 y1 y2 y3 y4 y5
    obtain ⟨w1, hw1⟩ : ∃ W, W = y.world := ⟨_, rfl⟩
    rw [← hw1] at hBy x0 x1 ⊢
    clear hw1 y hB
    go_wp2
    refine bodyPost_ret (v := .string Z6) (by simp (maxDischargeDepth := 4) [results, Tryz.results35, go_sem, *]) rfl ?_
    refine ⟨rfl, ?_⟩
    repeat (first | with_reducible assumption | with_reducible exact Below.refl _ _ | with_reducible refine Below.drew ?_ | with_reducible refine below_drewN ?_ _ | with_reducible refine bw_alloc ?_ _ | (with_reducible refine bw_set ?_ ?_ _; focus (dsimp only; omega)) | (with_reducible apply bw_behind; with_reducible assumption))

set_option maxRecDepth 100000 in
set_option maxHeartbeats 8000000 in
theorem rtext_U (j : Nat) (hj : j < 69) (a b c m V : Int) (hs : shp (j + 1) = 85) (Na Da Aa Ba Ma Z1 Z2 Z3 Z4 : ByteArray) (hn : nameB (j + 1) = Na)
    (ce : ∀ W, Calls Tryz.prog 69 #[.agg #[.int .i64 ((j : Int) + 1), .int .i64 a, .int .i64 b, .int .i64 c, .int .i64 m]] W (Makes (.tuple #[.int .u32 V, .bool true]) W))
    (ca : ∀ W, Calls Tryz.prog 70 #[.int .i64 a] W (Makes (.string Da) W)) (cb : ∀ W, Calls Tryz.prog 70 #[.int .i64 b] W (Makes (.string Aa) W)) (cc : ∀ W, Calls Tryz.prog 70 #[.int .i64 c] W (Makes (.string Ba) W)) (cm : ∀ W, Calls Tryz.prog 32 #[.int .i64 m] W (Makes (.string Ma) W)) (q0 : ∀ W, (Op.stringOp .add Na ⟨#[32]⟩).run Tryz.prog W = .ok (.string Z1) W) (q1 : ∀ W, (Op.stringOp .add Z1 Da).run Tryz.prog W = .ok (.string Z2) W) (q2 : ∀ W, (Op.stringOp .add Z2 ⟨#[44, 32]⟩).run Tryz.prog W = .ok (.string Z3) W) (q3 : ∀ W, (Op.stringOp .add Z3 Ma).run Tryz.prog W = .ok (.string Z4) W) (w : World) :
    Calls Tryz.prog 35 #[.agg #[.int .i64 ((j : Int) + 1), .int .i64 a, .int .i64 b, .int .i64 c, .int .i64 m]] w (Makes (.string Z4) w) := by
  have CE := hide ce
  have CA := hide ca
  have CB := hide cb
  have CC := hide cc
  have CM := hide cm
  clear ce ca cb cc cm
  obtain ⟨K, hK⟩ : ∃ K, (j : Int) + 1 = K := ⟨_, rfl⟩
  have k1 : IntKind.i64.wrap (K - 1) = (j : Int) := by rw [IntKind.wrap_i64]; omega
  have k7 : IntKind.i64.wrap (j : Int) = (j : Int) := by rw [IntKind.wrap_i64]; omega
  have k2 : K - 1 = (j : Int) := by omega
  have k3 : (j : Int) < 69 := by omega
  have k4 : (0 : Int) ≤ (j : Int) := by omega
  have k5 : K ≤ 69 := by omega
  have k6 : 1 ≤ K := by omega
  rw [hK] at CE ⊢
  clear hK
  have SS := cell_same
  have LB' := ltB_add
  have LS := ltB_self
  have LA' := alloc_reads
  have LH := alloc_holds
  go_enter Tryz.func35, Tryz.ntmps35
  go_upto_region 4 with (first | (go_at_call 69; (with_reducible refine (CE.out _).mono ?_); rintro e w1 ⟨rfl, hb1⟩; have hr1 := below_reads hb1; have hh1 := below_holds hb1; obtain ⟨m1, hs1⟩ := below_grew hb1))
  refine wp_abs (fun W => Below w.heap.size w W ∧ W.cell? ⟨w.heap.size, 0, none⟩ = some (.int .i64 K) ∧ W.cell? ⟨w.heap.size, 1, none⟩ = some (.int .i64 a) ∧ W.cell? ⟨w.heap.size, 2, none⟩ = some (.int .i64 b) ∧ W.cell? ⟨w.heap.size, 3, none⟩ = some (.int .i64 c) ∧ W.cell? ⟨w.heap.size, 4, none⟩ = some (.int .i64 m)) ?_ ?_
  · refine ⟨?_, ?_, ?_, ?_, ?_, ?_⟩
    all_goals (first | with_reducible assumption | ((repeat (first | with_reducible assumption | with_reducible refine c_dr _ ?_ | with_reducible refine c_d1 ?_ | with_reducible refine c_al _ ?_ | (with_reducible refine c_set ?_ ?_; focus (dsimp only; omega)) | (with_reducible apply c_be; with_reducible assumption))); done) | ((repeat (first | with_reducible assumption | with_reducible exact Below.refl _ _ | with_reducible refine Below.drew ?_ | with_reducible refine below_drewN ?_ _ | with_reducible refine bw_alloc ?_ _ | (with_reducible refine bw_set ?_ ?_ _; focus (dsimp only; omega)) | (with_reducible apply bw_behind; with_reducible assumption))); done) | (simp [go_sem, *]; omega) | (simp (maxDischargeDepth := 4) [go_sem, *]; done))
  clear CE
  rintro w0 ⟨hB0, c0, c1, c2, c3, c4⟩
  have lB : ltB w.heap.size w0.heap.size = true := by unfold ltB; simpa using World.block_lt_of_cell? _ _ c0
  have hlw : w.heap.size < w0.heap.size := World.block_lt_of_cell? _ _ c0
  go_cut [5] (fun s5 wx => ∃ n : Nat, s5 = .pointer (some ⟨n, 0, none⟩) ∧ wx.cell? ⟨n, 0, none⟩ = some (.string Na) ∧ wx.cell? ⟨n, 1, none⟩ = some (.int .u8 85) ∧ wx.cell? ⟨w.heap.size, 1, none⟩ = some (.int .i64 a) ∧ wx.cell? ⟨w.heap.size, 2, none⟩ = some (.int .i64 b) ∧ wx.cell? ⟨w.heap.size, 3, none⟩ = some (.int .i64 c) ∧ wx.cell? ⟨w.heap.size, 4, none⟩ = some (.int .i64 m) ∧ Below w.heap.size w wx)
  case first =>
    go_region_with (first | (go_at_call 66; (with_reducible refine (rows_any _).mono ?_); rintro e wa ⟨N, rfl, hN, hba, hRa⟩; obtain ⟨r0, r1, r2, r3, r4⟩ := hRa _ hj; rw [hs] at r1; rw [hn] at r0; have lN : ltB N wa.heap.size = true := (by unfold ltB; simpa using World.block_lt_of_cell? _ _ r0); have hra := below_reads hba; have hha := below_holds hba; have lW : ltB w.heap.size wa.heap.size = true := (by have hz := hba.size; have hl := lB; unfold ltB at hl ⊢; simp at hl hz ⊢; omega)))
    all_goals
      have hBa : Below w.heap.size w wa := bw_behind hba (by (repeat (first | with_reducible assumption | with_reducible exact Below.refl _ _ | with_reducible refine Below.drew ?_ | with_reducible refine below_drewN ?_ _ | with_reducible refine bw_alloc ?_ _ | (with_reducible refine bw_set ?_ ?_ _; focus (dsimp only; omega)) | (with_reducible apply bw_behind; with_reducible assumption))))
      have hlw2 : w.heap.size < wa.heap.size := by
        have := lW
        unfold ltB at this
        simpa using this
      go_wp2_with fail
      go_meet
      refine ⟨_, rfl, ?_, ?_, ?_, ?_, ?_, ?_, ?_⟩
    all_goals (first | with_reducible assumption | ((repeat (first | with_reducible assumption | with_reducible refine c_dr _ ?_ | with_reducible refine c_d1 ?_ | with_reducible refine c_al _ ?_ | (with_reducible refine c_set ?_ ?_; focus (dsimp only; omega)) | (with_reducible apply c_be; with_reducible assumption))); done) | ((repeat (first | with_reducible assumption | with_reducible exact Below.refl _ _ | with_reducible refine Below.drew ?_ | with_reducible refine below_drewN ?_ _ | with_reducible refine bw_alloc ?_ _ | (with_reducible refine bw_set ?_ ?_ _; focus (dsimp only; omega)) | (with_reducible apply bw_behind; with_reducible assumption))); done) | (simp [go_sem, *]; omega) | (simp (maxDischargeDepth := 4) [go_sem, *]; done))
  case rest =>
    obtain ⟨n, rfl, z0, z1, z2, z3, z4, z5, hB⟩ := hcut
    clear c0 c1 c2 c3 c4 k1 k2 k5 k6 k7 hB0 lB
    go_upto_region 5 with fail
    have y0 := behind_cell0 z0
    have y1 := behind_cell0 z1
    have y2 := behind_cell0 z2
    have y3 := behind_cell0 z3
    have y4 := behind_cell0 z4
    have y5 := behind_cell0 z5
    have hsome := Behind.any wc
    clear z0 z1 z2 z3 z4 z5
    refine wp_region_behind wc (by kernel_rfl) (by kernel_rfl) (Below.refl _ _) ?_
    repeat (go_big_quiet_step (first | (go_at_call 70; with_reducible first | exact behind_m CA.out _ | exact behind_m CB.out _ | exact behind_m CC.out _) | (go_at_call 32; with_reducible first | exact behind_m CM.out _)))
    refine wpQuiet_nil ?_
    rintro _ ⟨y, rfl⟩
    have hBy := bw_behind y.below hB
    have x0 := y0 y
    have x1 := y1 y
    clear hsome y0 y1 y2 y3 y4 y5
    obtain ⟨w1, hw1⟩ : ∃ W, W = y.world := ⟨_, rfl⟩
    rw [← hw1] at hBy x0 x1 ⊢
    clear hw1 y hB
    go_wp2
    refine bodyPost_ret (v := .string Z4) (by simp (maxDischargeDepth := 4) [results, Tryz.results35, go_sem, *]) rfl ?_
    refine ⟨rfl, ?_⟩
    repeat (first | with_reducible assumption | with_reducible exact Below.refl _ _ | with_reducible refine Below.drew ?_ | with_reducible refine below_drewN ?_ _ | with_reducible refine bw_alloc ?_ _ | (with_reducible refine bw_set ?_ ?_ _; focus (dsimp only; omega)) | (with_reducible apply bw_behind; with_reducible assumption))

set_option maxRecDepth 100000 in
set_option maxHeartbeats 8000000 in
theorem rtext_J (j : Nat) (hj : j < 69) (a b c m V : Int) (hs : shp (j + 1) = 74) (Na Da Aa Ba Ma Z1 Z2 Z3 Z4 : ByteArray) (hn : nameB (j + 1) = Na)
    (ce : ∀ W, Calls Tryz.prog 69 #[.agg #[.int .i64 ((j : Int) + 1), .int .i64 a, .int .i64 b, .int .i64 c, .int .i64 m]] W (Makes (.tuple #[.int .u32 V, .bool true]) W))
    (ca : ∀ W, Calls Tryz.prog 70 #[.int .i64 a] W (Makes (.string Da) W)) (cb : ∀ W, Calls Tryz.prog 70 #[.int .i64 b] W (Makes (.string Aa) W)) (cc : ∀ W, Calls Tryz.prog 70 #[.int .i64 c] W (Makes (.string Ba) W)) (cm : ∀ W, Calls Tryz.prog 32 #[.int .i64 m] W (Makes (.string Ma) W)) (q0 : ∀ W, (Op.stringOp .add Na ⟨#[32]⟩).run Tryz.prog W = .ok (.string Z1) W) (q1 : ∀ W, (Op.stringOp .add Z1 Da).run Tryz.prog W = .ok (.string Z2) W) (q2 : ∀ W, (Op.stringOp .add Z2 ⟨#[44, 32]⟩).run Tryz.prog W = .ok (.string Z3) W) (q3 : ∀ W, (Op.stringOp .add Z3 Ma).run Tryz.prog W = .ok (.string Z4) W) (w : World) :
    Calls Tryz.prog 35 #[.agg #[.int .i64 ((j : Int) + 1), .int .i64 a, .int .i64 b, .int .i64 c, .int .i64 m]] w (Makes (.string Z4) w) := by
  have CE := hide ce
  have CA := hide ca
  have CB := hide cb
  have CC := hide cc
  have CM := hide cm
  clear ce ca cb cc cm
  obtain ⟨K, hK⟩ : ∃ K, (j : Int) + 1 = K := ⟨_, rfl⟩
  have k1 : IntKind.i64.wrap (K - 1) = (j : Int) := by rw [IntKind.wrap_i64]; omega
  have k7 : IntKind.i64.wrap (j : Int) = (j : Int) := by rw [IntKind.wrap_i64]; omega
  have k2 : K - 1 = (j : Int) := by omega
  have k3 : (j : Int) < 69 := by omega
  have k4 : (0 : Int) ≤ (j : Int) := by omega
  have k5 : K ≤ 69 := by omega
  have k6 : 1 ≤ K := by omega
  rw [hK] at CE ⊢
  clear hK
  have SS := cell_same
  have LB' := ltB_add
  have LS := ltB_self
  have LA' := alloc_reads
  have LH := alloc_holds
  go_enter Tryz.func35, Tryz.ntmps35
  go_upto_region 4 with (first | (go_at_call 69; (with_reducible refine (CE.out _).mono ?_); rintro e w1 ⟨rfl, hb1⟩; have hr1 := below_reads hb1; have hh1 := below_holds hb1; obtain ⟨m1, hs1⟩ := below_grew hb1))
  refine wp_abs (fun W => Below w.heap.size w W ∧ W.cell? ⟨w.heap.size, 0, none⟩ = some (.int .i64 K) ∧ W.cell? ⟨w.heap.size, 1, none⟩ = some (.int .i64 a) ∧ W.cell? ⟨w.heap.size, 2, none⟩ = some (.int .i64 b) ∧ W.cell? ⟨w.heap.size, 3, none⟩ = some (.int .i64 c) ∧ W.cell? ⟨w.heap.size, 4, none⟩ = some (.int .i64 m)) ?_ ?_
  · refine ⟨?_, ?_, ?_, ?_, ?_, ?_⟩
    all_goals (first | with_reducible assumption | ((repeat (first | with_reducible assumption | with_reducible refine c_dr _ ?_ | with_reducible refine c_d1 ?_ | with_reducible refine c_al _ ?_ | (with_reducible refine c_set ?_ ?_; focus (dsimp only; omega)) | (with_reducible apply c_be; with_reducible assumption))); done) | ((repeat (first | with_reducible assumption | with_reducible exact Below.refl _ _ | with_reducible refine Below.drew ?_ | with_reducible refine below_drewN ?_ _ | with_reducible refine bw_alloc ?_ _ | (with_reducible refine bw_set ?_ ?_ _; focus (dsimp only; omega)) | (with_reducible apply bw_behind; with_reducible assumption))); done) | (simp [go_sem, *]; omega) | (simp (maxDischargeDepth := 4) [go_sem, *]; done))
  clear CE
  rintro w0 ⟨hB0, c0, c1, c2, c3, c4⟩
  have lB : ltB w.heap.size w0.heap.size = true := by unfold ltB; simpa using World.block_lt_of_cell? _ _ c0
  have hlw : w.heap.size < w0.heap.size := World.block_lt_of_cell? _ _ c0
  go_cut [5] (fun s5 wx => ∃ n : Nat, s5 = .pointer (some ⟨n, 0, none⟩) ∧ wx.cell? ⟨n, 0, none⟩ = some (.string Na) ∧ wx.cell? ⟨n, 1, none⟩ = some (.int .u8 74) ∧ wx.cell? ⟨w.heap.size, 1, none⟩ = some (.int .i64 a) ∧ wx.cell? ⟨w.heap.size, 2, none⟩ = some (.int .i64 b) ∧ wx.cell? ⟨w.heap.size, 3, none⟩ = some (.int .i64 c) ∧ wx.cell? ⟨w.heap.size, 4, none⟩ = some (.int .i64 m) ∧ Below w.heap.size w wx)
  case first =>
    go_region_with (first | (go_at_call 66; (with_reducible refine (rows_any _).mono ?_); rintro e wa ⟨N, rfl, hN, hba, hRa⟩; obtain ⟨r0, r1, r2, r3, r4⟩ := hRa _ hj; rw [hs] at r1; rw [hn] at r0; have lN : ltB N wa.heap.size = true := (by unfold ltB; simpa using World.block_lt_of_cell? _ _ r0); have hra := below_reads hba; have hha := below_holds hba; have lW : ltB w.heap.size wa.heap.size = true := (by have hz := hba.size; have hl := lB; unfold ltB at hl ⊢; simp at hl hz ⊢; omega)))
    all_goals
      have hBa : Below w.heap.size w wa := bw_behind hba (by (repeat (first | with_reducible assumption | with_reducible exact Below.refl _ _ | with_reducible refine Below.drew ?_ | with_reducible refine below_drewN ?_ _ | with_reducible refine bw_alloc ?_ _ | (with_reducible refine bw_set ?_ ?_ _; focus (dsimp only; omega)) | (with_reducible apply bw_behind; with_reducible assumption))))
      have hlw2 : w.heap.size < wa.heap.size := by
        have := lW
        unfold ltB at this
        simpa using this
      go_wp2_with fail
      go_meet
      refine ⟨_, rfl, ?_, ?_, ?_, ?_, ?_, ?_, ?_⟩
    all_goals (first | with_reducible assumption | ((repeat (first | with_reducible assumption | with_reducible refine c_dr _ ?_ | with_reducible refine c_d1 ?_ | with_reducible refine c_al _ ?_ | (with_reducible refine c_set ?_ ?_; focus (dsimp only; omega)) | (with_reducible apply c_be; with_reducible assumption))); done) | ((repeat (first | with_reducible assumption | with_reducible exact Below.refl _ _ | with_reducible refine Below.drew ?_ | with_reducible refine below_drewN ?_ _ | with_reducible refine bw_alloc ?_ _ | (with_reducible refine bw_set ?_ ?_ _; focus (dsimp only; omega)) | (with_reducible apply bw_behind; with_reducible assumption))); done) | (simp [go_sem, *]; omega) | (simp (maxDischargeDepth := 4) [go_sem, *]; done))
  case rest =>
    obtain ⟨n, rfl, z0, z1, z2, z3, z4, z5, hB⟩ := hcut
    clear c0 c1 c2 c3 c4 k1 k2 k5 k6 k7 hB0 lB
    go_upto_region 5 with fail
    have y0 := behind_cell0 z0
    have y1 := behind_cell0 z1
    have y2 := behind_cell0 z2
    have y3 := behind_cell0 z3
    have y4 := behind_cell0 z4
    have y5 := behind_cell0 z5
    have hsome := Behind.any wc
    clear z0 z1 z2 z3 z4 z5
    refine wp_region_behind wc (by kernel_rfl) (by kernel_rfl) (Below.refl _ _) ?_
    repeat (go_big_quiet_step (first | (go_at_call 70; with_reducible first | exact behind_m CA.out _ | exact behind_m CB.out _ | exact behind_m CC.out _) | (go_at_call 32; with_reducible first | exact behind_m CM.out _)))
    refine wpQuiet_nil ?_
    rintro _ ⟨y, rfl⟩
    have hBy := bw_behind y.below hB
    have x0 := y0 y
    have x1 := y1 y
    clear hsome y0 y1 y2 y3 y4 y5
    obtain ⟨w1, hw1⟩ : ∃ W, W = y.world := ⟨_, rfl⟩
    rw [← hw1] at hBy x0 x1 ⊢
    clear hw1 y hB
    go_wp2
    refine bodyPost_ret (v := .string Z4) (by simp (maxDischargeDepth := 4) [results, Tryz.results35, go_sem, *]) rfl ?_
    refine ⟨rfl, ?_⟩
    repeat (first | with_reducible assumption | with_reducible exact Below.refl _ _ | with_reducible refine Below.drew ?_ | with_reducible refine below_drewN ?_ _ | with_reducible refine bw_alloc ?_ _ | (with_reducible refine bw_set ?_ ?_ _; focus (dsimp only; omega)) | (with_reducible apply bw_behind; with_reducible assumption))

set_option maxRecDepth 100000 in
set_option maxHeartbeats 8000000 in
theorem rtext_N (j : Nat) (hj : j < 69) (a b c m V : Int) (hs : shp (j + 1) = 78) (Na Da Aa Ba Ma  : ByteArray) (hn : nameB (j + 1) = Na)
    (ce : ∀ W, Calls Tryz.prog 69 #[.agg #[.int .i64 ((j : Int) + 1), .int .i64 a, .int .i64 b, .int .i64 c, .int .i64 m]] W (Makes (.tuple #[.int .u32 V, .bool true]) W))
    (ca : ∀ W, Calls Tryz.prog 70 #[.int .i64 a] W (Makes (.string Da) W)) (cb : ∀ W, Calls Tryz.prog 70 #[.int .i64 b] W (Makes (.string Aa) W)) (cc : ∀ W, Calls Tryz.prog 70 #[.int .i64 c] W (Makes (.string Ba) W)) (cm : ∀ W, Calls Tryz.prog 32 #[.int .i64 m] W (Makes (.string Ma) W)) (w : World) :
    Calls Tryz.prog 35 #[.agg #[.int .i64 ((j : Int) + 1), .int .i64 a, .int .i64 b, .int .i64 c, .int .i64 m]] w (Makes (.string Na) w) := by
  have CE := hide ce
  have CA := hide ca
  have CB := hide cb
  have CC := hide cc
  have CM := hide cm
  clear ce ca cb cc cm
  obtain ⟨K, hK⟩ : ∃ K, (j : Int) + 1 = K := ⟨_, rfl⟩
  have k1 : IntKind.i64.wrap (K - 1) = (j : Int) := by rw [IntKind.wrap_i64]; omega
  have k7 : IntKind.i64.wrap (j : Int) = (j : Int) := by rw [IntKind.wrap_i64]; omega
  have k2 : K - 1 = (j : Int) := by omega
  have k3 : (j : Int) < 69 := by omega
  have k4 : (0 : Int) ≤ (j : Int) := by omega
  have k5 : K ≤ 69 := by omega
  have k6 : 1 ≤ K := by omega
  rw [hK] at CE ⊢
  clear hK
  have SS := cell_same
  have LB' := ltB_add
  have LS := ltB_self
  have LA' := alloc_reads
  have LH := alloc_holds
  go_enter Tryz.func35, Tryz.ntmps35
  go_upto_region 4 with (first | (go_at_call 69; (with_reducible refine (CE.out _).mono ?_); rintro e w1 ⟨rfl, hb1⟩; have hr1 := below_reads hb1; have hh1 := below_holds hb1; obtain ⟨m1, hs1⟩ := below_grew hb1))
  refine wp_abs (fun W => Below w.heap.size w W ∧ W.cell? ⟨w.heap.size, 0, none⟩ = some (.int .i64 K) ∧ W.cell? ⟨w.heap.size, 1, none⟩ = some (.int .i64 a) ∧ W.cell? ⟨w.heap.size, 2, none⟩ = some (.int .i64 b) ∧ W.cell? ⟨w.heap.size, 3, none⟩ = some (.int .i64 c) ∧ W.cell? ⟨w.heap.size, 4, none⟩ = some (.int .i64 m)) ?_ ?_
  · refine ⟨?_, ?_, ?_, ?_, ?_, ?_⟩
    all_goals (first | with_reducible assumption | ((repeat (first | with_reducible assumption | with_reducible refine c_dr _ ?_ | with_reducible refine c_d1 ?_ | with_reducible refine c_al _ ?_ | (with_reducible refine c_set ?_ ?_; focus (dsimp only; omega)) | (with_reducible apply c_be; with_reducible assumption))); done) | ((repeat (first | with_reducible assumption | with_reducible exact Below.refl _ _ | with_reducible refine Below.drew ?_ | with_reducible refine below_drewN ?_ _ | with_reducible refine bw_alloc ?_ _ | (with_reducible refine bw_set ?_ ?_ _; focus (dsimp only; omega)) | (with_reducible apply bw_behind; with_reducible assumption))); done) | (simp [go_sem, *]; omega) | (simp (maxDischargeDepth := 4) [go_sem, *]; done))
  clear CE
  rintro w0 ⟨hB0, c0, c1, c2, c3, c4⟩
  have lB : ltB w.heap.size w0.heap.size = true := by unfold ltB; simpa using World.block_lt_of_cell? _ _ c0
  have hlw : w.heap.size < w0.heap.size := World.block_lt_of_cell? _ _ c0
  go_cut [5] (fun s5 wx => ∃ n : Nat, s5 = .pointer (some ⟨n, 0, none⟩) ∧ wx.cell? ⟨n, 0, none⟩ = some (.string Na) ∧ wx.cell? ⟨n, 1, none⟩ = some (.int .u8 78) ∧ wx.cell? ⟨w.heap.size, 1, none⟩ = some (.int .i64 a) ∧ wx.cell? ⟨w.heap.size, 2, none⟩ = some (.int .i64 b) ∧ wx.cell? ⟨w.heap.size, 3, none⟩ = some (.int .i64 c) ∧ wx.cell? ⟨w.heap.size, 4, none⟩ = some (.int .i64 m) ∧ Below w.heap.size w wx)
  case first =>
    go_region_with (first | (go_at_call 66; (with_reducible refine (rows_any _).mono ?_); rintro e wa ⟨N, rfl, hN, hba, hRa⟩; obtain ⟨r0, r1, r2, r3, r4⟩ := hRa _ hj; rw [hs] at r1; rw [hn] at r0; have lN : ltB N wa.heap.size = true := (by unfold ltB; simpa using World.block_lt_of_cell? _ _ r0); have hra := below_reads hba; have hha := below_holds hba; have lW : ltB w.heap.size wa.heap.size = true := (by have hz := hba.size; have hl := lB; unfold ltB at hl ⊢; simp at hl hz ⊢; omega)))
    all_goals
      have hBa : Below w.heap.size w wa := bw_behind hba (by (repeat (first | with_reducible assumption | with_reducible exact Below.refl _ _ | with_reducible refine Below.drew ?_ | with_reducible refine below_drewN ?_ _ | with_reducible refine bw_alloc ?_ _ | (with_reducible refine bw_set ?_ ?_ _; focus (dsimp only; omega)) | (with_reducible apply bw_behind; with_reducible assumption))))
      have hlw2 : w.heap.size < wa.heap.size := by
        have := lW
        unfold ltB at this
        simpa using this
      go_wp2_with fail
      go_meet
      refine ⟨_, rfl, ?_, ?_, ?_, ?_, ?_, ?_, ?_⟩
    all_goals (first | with_reducible assumption | ((repeat (first | with_reducible assumption | with_reducible refine c_dr _ ?_ | with_reducible refine c_d1 ?_ | with_reducible refine c_al _ ?_ | (with_reducible refine c_set ?_ ?_; focus (dsimp only; omega)) | (with_reducible apply c_be; with_reducible assumption))); done) | ((repeat (first | with_reducible assumption | with_reducible exact Below.refl _ _ | with_reducible refine Below.drew ?_ | with_reducible refine below_drewN ?_ _ | with_reducible refine bw_alloc ?_ _ | (with_reducible refine bw_set ?_ ?_ _; focus (dsimp only; omega)) | (with_reducible apply bw_behind; with_reducible assumption))); done) | (simp [go_sem, *]; omega) | (simp (maxDischargeDepth := 4) [go_sem, *]; done))
  case rest =>
    obtain ⟨n, rfl, z0, z1, z2, z3, z4, z5, hB⟩ := hcut
    clear c0 c1 c2 c3 c4 k1 k2 k5 k6 k7 hB0 lB
    go_upto_region 5 with fail
    have y0 := behind_cell0 z0
    have y1 := behind_cell0 z1
    have y2 := behind_cell0 z2
    have y3 := behind_cell0 z3
    have y4 := behind_cell0 z4
    have y5 := behind_cell0 z5
    have hsome := Behind.any wc
    clear z0 z1 z2 z3 z4 z5
    refine wp_region_behind wc (by kernel_rfl) (by kernel_rfl) (Below.refl _ _) ?_
    repeat (go_big_quiet_step (first | (go_at_call 70; with_reducible first | exact behind_m CA.out _ | exact behind_m CB.out _ | exact behind_m CC.out _) | (go_at_call 32; with_reducible first | exact behind_m CM.out _)))
    refine wpQuiet_nil ?_
    rintro _ ⟨y, rfl⟩
    have hBy := bw_behind y.below hB
    have x0 := y0 y
    have x1 := y1 y
    clear hsome y0 y1 y2 y3 y4 y5
    obtain ⟨w1, hw1⟩ : ∃ W, W = y.world := ⟨_, rfl⟩
    rw [← hw1] at hBy x0 x1 ⊢
    clear hw1 y hB
    go_wp2
    refine bodyPost_ret (v := .string Na) (by simp (maxDischargeDepth := 4) [results, Tryz.results35, go_sem, *]) rfl ?_
    refine ⟨rfl, ?_⟩
    repeat (first | with_reducible assumption | with_reducible exact Below.refl _ _ | with_reducible refine Below.drew ?_ | with_reducible refine below_drewN ?_ _ | with_reducible refine bw_alloc ?_ _ | (with_reducible refine bw_set ?_ ?_ _; focus (dsimp only; omega)) | (with_reducible apply bw_behind; with_reducible assumption))

end Go.Proofs.YtlommbeokbicjaaGreatDoor
