/-
  RamTags holds: for every capability and two places the law returns true and turns nothing that was there.
-/
import Derived.Test.YtadhghnleidfpaaRam8
import Derived.Deep.DeepCutAuto
import Derived.Deep.RegionHeld3
namespace Go.Proofs.Ytadhghnleidfpaa.RamTags
open Go.RowKit Words

attribute [local irreducible] World.setCells

set_option maxRecDepth 100000 in
set_option maxHeartbeats 8000000 in
theorem walk_touched (w : World) (q : Bool) (D E M A M2 A2 G P O OG K X0 X1 X2 X3 X4 X5 X6 X7 X8 X9 X10 X11 X12 X13 X14 X15 Y0 Y1 Y2 Y3 Y4 Y5 Y6 Y7 Y8 Y9 Y10 Y11 Y12 Y13 Y14 Y15 : Int) (B0 B1 B2 : Nat → Nat → BitVec 8) (S0 S1 S2 : Nat → BitVec 256) (x y : Nat → BitVec 8) (hX : sixteen x = [.int .u8 X0, .int .u8 X1, .int .u8 X2, .int .u8 X3, .int .u8 X4, .int .u8 X5, .int .u8 X6, .int .u8 X7, .int .u8 X8, .int .u8 X9, .int .u8 X10, .int .u8 X11, .int .u8 X12, .int .u8 X13, .int .u8 X14, .int .u8 X15]) (hY : sixteen y = [.int .u8 Y0, .int .u8 Y1, .int .u8 Y2, .int .u8 Y3, .int .u8 Y4, .int .u8 Y5, .int .u8 Y6, .int .u8 Y7, .int .u8 Y8, .int .u8 Y9, .int .u8 Y10, .int .u8 Y11, .int .u8 Y12, .int .u8 Y13, .int .u8 Y14, .int .u8 Y15]) (hxy : ∀ k, k < 16 → x k = y k ∨ K = (k : Int)) (c0 : ∀ W, W = w.alloc (.cells #[.bool q, .int .u64 M, .int .u64 A] 24) → Calls Try.prog 5 #[.int .i64 2] W fun e w' => e = .returned (.tuple #[.pointer (some ⟨w.heap.size + 1 + 1, 0, none⟩), .int .i64 0]) ∧ Mem w' (w.heap.size + 1 + 1) (w.heap.size + 1) B0 S0 ∧ w'.cell? ⟨w.heap.size, 0, none⟩ = some (.bool q) ∧ w'.cell? ⟨w.heap.size, 1, none⟩ = some (.int .u64 M) ∧ w'.cell? ⟨w.heap.size, 2, none⟩ = some (.int .u64 A) ∧ Below w.heap.size w w') (c1 : ∀ W, Mem W (w.heap.size + 1 + 1) (w.heap.size + 1) B0 S0 → W.cell? ⟨w.heap.size, 0, none⟩ = some (.bool q) ∧ W.cell? ⟨w.heap.size, 1, none⟩ = some (.int .u64 M) ∧ W.cell? ⟨w.heap.size, 2, none⟩ = some (.int .u64 A) ∧ Below w.heap.size w W → Calls Try.prog 6 #[.pointer (some ⟨w.heap.size + 1 + 1, 0, none⟩), .int .u64 P, .agg #[.bool q, .int .u64 M, .int .u64 A]] W fun e w' => e = .returned (.int .i64 0) ∧ Mem w' (w.heap.size + 1 + 1) (w.heap.size + 1) B1 S1 ∧ w'.cell? ⟨w.heap.size, 0, none⟩ = some (.bool q) ∧ w'.cell? ⟨w.heap.size, 1, none⟩ = some (.int .u64 M) ∧ w'.cell? ⟨w.heap.size, 2, none⟩ = some (.int .u64 A) ∧ Below w.heap.size w w') (c2 : ∀ W, Mem W (w.heap.size + 1 + 1) (w.heap.size + 1) B1 S1 → W.cell? ⟨w.heap.size, 0, none⟩ = some (.bool q) ∧ W.cell? ⟨w.heap.size, 1, none⟩ = some (.int .u64 M) ∧ W.cell? ⟨w.heap.size, 2, none⟩ = some (.int .u64 A) ∧ Below w.heap.size w W → Calls Try.prog 7 #[.pointer (some ⟨w.heap.size + 1 + 1, 0, none⟩), .int .u64 O, .int .i64 1, .int .u64 171] W fun e w' => e = .returned (.int .i64 0) ∧ Mem w' (w.heap.size + 1 + 1) (w.heap.size + 1) B2 S2 ∧ w'.cell? ⟨w.heap.size, 0, none⟩ = some (.bool q) ∧ w'.cell? ⟨w.heap.size, 1, none⟩ = some (.int .u64 M) ∧ w'.cell? ⟨w.heap.size, 2, none⟩ = some (.int .u64 A) ∧ Below w.heap.size w w') (c3 : ∀ W, Mem W (w.heap.size + 1 + 1) (w.heap.size + 1) B2 S2 → Calls Try.prog 8 #[.pointer (some ⟨w.heap.size + 1 + 1, 0, none⟩), .int .u64 P] W (Makes (.tuple #[.agg #[.bool false, .int .u64 M2, .int .u64 A2], .int .i64 0]) W)) (c4 : ∀ W, Mem W (w.heap.size + 1 + 1) (w.heap.size + 1) B2 S2 → Calls Try.prog 9 #[.pointer (some ⟨w.heap.size + 1 + 1, 0, none⟩), .int .u64 O, .int .i64 1] W (Quiet (.tuple #[.int .u64 171, .int .i64 0]) W)) (c5 : ∀ W, Calls Try.prog 10 #[.agg #[.bool q, .int .u64 M, .int .u64 A]] W (Makes (.agg #[.int .u8 X0, .int .u8 X1, .int .u8 X2, .int .u8 X3, .int .u8 X4, .int .u8 X5, .int .u8 X6, .int .u8 X7, .int .u8 X8, .int .u8 X9, .int .u8 X10, .int .u8 X11, .int .u8 X12, .int .u8 X13, .int .u8 X14, .int .u8 X15]) W)) (c6 : ∀ W, Calls Try.prog 10 #[.agg #[.bool false, .int .u64 M2, .int .u64 A2]] W (Makes (.agg #[.int .u8 Y0, .int .u8 Y1, .int .u8 Y2, .int .u8 Y3, .int .u8 Y4, .int .u8 Y5, .int .u8 Y6, .int .u8 Y7, .int .u8 Y8, .int .u8 Y9, .int .u8 Y10, .int .u8 Y11, .int .u8 Y12, .int .u8 Y13, .int .u8 Y14, .int .u8 Y15]) W)) (_hG : bits .and .i64 D 511 = G) (_hG1 : IntKind.u64.wrap G = G) (_hP : G * 16 = P) (_hP2 : IntKind.u64.wrap P = P) (_hO : bits .and .i64 E 8191 = O) (_hO2 : IntKind.u64.wrap O = O) (_hQ : P / 16 = G) (_hQ2 : P.tdiv 16 = G) (_hR : O / 16 = OG) (_hR2 : O.tdiv 16 = OG) (_hR3 : IntKind.u64.wrap OG = OG) (_hI : (OG == G) = true) (_hK : O % 16 = K) (_hK2 : O.tmod 16 = K) (_hK3 : RowKit.wrap64 K = K) :
    Calls Try.prog 3 #[.agg #[.bool q, .int .u64 M, .int .u64 A], .int .i64 D, .int .i64 E] w (Makes (.bool true) w) := by
  have Cc0 := hide c0
  have Cc1 := hide c1
  have Cc2 := hide c2
  have Cc3 := hide c3
  have Cc4 := hide c4
  have Cc5 := hide c5
  have Cc6 := hide c6
  clear c0 c1 c2 c3 c4 c5 c6
  have HX := hide hX
  clear hX
  have HY := hide hY
  have HXY := hide hxy
  clear hY hxy
  have SS := cell_same
  have LB' := ltB_add
  have LS := ltB_self
  have LA' := alloc_reads
  have LH := alloc_holds
  go_enter Try.func3, Try.ntmps3
  go_upto_region 15 with (first | (go_at_call 5; (with_reducible refine (Cc0.out _ ?_).mono ?_); (focus (first | rfl | simp)); rintro e w1 ⟨rfl, hm1, g10, g11, g12, hb1⟩) | (go_at_call 6; (with_reducible refine (Cc1.out _ ?_ ?_).mono ?_); (focus (repeat (first | with_reducible assumption | with_reducible refine mem_dr _ ?_ | with_reducible refine mem_d1 ?_ | with_reducible refine mem_al _ ?_ | (with_reducible apply mem_be; with_reducible assumption)))); (focus (refine ⟨?_, ?_, ?_, ?_⟩ <;> first | ((repeat (first | with_reducible assumption | with_reducible refine c_dr _ ?_ | with_reducible refine c_d1 ?_ | with_reducible refine c_al _ ?_ | (with_reducible refine c_set ?_ ?_; focus (dsimp only; omega)) | (with_reducible apply c_be; with_reducible assumption))); done) | ((repeat (first | with_reducible assumption | with_reducible exact Below.refl _ _ | with_reducible refine Below.drew ?_ | with_reducible refine below_drewN ?_ _ | with_reducible refine bw_alloc ?_ _ | (with_reducible refine bw_set ?_ ?_ _; focus (dsimp only; omega)) | (with_reducible apply bw_behind; with_reducible assumption))); done))); rintro e w2 ⟨rfl, hm2, g20, g21, g22, hb2⟩; have hl2 : ltB w.heap.size w2.heap.size = true := decide_eq_true (World.block_lt_of_cell? w2 _ g20)) | (go_at_call 7; (with_reducible refine (Cc2.out _ ?_ ?_).mono ?_); (focus (repeat (first | with_reducible assumption | with_reducible refine mem_dr _ ?_ | with_reducible refine mem_d1 ?_ | with_reducible refine mem_al _ ?_ | (with_reducible apply mem_be; with_reducible assumption)))); (focus (refine ⟨?_, ?_, ?_, ?_⟩ <;> first | ((repeat (first | with_reducible assumption | with_reducible refine c_dr _ ?_ | with_reducible refine c_d1 ?_ | with_reducible refine c_al _ ?_ | (with_reducible refine c_set ?_ ?_; focus (dsimp only; omega)) | (with_reducible apply c_be; with_reducible assumption))); done) | ((repeat (first | with_reducible assumption | with_reducible exact Below.refl _ _ | with_reducible refine Below.drew ?_ | with_reducible refine below_drewN ?_ _ | with_reducible refine bw_alloc ?_ _ | (with_reducible refine bw_set ?_ ?_ _; focus (dsimp only; omega)) | (with_reducible apply bw_behind; with_reducible assumption))); done))); rintro e w3 ⟨rfl, hm3, g30, g31, g32, hb3⟩; have hl3 : ltB w.heap.size w3.heap.size = true := decide_eq_true (World.block_lt_of_cell? w3 _ g30)) | (go_at_call 8; (with_reducible refine (Cc3.out _ ?_).mono ?_); (focus (repeat (first | with_reducible assumption | with_reducible refine mem_dr _ ?_ | with_reducible refine mem_d1 ?_ | with_reducible refine mem_al _ ?_ | (with_reducible apply mem_be; with_reducible assumption)))); rintro e w4 ⟨rfl, hb4⟩; have hr4 := below_reads hb4; have hh4 := below_holds hb4; obtain ⟨m4, hs4⟩ := below_grew hb4) | (go_at_call 9; (with_reducible refine (Cc4.out _ ?_).mono ?_); (focus (repeat (first | with_reducible assumption | with_reducible refine mem_dr _ ?_ | with_reducible refine mem_d1 ?_ | with_reducible refine mem_al _ ?_ | (with_reducible apply mem_be; with_reducible assumption)))); rintro e w' ⟨rfl, n1, rfl⟩))
  obtain ⟨n4, hn4⟩ : ∃ n, w3.heap.size + m4 = n := ⟨_, rfl⟩
  rw [hn4]
  have k4 : w.heap.size ≤ n4 := by have := hb3.size; omega
  refine wp_abs (fun W => W.cell? ⟨w.heap.size, 0, none⟩ = some (.bool q) ∧ W.cell? ⟨w.heap.size, 1, none⟩ = some (.int .u64 M) ∧ W.cell? ⟨w.heap.size, 2, none⟩ = some (.int .u64 A) ∧ W.cell? ⟨n4, 0, none⟩ = some (.bool false) ∧ W.cell? ⟨n4, 1, none⟩ = some (.int .u64 M2) ∧ W.cell? ⟨n4, 2, none⟩ = some (.int .u64 A2) ∧ Below w.heap.size w W) ?_ ?_
  · refine ⟨?_, ?_, ?_, ?_, ?_, ?_, ?_⟩
    · (first | with_reducible assumption | ((repeat (first | with_reducible assumption | with_reducible refine c_dr _ ?_ | with_reducible refine c_d1 ?_ | with_reducible refine c_al _ ?_ | (with_reducible refine c_set ?_ ?_; focus (dsimp only; omega)) | (with_reducible apply c_be; with_reducible assumption))); done) | ((repeat (first | with_reducible assumption | with_reducible refine o_dr _ ?_ | with_reducible refine o_d1 ?_ | with_reducible refine o_set ?_ | (with_reducible refine o_new ?_ ?_; (focus (simp)); (focus (simp))) | with_reducible refine o_al _ ?_ | (with_reducible apply o_be; with_reducible assumption))); done) | ((repeat (first | with_reducible assumption | with_reducible exact Below.refl _ _ | with_reducible refine Below.drew ?_ | with_reducible refine below_drewN ?_ _ | with_reducible refine bw_alloc ?_ _ | (with_reducible refine bw_set ?_ ?_ _; focus (dsimp only; omega)) | (with_reducible apply bw_behind; with_reducible assumption))); done) | (simp [go_sem, *]; omega) | (simp (maxDischargeDepth := 4) [go_sem, *]; done))
    · (first | with_reducible assumption | ((repeat (first | with_reducible assumption | with_reducible refine c_dr _ ?_ | with_reducible refine c_d1 ?_ | with_reducible refine c_al _ ?_ | (with_reducible refine c_set ?_ ?_; focus (dsimp only; omega)) | (with_reducible apply c_be; with_reducible assumption))); done) | ((repeat (first | with_reducible assumption | with_reducible refine o_dr _ ?_ | with_reducible refine o_d1 ?_ | with_reducible refine o_set ?_ | (with_reducible refine o_new ?_ ?_; (focus (simp)); (focus (simp))) | with_reducible refine o_al _ ?_ | (with_reducible apply o_be; with_reducible assumption))); done) | ((repeat (first | with_reducible assumption | with_reducible exact Below.refl _ _ | with_reducible refine Below.drew ?_ | with_reducible refine below_drewN ?_ _ | with_reducible refine bw_alloc ?_ _ | (with_reducible refine bw_set ?_ ?_ _; focus (dsimp only; omega)) | (with_reducible apply bw_behind; with_reducible assumption))); done) | (simp [go_sem, *]; omega) | (simp (maxDischargeDepth := 4) [go_sem, *]; done))
    · (first | with_reducible assumption | ((repeat (first | with_reducible assumption | with_reducible refine c_dr _ ?_ | with_reducible refine c_d1 ?_ | with_reducible refine c_al _ ?_ | (with_reducible refine c_set ?_ ?_; focus (dsimp only; omega)) | (with_reducible apply c_be; with_reducible assumption))); done) | ((repeat (first | with_reducible assumption | with_reducible refine o_dr _ ?_ | with_reducible refine o_d1 ?_ | with_reducible refine o_set ?_ | (with_reducible refine o_new ?_ ?_; (focus (simp)); (focus (simp))) | with_reducible refine o_al _ ?_ | (with_reducible apply o_be; with_reducible assumption))); done) | ((repeat (first | with_reducible assumption | with_reducible exact Below.refl _ _ | with_reducible refine Below.drew ?_ | with_reducible refine below_drewN ?_ _ | with_reducible refine bw_alloc ?_ _ | (with_reducible refine bw_set ?_ ?_ _; focus (dsimp only; omega)) | (with_reducible apply bw_behind; with_reducible assumption))); done) | (simp [go_sem, *]; omega) | (simp (maxDischargeDepth := 4) [go_sem, *]; done))
    · rw [← hn4]; simp [go_sem, *]
    · rw [← hn4]; simp [go_sem, *]
    · rw [← hn4]; simp [go_sem, *]
    · repeat (first | with_reducible assumption | with_reducible exact Below.refl _ _ | with_reducible refine Below.drew ?_ | with_reducible refine below_drewN ?_ _ | with_reducible refine bw_alloc ?_ _ | (with_reducible refine bw_set ?_ ?_ _; focus (dsimp only; omega)) | (with_reducible apply bw_behind; with_reducible assumption))
  rintro w5 ⟨e0, e1, e2, d0, d1, d2, hb5⟩
  clear hn4 hs4 hr4 hh4 hb4 hb3 hb2 hb1 hm1 hm2 hm3 g10 g11 g12 g20 g21 g22 g30 g31 g32
  have oneX : ∀ v : Value, v ∈ [.int .u8 X0, .int .u8 X1, .int .u8 X2, .int .u8 X3, .int .u8 X4, .int .u8 X5, .int .u8 X6, .int .u8 X7, .int .u8 X8, .int .u8 X9, .int .u8 X10, .int .u8 X11, .int .u8 X12, .int .u8 X13, .int .u8 X14, .int .u8 X15] → v.oneCell' = true := by rw [← HX.out]; exact sixteen_one x
  have oneY : ∀ v : Value, v ∈ [.int .u8 Y0, .int .u8 Y1, .int .u8 Y2, .int .u8 Y3, .int .u8 Y4, .int .u8 Y5, .int .u8 Y6, .int .u8 Y7, .int .u8 Y8, .int .u8 Y9, .int .u8 Y10, .int .u8 Y11, .int .u8 Y12, .int .u8 Y13, .int .u8 Y14, .int .u8 Y15] → v.oneCell' = true := by rw [← HY.out]; exact sixteen_one y
  have k5 := World.block_lt_of_cell? w5 _ e0
  have k6 := World.block_lt_of_cell? w5 _ d0
  simp only at k5 k6
  have TNX : ∀ (W : World) (t : TypeId) (b : Nat), W.heap.size = b → (W.alloc (.cells #[.int .u8 0, .int .u8 0, .int .u8 0, .int .u8 0, .int .u8 0, .int .u8 0, .int .u8 0, .int .u8 0, .int .u8 0, .int .u8 0, .int .u8 0, .int .u8 0, .int .u8 0, .int .u8 0, .int .u8 0, .int .u8 0] t)).there b 0 ([.int .u8 X0, .int .u8 X1, .int .u8 X2, .int .u8 X3, .int .u8 X4, .int .u8 X5, .int .u8 X6, .int .u8 X7, .int .u8 X8, .int .u8 X9, .int .u8 X10, .int .u8 X11, .int .u8 X12, .int .u8 X13, .int .u8 X14, .int .u8 X15] : List Value).length := fun _ _ _ h => there_new (by show 16 ≤ 16; omega) h
  have TNY : ∀ (W : World) (t : TypeId) (b : Nat), W.heap.size = b → (W.alloc (.cells #[.int .u8 0, .int .u8 0, .int .u8 0, .int .u8 0, .int .u8 0, .int .u8 0, .int .u8 0, .int .u8 0, .int .u8 0, .int .u8 0, .int .u8 0, .int .u8 0, .int .u8 0, .int .u8 0, .int .u8 0, .int .u8 0] t)).there b 0 ([.int .u8 Y0, .int .u8 Y1, .int .u8 Y2, .int .u8 Y3, .int .u8 Y4, .int .u8 Y5, .int .u8 Y6, .int .u8 Y7, .int .u8 Y8, .int .u8 Y9, .int .u8 Y10, .int .u8 Y11, .int .u8 Y12, .int .u8 Y13, .int .u8 Y14, .int .u8 Y15] : List Value).length := fun _ _ _ h => there_new (by show 16 ≤ 16; omega) h
  have TA := there_else
  have TS := there_sc
  have TD := fun (W : World) (b o n : Nat) => propext (World.there_drew W b o n)
  have SZ := size_al
  have SD : ∀ W : World, W.drew.heap.size = W.heap.size := fun _ => rfl
  have SZ2 := setCells_size
  have OT := or_t
  have TO := t_or
  have FO := f_or
  have LT1 := lt_one
  have iX : Option.map (fun x => x.size) (Try.prog.info? 35) = some ([.int .u8 X0, .int .u8 X1, .int .u8 X2, .int .u8 X3, .int .u8 X4, .int .u8 X5, .int .u8 X6, .int .u8 X7, .int .u8 X8, .int .u8 X9, .int .u8 X10, .int .u8 X11, .int .u8 X12, .int .u8 X13, .int .u8 X14, .int .u8 X15] : List Value).length := info16
  have iY : Option.map (fun x => x.size) (Try.prog.info? 35) = some ([.int .u8 Y0, .int .u8 Y1, .int .u8 Y2, .int .u8 Y3, .int .u8 Y4, .int .u8 Y5, .int .u8 Y6, .int .u8 Y7, .int .u8 Y8, .int .u8 Y9, .int .u8 Y10, .int .u8 Y11, .int .u8 Y12, .int .u8 Y13, .int .u8 Y14, .int .u8 Y15] : List Value).length := info16
  go_cut [16, 17] (fun s16 s17 wx => ∃ n5 n6 : Nat, s16 = .pointer (some ⟨n5, 0, none⟩) ∧ s17 = .pointer (some ⟨n6, 0, none⟩) ∧ Row wx n5 [.int .u8 X0, .int .u8 X1, .int .u8 X2, .int .u8 X3, .int .u8 X4, .int .u8 X5, .int .u8 X6, .int .u8 X7, .int .u8 X8, .int .u8 X9, .int .u8 X10, .int .u8 X11, .int .u8 X12, .int .u8 X13, .int .u8 X14, .int .u8 X15] ∧ Row wx n6 [.int .u8 Y0, .int .u8 Y1, .int .u8 Y2, .int .u8 Y3, .int .u8 Y4, .int .u8 Y5, .int .u8 Y6, .int .u8 Y7, .int .u8 Y8, .int .u8 Y9, .int .u8 Y10, .int .u8 Y11, .int .u8 Y12, .int .u8 Y13, .int .u8 Y14, .int .u8 Y15] ∧ Below w.heap.size w wx)
  case first =>
    clear _hG _hG1 _hP _hP2 _hO _hO2 _hQ _hQ2 _hR _hR2 _hR3 _hI _hK _hK2 _hK3 HX HY HXY Cc0 Cc1 Cc2 Cc3 Cc4
    go_region_held3 (fun w' => w'.cell? ⟨w.heap.size, 0, none⟩ = some (.bool q) ∧ w'.cell? ⟨w.heap.size, 1, none⟩ = some (.int .u64 M) ∧ w'.cell? ⟨w.heap.size, 2, none⟩ = some (.int .u64 A) ∧ w'.cell? ⟨n4, 0, none⟩ = some (.bool false) ∧ w'.cell? ⟨n4, 1, none⟩ = some (.int .u64 M2) ∧ w'.cell? ⟨n4, 2, none⟩ = some (.int .u64 A2) ∧ Below w.heap.size w w') (first | with_reducible assumption | (refine ⟨?_, ?_, ?_, ?_, ?_, ?_, ?_⟩ <;> (first | with_reducible assumption | ((repeat (first | with_reducible assumption | with_reducible refine c_dr _ ?_ | with_reducible refine c_d1 ?_ | with_reducible refine c_al _ ?_ | (with_reducible refine c_set ?_ ?_; focus (dsimp only; omega)) | (with_reducible apply c_be; with_reducible assumption) | (with_reducible refine c_sc ?_ ?_; focus (dsimp only; omega)))); done) | ((repeat (first | with_reducible assumption | with_reducible exact Below.refl _ _ | with_reducible refine Below.drew ?_ | with_reducible refine below_drewN ?_ _ | with_reducible refine bw_alloc ?_ _ | (with_reducible refine bw_set ?_ ?_ _; focus (dsimp only; omega)) | (with_reducible apply bw_behind; with_reducible assumption) | (with_reducible refine bw_sc _ ?_ ?_; focus omega))); done)))) (first | (go_at_call 10; (with_reducible refine (Cc5.out _).mono ?_); rintro e wx ⟨rfl, hbx⟩; have hrx := below_reads hbx; have hhx := below_holds hbx; obtain ⟨mx, hsx⟩ := below_grew hbx; have htx := there_be hbx) | (go_at_call 10; (with_reducible refine (Cc6.out _).mono ?_); rintro e wy ⟨rfl, hby⟩; have hry := below_reads hby; have hhy := below_holds hby; obtain ⟨my, hsy⟩ := below_grew hby; have hty := there_be hby))
    all_goals
      go_wp2_with fail
      go_meet
      refine ⟨_, _, rfl, rfl, ?_, ?_, ?_⟩
    all_goals (first | with_reducible assumption | ((repeat (first | with_reducible assumption | with_reducible exact Below.refl _ _ | with_reducible refine Below.drew ?_ | with_reducible refine below_drewN ?_ _ | with_reducible refine bw_alloc ?_ _ | (with_reducible refine bw_set ?_ ?_ _; focus (dsimp only; omega)) | (with_reducible apply bw_behind; with_reducible assumption) | (with_reducible refine bw_sc _ ?_ ?_; focus omega))); done) | ((repeat (first | with_reducible assumption | with_reducible refine k_dr _ ?_ | with_reducible refine k_d1 ?_ | (with_reducible refine row_sc (th_own ?_); focus (repeat (first | with_reducible assumption | with_reducible refine o_dr _ ?_ | with_reducible refine o_d1 ?_ | with_reducible refine o_set ?_ | (with_reducible refine o_new ?_ ?_; (focus (simp)); (focus (simp))) | (with_reducible refine o_new ?_ ?_; (focus (simp [*]; done)); (focus (simp))) | (with_reducible refine o_new ?_ ?_; (focus (simp [*]; omega)); (focus (simp))) | with_reducible refine o_sc ?_ | with_reducible refine o_al _ ?_ | (with_reducible apply o_be; with_reducible assumption)))) | (with_reducible refine k_sc ?_ ?_; focus omega) | with_reducible refine k_al _ ?_ | (with_reducible apply k_be; with_reducible assumption))); done))
  case rest =>
    obtain ⟨n5, n6, rfl, rfl, rx, ry, hB⟩ := hcut
    rw [← HX.out] at rx
    rw [← HY.out] at ry
    have hx : ∀ j, j < 16 → wc.cell? ⟨n5, j, none⟩ = some (byI (x j)) := fun j hj => rx j _ (sixteen_at x j hj)
    have hy : ∀ j, j < 16 → wc.cell? ⟨n6, j, none⟩ = some (byI (y j)) := fun j hj => ry j _ (sixteen_at y j hj)
    have Hx := hide hx
    have Hy := hide hy
    clear hx hy rx ry TNX TNY TA TS TD SZ SZ2 SD OT TO FO LT1 iX iY oneX oneY e0 e1 e2 d0 d1 d2
    go_wp2
    go_loopw [18] (fun i wr => ∃ k : Nat, k ≤ 16 ∧ i = .int .i64 (k : Int) ∧ Hid (∀ j, j < 16 → wr.cell? ⟨n5, j, none⟩ = some (byI (x j))) ∧ Hid (∀ j, j < 16 → wr.cell? ⟨n6, j, none⟩ = some (byI (y j))) ∧ Below w.heap.size w wr) (fun i _ => 16 - (intOf i).toNat)
    case atStart => exact ⟨0, by omega, rfl, Hx, Hy, by repeat (first | with_reducible assumption | with_reducible exact Below.refl _ _ | with_reducible refine Below.drew ?_ | with_reducible refine below_drewN ?_ _ | with_reducible refine bw_alloc ?_ _ | (with_reducible refine bw_set ?_ ?_ _; focus (dsimp only; omega)) | (with_reducible apply bw_behind; with_reducible assumption))⟩
    case round =>
      obtain ⟨k, hk, rfl, hx, hy, hB⟩ := hrel
      by_cases hlt : k < 16
      · have a := hx.out k hlt
        have b := hy.out k hlt
        unfold byI at a b
        have hk0 : (0 : Int) ≤ (k : Int) := by omega
        have hk1 : (k : Int) < 16 := by omega
        by_cases hxy : x k = y k
        · rw [← hxy] at b
          generalize ((x k).toNat : Int) = X at *
          go_wp2
          go_quiet (fail)
          go_wp2
          go_roundw
          case rel => exact ⟨k + 1, by omega, by go_num, hx, hy, by repeat (first | with_reducible assumption | with_reducible exact Below.refl _ _ | with_reducible refine Below.drew ?_ | with_reducible refine below_drewN ?_ _ | with_reducible refine bw_alloc ?_ _ | (with_reducible refine bw_set ?_ ?_ _; focus (dsimp only; omega)) | (with_reducible apply bw_behind; with_reducible assumption))⟩
          case measure => simp [intOf]; omega
        · have hK := (HXY.out k hlt).resolve_left hxy
          have hKe : (K == (k : Int)) = true := by simp [hK]
          clear hK
          have hne : ((x k).toNat : Int) ≠ ((y k).toNat : Int) := fun e => hxy (BitVec.eq_of_toNat_eq (by omega))
          clear hxy
          generalize ((x k).toNat : Int) = X at *
          generalize ((y k).toNat : Int) = Y at *
          have hnb : (X == Y) = false := by simpa using hne
          have hnm : (X != Y) = true := by simpa using hne
          go_wp2
          go_quiet (fail)
          go_wp2
          go_roundw
          case rel => exact ⟨k + 1, by omega, by go_num, hx, hy, by repeat (first | with_reducible assumption | with_reducible exact Below.refl _ _ | with_reducible refine Below.drew ?_ | with_reducible refine below_drewN ?_ _ | with_reducible refine bw_alloc ?_ _ | (with_reducible refine bw_set ?_ ?_ _; focus (dsimp only; omega)) | (with_reducible apply bw_behind; with_reducible assumption))⟩
          case measure => simp [intOf]; omega
      · have : k = 16 := by omega
        subst this
        go_wp2
        refine bodyPost_ret (v := .bool true) (by simp (maxDischargeDepth := 4) [results, Try.results3, go_sem, *]) rfl ?_
        refine ⟨rfl, ?_⟩
        repeat (first | with_reducible assumption | with_reducible exact Below.refl _ _ | with_reducible refine Below.drew ?_ | with_reducible refine below_drewN ?_ _ | with_reducible refine bw_alloc ?_ _ | (with_reducible refine bw_set ?_ ?_ _; focus (dsimp only; omega)) | (with_reducible apply bw_behind; with_reducible assumption))

set_option maxRecDepth 100000 in
set_option maxHeartbeats 8000000 in
theorem walk_apart (w : World) (q : Bool) (D E M A G P O OG K X0 X1 X2 X3 X4 X5 X6 X7 X8 X9 X10 X11 X12 X13 X14 X15 : Int) (B0 B1 B2 : Nat → Nat → BitVec 8) (S0 S1 S2 : Nat → BitVec 256) (x : Nat → BitVec 8) (hX : sixteen x = [.int .u8 X0, .int .u8 X1, .int .u8 X2, .int .u8 X3, .int .u8 X4, .int .u8 X5, .int .u8 X6, .int .u8 X7, .int .u8 X8, .int .u8 X9, .int .u8 X10, .int .u8 X11, .int .u8 X12, .int .u8 X13, .int .u8 X14, .int .u8 X15]) (c0 : ∀ W, W = w.alloc (.cells #[.bool q, .int .u64 M, .int .u64 A] 24) → Calls Try.prog 5 #[.int .i64 2] W fun e w' => e = .returned (.tuple #[.pointer (some ⟨w.heap.size + 1 + 1, 0, none⟩), .int .i64 0]) ∧ Mem w' (w.heap.size + 1 + 1) (w.heap.size + 1) B0 S0 ∧ w'.cell? ⟨w.heap.size, 0, none⟩ = some (.bool q) ∧ w'.cell? ⟨w.heap.size, 1, none⟩ = some (.int .u64 M) ∧ w'.cell? ⟨w.heap.size, 2, none⟩ = some (.int .u64 A) ∧ Below w.heap.size w w') (c1 : ∀ W, Mem W (w.heap.size + 1 + 1) (w.heap.size + 1) B0 S0 → W.cell? ⟨w.heap.size, 0, none⟩ = some (.bool q) ∧ W.cell? ⟨w.heap.size, 1, none⟩ = some (.int .u64 M) ∧ W.cell? ⟨w.heap.size, 2, none⟩ = some (.int .u64 A) ∧ Below w.heap.size w W → Calls Try.prog 6 #[.pointer (some ⟨w.heap.size + 1 + 1, 0, none⟩), .int .u64 P, .agg #[.bool q, .int .u64 M, .int .u64 A]] W fun e w' => e = .returned (.int .i64 0) ∧ Mem w' (w.heap.size + 1 + 1) (w.heap.size + 1) B1 S1 ∧ w'.cell? ⟨w.heap.size, 0, none⟩ = some (.bool q) ∧ w'.cell? ⟨w.heap.size, 1, none⟩ = some (.int .u64 M) ∧ w'.cell? ⟨w.heap.size, 2, none⟩ = some (.int .u64 A) ∧ Below w.heap.size w w') (c2 : ∀ W, Mem W (w.heap.size + 1 + 1) (w.heap.size + 1) B1 S1 → W.cell? ⟨w.heap.size, 0, none⟩ = some (.bool q) ∧ W.cell? ⟨w.heap.size, 1, none⟩ = some (.int .u64 M) ∧ W.cell? ⟨w.heap.size, 2, none⟩ = some (.int .u64 A) ∧ Below w.heap.size w W → Calls Try.prog 7 #[.pointer (some ⟨w.heap.size + 1 + 1, 0, none⟩), .int .u64 O, .int .i64 1, .int .u64 171] W fun e w' => e = .returned (.int .i64 0) ∧ Mem w' (w.heap.size + 1 + 1) (w.heap.size + 1) B2 S2 ∧ w'.cell? ⟨w.heap.size, 0, none⟩ = some (.bool q) ∧ w'.cell? ⟨w.heap.size, 1, none⟩ = some (.int .u64 M) ∧ w'.cell? ⟨w.heap.size, 2, none⟩ = some (.int .u64 A) ∧ Below w.heap.size w w') (c3 : ∀ W, Mem W (w.heap.size + 1 + 1) (w.heap.size + 1) B2 S2 → Calls Try.prog 8 #[.pointer (some ⟨w.heap.size + 1 + 1, 0, none⟩), .int .u64 P] W (Makes (.tuple #[.agg #[.bool q, .int .u64 M, .int .u64 A], .int .i64 0]) W)) (c4 : ∀ W, Mem W (w.heap.size + 1 + 1) (w.heap.size + 1) B2 S2 → Calls Try.prog 9 #[.pointer (some ⟨w.heap.size + 1 + 1, 0, none⟩), .int .u64 O, .int .i64 1] W (Quiet (.tuple #[.int .u64 171, .int .i64 0]) W)) (c5 : ∀ W, Calls Try.prog 10 #[.agg #[.bool q, .int .u64 M, .int .u64 A]] W (Makes (.agg #[.int .u8 X0, .int .u8 X1, .int .u8 X2, .int .u8 X3, .int .u8 X4, .int .u8 X5, .int .u8 X6, .int .u8 X7, .int .u8 X8, .int .u8 X9, .int .u8 X10, .int .u8 X11, .int .u8 X12, .int .u8 X13, .int .u8 X14, .int .u8 X15]) W)) (_hG : bits .and .i64 D 511 = G) (_hG1 : IntKind.u64.wrap G = G) (_hP : G * 16 = P) (_hP2 : IntKind.u64.wrap P = P) (_hO : bits .and .i64 E 8191 = O) (_hO2 : IntKind.u64.wrap O = O) (_hQ : P / 16 = G) (_hQ2 : P.tdiv 16 = G) (_hR : O / 16 = OG) (_hR2 : O.tdiv 16 = OG) (_hR3 : IntKind.u64.wrap OG = OG) (_hI : (OG == G) = false) (_hK : O % 16 = K) (_hK2 : O.tmod 16 = K) (_hK3 : RowKit.wrap64 K = K) :
    Calls Try.prog 3 #[.agg #[.bool q, .int .u64 M, .int .u64 A], .int .i64 D, .int .i64 E] w (Makes (.bool true) w) := by
  have Cc0 := hide c0
  have Cc1 := hide c1
  have Cc2 := hide c2
  have Cc3 := hide c3
  have Cc4 := hide c4
  have Cc5 := hide c5
  clear c0 c1 c2 c3 c4 c5
  have HX := hide hX
  clear hX
  have SS := cell_same
  have LB' := ltB_add
  have LS := ltB_self
  have LA' := alloc_reads
  have LH := alloc_holds
  go_enter Try.func3, Try.ntmps3
  go_upto_region 15 with (first | (go_at_call 5; (with_reducible refine (Cc0.out _ ?_).mono ?_); (focus (first | rfl | simp)); rintro e w1 ⟨rfl, hm1, g10, g11, g12, hb1⟩) | (go_at_call 6; (with_reducible refine (Cc1.out _ ?_ ?_).mono ?_); (focus (repeat (first | with_reducible assumption | with_reducible refine mem_dr _ ?_ | with_reducible refine mem_d1 ?_ | with_reducible refine mem_al _ ?_ | (with_reducible apply mem_be; with_reducible assumption)))); (focus (refine ⟨?_, ?_, ?_, ?_⟩ <;> first | ((repeat (first | with_reducible assumption | with_reducible refine c_dr _ ?_ | with_reducible refine c_d1 ?_ | with_reducible refine c_al _ ?_ | (with_reducible refine c_set ?_ ?_; focus (dsimp only; omega)) | (with_reducible apply c_be; with_reducible assumption))); done) | ((repeat (first | with_reducible assumption | with_reducible exact Below.refl _ _ | with_reducible refine Below.drew ?_ | with_reducible refine below_drewN ?_ _ | with_reducible refine bw_alloc ?_ _ | (with_reducible refine bw_set ?_ ?_ _; focus (dsimp only; omega)) | (with_reducible apply bw_behind; with_reducible assumption))); done))); rintro e w2 ⟨rfl, hm2, g20, g21, g22, hb2⟩; have hl2 : ltB w.heap.size w2.heap.size = true := decide_eq_true (World.block_lt_of_cell? w2 _ g20)) | (go_at_call 7; (with_reducible refine (Cc2.out _ ?_ ?_).mono ?_); (focus (repeat (first | with_reducible assumption | with_reducible refine mem_dr _ ?_ | with_reducible refine mem_d1 ?_ | with_reducible refine mem_al _ ?_ | (with_reducible apply mem_be; with_reducible assumption)))); (focus (refine ⟨?_, ?_, ?_, ?_⟩ <;> first | ((repeat (first | with_reducible assumption | with_reducible refine c_dr _ ?_ | with_reducible refine c_d1 ?_ | with_reducible refine c_al _ ?_ | (with_reducible refine c_set ?_ ?_; focus (dsimp only; omega)) | (with_reducible apply c_be; with_reducible assumption))); done) | ((repeat (first | with_reducible assumption | with_reducible exact Below.refl _ _ | with_reducible refine Below.drew ?_ | with_reducible refine below_drewN ?_ _ | with_reducible refine bw_alloc ?_ _ | (with_reducible refine bw_set ?_ ?_ _; focus (dsimp only; omega)) | (with_reducible apply bw_behind; with_reducible assumption))); done))); rintro e w3 ⟨rfl, hm3, g30, g31, g32, hb3⟩; have hl3 : ltB w.heap.size w3.heap.size = true := decide_eq_true (World.block_lt_of_cell? w3 _ g30)) | (go_at_call 8; (with_reducible refine (Cc3.out _ ?_).mono ?_); (focus (repeat (first | with_reducible assumption | with_reducible refine mem_dr _ ?_ | with_reducible refine mem_d1 ?_ | with_reducible refine mem_al _ ?_ | (with_reducible apply mem_be; with_reducible assumption)))); rintro e w4 ⟨rfl, hb4⟩; have hr4 := below_reads hb4; have hh4 := below_holds hb4; obtain ⟨m4, hs4⟩ := below_grew hb4) | (go_at_call 9; (with_reducible refine (Cc4.out _ ?_).mono ?_); (focus (repeat (first | with_reducible assumption | with_reducible refine mem_dr _ ?_ | with_reducible refine mem_d1 ?_ | with_reducible refine mem_al _ ?_ | (with_reducible apply mem_be; with_reducible assumption)))); rintro e w' ⟨rfl, n1, rfl⟩))
  obtain ⟨n4, hn4⟩ : ∃ n, w3.heap.size + m4 = n := ⟨_, rfl⟩
  rw [hn4]
  have k4 : w.heap.size ≤ n4 := by have := hb3.size; omega
  refine wp_abs (fun W => W.cell? ⟨w.heap.size, 0, none⟩ = some (.bool q) ∧ W.cell? ⟨w.heap.size, 1, none⟩ = some (.int .u64 M) ∧ W.cell? ⟨w.heap.size, 2, none⟩ = some (.int .u64 A) ∧ W.cell? ⟨n4, 0, none⟩ = some (.bool q) ∧ W.cell? ⟨n4, 1, none⟩ = some (.int .u64 M) ∧ W.cell? ⟨n4, 2, none⟩ = some (.int .u64 A) ∧ Below w.heap.size w W) ?_ ?_
  · refine ⟨?_, ?_, ?_, ?_, ?_, ?_, ?_⟩
    · (first | with_reducible assumption | ((repeat (first | with_reducible assumption | with_reducible refine c_dr _ ?_ | with_reducible refine c_d1 ?_ | with_reducible refine c_al _ ?_ | (with_reducible refine c_set ?_ ?_; focus (dsimp only; omega)) | (with_reducible apply c_be; with_reducible assumption))); done) | ((repeat (first | with_reducible assumption | with_reducible refine o_dr _ ?_ | with_reducible refine o_d1 ?_ | with_reducible refine o_set ?_ | (with_reducible refine o_new ?_ ?_; (focus (simp)); (focus (simp))) | with_reducible refine o_al _ ?_ | (with_reducible apply o_be; with_reducible assumption))); done) | ((repeat (first | with_reducible assumption | with_reducible exact Below.refl _ _ | with_reducible refine Below.drew ?_ | with_reducible refine below_drewN ?_ _ | with_reducible refine bw_alloc ?_ _ | (with_reducible refine bw_set ?_ ?_ _; focus (dsimp only; omega)) | (with_reducible apply bw_behind; with_reducible assumption))); done) | (simp [go_sem, *]; omega) | (simp (maxDischargeDepth := 4) [go_sem, *]; done))
    · (first | with_reducible assumption | ((repeat (first | with_reducible assumption | with_reducible refine c_dr _ ?_ | with_reducible refine c_d1 ?_ | with_reducible refine c_al _ ?_ | (with_reducible refine c_set ?_ ?_; focus (dsimp only; omega)) | (with_reducible apply c_be; with_reducible assumption))); done) | ((repeat (first | with_reducible assumption | with_reducible refine o_dr _ ?_ | with_reducible refine o_d1 ?_ | with_reducible refine o_set ?_ | (with_reducible refine o_new ?_ ?_; (focus (simp)); (focus (simp))) | with_reducible refine o_al _ ?_ | (with_reducible apply o_be; with_reducible assumption))); done) | ((repeat (first | with_reducible assumption | with_reducible exact Below.refl _ _ | with_reducible refine Below.drew ?_ | with_reducible refine below_drewN ?_ _ | with_reducible refine bw_alloc ?_ _ | (with_reducible refine bw_set ?_ ?_ _; focus (dsimp only; omega)) | (with_reducible apply bw_behind; with_reducible assumption))); done) | (simp [go_sem, *]; omega) | (simp (maxDischargeDepth := 4) [go_sem, *]; done))
    · (first | with_reducible assumption | ((repeat (first | with_reducible assumption | with_reducible refine c_dr _ ?_ | with_reducible refine c_d1 ?_ | with_reducible refine c_al _ ?_ | (with_reducible refine c_set ?_ ?_; focus (dsimp only; omega)) | (with_reducible apply c_be; with_reducible assumption))); done) | ((repeat (first | with_reducible assumption | with_reducible refine o_dr _ ?_ | with_reducible refine o_d1 ?_ | with_reducible refine o_set ?_ | (with_reducible refine o_new ?_ ?_; (focus (simp)); (focus (simp))) | with_reducible refine o_al _ ?_ | (with_reducible apply o_be; with_reducible assumption))); done) | ((repeat (first | with_reducible assumption | with_reducible exact Below.refl _ _ | with_reducible refine Below.drew ?_ | with_reducible refine below_drewN ?_ _ | with_reducible refine bw_alloc ?_ _ | (with_reducible refine bw_set ?_ ?_ _; focus (dsimp only; omega)) | (with_reducible apply bw_behind; with_reducible assumption))); done) | (simp [go_sem, *]; omega) | (simp (maxDischargeDepth := 4) [go_sem, *]; done))
    · rw [← hn4]; simp [go_sem, *]
    · rw [← hn4]; simp [go_sem, *]
    · rw [← hn4]; simp [go_sem, *]
    · repeat (first | with_reducible assumption | with_reducible exact Below.refl _ _ | with_reducible refine Below.drew ?_ | with_reducible refine below_drewN ?_ _ | with_reducible refine bw_alloc ?_ _ | (with_reducible refine bw_set ?_ ?_ _; focus (dsimp only; omega)) | (with_reducible apply bw_behind; with_reducible assumption))
  rintro w5 ⟨e0, e1, e2, d0, d1, d2, hb5⟩
  clear hn4 hs4 hr4 hh4 hb4 hb3 hb2 hb1 hm1 hm2 hm3 g10 g11 g12 g20 g21 g22 g30 g31 g32
  have oneX : ∀ v : Value, v ∈ [.int .u8 X0, .int .u8 X1, .int .u8 X2, .int .u8 X3, .int .u8 X4, .int .u8 X5, .int .u8 X6, .int .u8 X7, .int .u8 X8, .int .u8 X9, .int .u8 X10, .int .u8 X11, .int .u8 X12, .int .u8 X13, .int .u8 X14, .int .u8 X15] → v.oneCell' = true := by rw [← HX.out]; exact sixteen_one x
  have k5 := World.block_lt_of_cell? w5 _ e0
  have k6 := World.block_lt_of_cell? w5 _ d0
  simp only at k5 k6
  have TNX : ∀ (W : World) (t : TypeId) (b : Nat), W.heap.size = b → (W.alloc (.cells #[.int .u8 0, .int .u8 0, .int .u8 0, .int .u8 0, .int .u8 0, .int .u8 0, .int .u8 0, .int .u8 0, .int .u8 0, .int .u8 0, .int .u8 0, .int .u8 0, .int .u8 0, .int .u8 0, .int .u8 0, .int .u8 0] t)).there b 0 ([.int .u8 X0, .int .u8 X1, .int .u8 X2, .int .u8 X3, .int .u8 X4, .int .u8 X5, .int .u8 X6, .int .u8 X7, .int .u8 X8, .int .u8 X9, .int .u8 X10, .int .u8 X11, .int .u8 X12, .int .u8 X13, .int .u8 X14, .int .u8 X15] : List Value).length := fun _ _ _ h => there_new (by show 16 ≤ 16; omega) h
  have TA := there_else
  have TS := there_sc
  have TD := fun (W : World) (b o n : Nat) => propext (World.there_drew W b o n)
  have SZ := size_al
  have SD : ∀ W : World, W.drew.heap.size = W.heap.size := fun _ => rfl
  have SZ2 := setCells_size
  have OT := or_t
  have TO := t_or
  have FO := f_or
  have LT1 := lt_one
  have iX : Option.map (fun x => x.size) (Try.prog.info? 35) = some ([.int .u8 X0, .int .u8 X1, .int .u8 X2, .int .u8 X3, .int .u8 X4, .int .u8 X5, .int .u8 X6, .int .u8 X7, .int .u8 X8, .int .u8 X9, .int .u8 X10, .int .u8 X11, .int .u8 X12, .int .u8 X13, .int .u8 X14, .int .u8 X15] : List Value).length := info16
  go_cut [16, 17] (fun s16 s17 wx => ∃ n5 n6 : Nat, s16 = .pointer (some ⟨n5, 0, none⟩) ∧ s17 = .pointer (some ⟨n6, 0, none⟩) ∧ Row wx n5 [.int .u8 X0, .int .u8 X1, .int .u8 X2, .int .u8 X3, .int .u8 X4, .int .u8 X5, .int .u8 X6, .int .u8 X7, .int .u8 X8, .int .u8 X9, .int .u8 X10, .int .u8 X11, .int .u8 X12, .int .u8 X13, .int .u8 X14, .int .u8 X15] ∧ Row wx n6 [.int .u8 X0, .int .u8 X1, .int .u8 X2, .int .u8 X3, .int .u8 X4, .int .u8 X5, .int .u8 X6, .int .u8 X7, .int .u8 X8, .int .u8 X9, .int .u8 X10, .int .u8 X11, .int .u8 X12, .int .u8 X13, .int .u8 X14, .int .u8 X15] ∧ Below w.heap.size w wx)
  case first =>
    clear _hG _hG1 _hP _hP2 _hO _hO2 _hQ _hQ2 _hR _hR2 _hR3 _hI _hK _hK2 _hK3 HX Cc0 Cc1 Cc2 Cc3 Cc4
    go_region_held3 (fun w' => w'.cell? ⟨w.heap.size, 0, none⟩ = some (.bool q) ∧ w'.cell? ⟨w.heap.size, 1, none⟩ = some (.int .u64 M) ∧ w'.cell? ⟨w.heap.size, 2, none⟩ = some (.int .u64 A) ∧ w'.cell? ⟨n4, 0, none⟩ = some (.bool q) ∧ w'.cell? ⟨n4, 1, none⟩ = some (.int .u64 M) ∧ w'.cell? ⟨n4, 2, none⟩ = some (.int .u64 A) ∧ Below w.heap.size w w') (first | with_reducible assumption | (refine ⟨?_, ?_, ?_, ?_, ?_, ?_, ?_⟩ <;> (first | with_reducible assumption | ((repeat (first | with_reducible assumption | with_reducible refine c_dr _ ?_ | with_reducible refine c_d1 ?_ | with_reducible refine c_al _ ?_ | (with_reducible refine c_set ?_ ?_; focus (dsimp only; omega)) | (with_reducible apply c_be; with_reducible assumption) | (with_reducible refine c_sc ?_ ?_; focus (dsimp only; omega)))); done) | ((repeat (first | with_reducible assumption | with_reducible exact Below.refl _ _ | with_reducible refine Below.drew ?_ | with_reducible refine below_drewN ?_ _ | with_reducible refine bw_alloc ?_ _ | (with_reducible refine bw_set ?_ ?_ _; focus (dsimp only; omega)) | (with_reducible apply bw_behind; with_reducible assumption) | (with_reducible refine bw_sc _ ?_ ?_; focus omega))); done)))) (first | (go_at_call 10; (with_reducible refine (Cc5.out _).mono ?_); rintro e wx ⟨rfl, hbx⟩; have hrx := below_reads hbx; have hhx := below_holds hbx; obtain ⟨mx, hsx⟩ := below_grew hbx; have htx := there_be hbx))
    all_goals
      go_wp2_with fail
      go_meet
      refine ⟨_, _, rfl, rfl, ?_, ?_, ?_⟩
    all_goals (first | with_reducible assumption | ((repeat (first | with_reducible assumption | with_reducible exact Below.refl _ _ | with_reducible refine Below.drew ?_ | with_reducible refine below_drewN ?_ _ | with_reducible refine bw_alloc ?_ _ | (with_reducible refine bw_set ?_ ?_ _; focus (dsimp only; omega)) | (with_reducible apply bw_behind; with_reducible assumption) | (with_reducible refine bw_sc _ ?_ ?_; focus omega))); done) | ((repeat (first | with_reducible assumption | with_reducible refine k_dr _ ?_ | with_reducible refine k_d1 ?_ | (with_reducible refine row_sc (th_own ?_); focus (repeat (first | with_reducible assumption | with_reducible refine o_dr _ ?_ | with_reducible refine o_d1 ?_ | with_reducible refine o_set ?_ | (with_reducible refine o_new ?_ ?_; (focus (simp)); (focus (simp))) | (with_reducible refine o_new ?_ ?_; (focus (simp [*]; done)); (focus (simp))) | (with_reducible refine o_new ?_ ?_; (focus (simp [*]; omega)); (focus (simp))) | with_reducible refine o_sc ?_ | with_reducible refine o_al _ ?_ | (with_reducible apply o_be; with_reducible assumption)))) | (with_reducible refine k_sc ?_ ?_; focus omega) | with_reducible refine k_al _ ?_ | (with_reducible apply k_be; with_reducible assumption))); done))
  case rest =>
    obtain ⟨n5, n6, rfl, rfl, rx, ry, hB⟩ := hcut
    rw [← HX.out] at rx ry
    have hx : ∀ j, j < 16 → wc.cell? ⟨n5, j, none⟩ = some (byI (x j)) := fun j hj => rx j _ (sixteen_at x j hj)
    have hy : ∀ j, j < 16 → wc.cell? ⟨n6, j, none⟩ = some (byI (x j)) := fun j hj => ry j _ (sixteen_at x j hj)
    have Hx := hide hx
    have Hy := hide hy
    clear hx hy rx ry TNX TA TS TD SZ SZ2 SD OT TO FO LT1 iX oneX e0 e1 e2 d0 d1 d2
    go_wp2
    go_loopw [18] (fun i wr => ∃ k : Nat, k ≤ 16 ∧ i = .int .i64 (k : Int) ∧ Hid (∀ j, j < 16 → wr.cell? ⟨n5, j, none⟩ = some (byI (x j))) ∧ Hid (∀ j, j < 16 → wr.cell? ⟨n6, j, none⟩ = some (byI (x j))) ∧ Below w.heap.size w wr) (fun i _ => 16 - (intOf i).toNat)
    case atStart => exact ⟨0, by omega, rfl, Hx, Hy, by repeat (first | with_reducible assumption | with_reducible exact Below.refl _ _ | with_reducible refine Below.drew ?_ | with_reducible refine below_drewN ?_ _ | with_reducible refine bw_alloc ?_ _ | (with_reducible refine bw_set ?_ ?_ _; focus (dsimp only; omega)) | (with_reducible apply bw_behind; with_reducible assumption))⟩
    case round =>
      obtain ⟨k, hk, rfl, hx, hy, hB⟩ := hrel
      by_cases hlt : k < 16
      · have a := hx.out k hlt
        have b := hy.out k hlt
        unfold byI at a b
        have hk0 : (0 : Int) ≤ (k : Int) := by omega
        have hk1 : (k : Int) < 16 := by omega
        generalize ((x k).toNat : Int) = X at *
        go_wp2
        go_quiet (fail)
        go_wp2
        go_roundw
        case rel => exact ⟨k + 1, by omega, by go_num, hx, hy, by repeat (first | with_reducible assumption | with_reducible exact Below.refl _ _ | with_reducible refine Below.drew ?_ | with_reducible refine below_drewN ?_ _ | with_reducible refine bw_alloc ?_ _ | (with_reducible refine bw_set ?_ ?_ _; focus (dsimp only; omega)) | (with_reducible apply bw_behind; with_reducible assumption))⟩
        case measure => simp [intOf]; omega
      · have : k = 16 := by omega
        subst this
        go_wp2
        refine bodyPost_ret (v := .bool true) (by simp (maxDischargeDepth := 4) [results, Try.results3, go_sem, *]) rfl ?_
        refine ⟨rfl, ?_⟩
        repeat (first | with_reducible assumption | with_reducible exact Below.refl _ _ | with_reducible refine Below.drew ?_ | with_reducible refine below_drewN ?_ _ | with_reducible refine bw_alloc ?_ _ | (with_reducible refine bw_set ?_ ?_ _; focus (dsimp only; omega)) | (with_reducible apply bw_behind; with_reducible assumption))
/-- The byte at an address. -/
def flat (B : Nat → Nat → BitVec 8) (a : Nat) : BitVec 8 := B (a / 4096) (a % 4096)
theorem flat_put {A p off n : Nat} (h : At A p off n) (B : Nat → Nat → BitVec 8) (v : BitVec 64) (a : Nat) : flat (updP B p (putB (B p) off v n)) a = if A ≤ a ∧ a < A + n then by8 v (a - A) else flat B a := by
  have hf := h.fits
  obtain ⟨h1, h2, h3, h4, h5⟩ := h
  unfold flat updP putB
  by_cases e : a / 4096 = p
  · rw [if_pos e]
    by_cases e2 : off ≤ a % 4096 ∧ a % 4096 < off + n
    · rw [if_pos e2, if_pos (by omega), show a % 4096 - off = a - A by omega]
    · rw [if_neg e2, if_neg (by omega), e]
  · rw [if_neg e, if_neg (by omega)]
theorem at_of {A n : Nat} (h : A < 8192) (hn : n = 1 ∨ n = 2 ∨ n = 4 ∨ n = 8 ∨ n = 16) (hd : A % n = 0) : At A (A / 4096) (A % 4096) n :=
  ⟨by omega, by omega, by omega, by rcases hn with rfl | rfl | rfl | rfl | rfl <;> omega, hn⟩
theorem and_mod (x : Int) (m k : Nat) (hm : m + 1 = 2 ^ k) (hk : k < 63) : bits .and .i64 x (m : Int) = x % (2 ^ k : Nat) := by
  have h2 : bits .and .i64 x (m : Int) = IntKind.i64.wrap ((BitVec.ofInt 64 x &&& BitVec.ofInt 64 (m : Int)).toNat : Int) := rfl
  have hp : 2 ^ k ≤ 2 ^ 62 := Nat.pow_le_pow_right (by omega) (by omega)
  have hpos := Nat.two_pow_pos k
  have h62 : (2 : Nat) ^ 62 = 4611686018427387904 := rfl
  have hm2 : (BitVec.ofInt 64 (m : Int)).toNat = m := by
    rw [BitVec.ofInt_natCast, BitVec.toNat_ofNat, Nat.mod_eq_of_lt (by omega)]
  have h3 : (BitVec.ofInt 64 x &&& BitVec.ofInt 64 (m : Int)).toNat = (BitVec.ofInt 64 x).toNat % 2 ^ k := by
    rw [BitVec.toNat_and, hm2, show m = 2 ^ k - 1 by omega, Nat.and_two_pow_sub_one_eq_mod]
  rw [h2, h3, BitVec.toNat_ofInt, IntKind.wrap_i64]
  have h4 : ((x % ((2 ^ 64 : Nat) : Int)).toNat % 2 ^ k : Nat) = (x % ((2 ^ k : Nat) : Int)).toNat := by
    have hd : ((2 ^ k : Nat) : Int) ∣ ((2 ^ 64 : Nat) : Int) := by
      refine Int.natCast_dvd_natCast.2 (Nat.pow_dvd_pow 2 (by omega))
    have h5 := Int.emod_emod_of_dvd x hd
    have h6 : 0 ≤ x % ((2 ^ 64 : Nat) : Int) := Int.emod_nonneg _ (by omega)
    generalize x % ((2 ^ 64 : Nat) : Int) = y at *
    obtain ⟨z, rfl⟩ := Int.eq_ofNat_of_zero_le h6
    rw [← h5, Int.toNat_natCast, ← Int.natCast_emod, Int.toNat_natCast]
  rw [h4]
  have h7 : 0 ≤ x % ((2 ^ k : Nat) : Int) := Int.emod_nonneg _ (by omega)
  have h8 : x % ((2 ^ k : Nat) : Int) < ((2 ^ k : Nat) : Int) := Int.emod_lt_of_pos _ (by omega)
  omega

theorem flat_cap {A p off : Nat} (h : At A p off 16) (B : Nat → Nat → BitVec 8) (f : Nat → BitVec 8) (a : Nat) : flat (updP B p (putC (B p) off f)) a = if A ≤ a ∧ a < A + 16 then f (a - A) else flat B a := by
  have hf := h.fits
  obtain ⟨h1, h2, h3, h4, h5⟩ := h
  unfold flat updP putC
  by_cases e : a / 4096 = p
  · rw [if_pos e]
    by_cases e2 : off ≤ a % 4096 ∧ a % 4096 < off + 16
    · rw [if_pos e2, if_pos (by omega), show a % 4096 - off = a - A by omega]
    · rw [if_neg e2, if_neg (by omega), e]
  · rw [if_neg e, if_neg (by omega)]
theorem flat_at {A p off : Nat} (h : At A p off 16) (B : Nat → Nat → BitVec 8) (i : Nat) (hi : i < 16) : B p (off + i) = flat B (A + i) := by
  have hf := h.fits
  obtain ⟨h1, h2, h3, h4, h5⟩ := h
  unfold flat
  rw [show (A + i) / 4096 = p by omega, show (A + i) % 4096 = off + i by omega]
theorem get_with (s : BitVec 256) (i j : Nat) (t : Bool) (hi : i < 256) (hj : j < 256) : getS (withS s (j : Int) t) (i : Int) = if i = j then t else getS s (i : Int) := by
  have h1 : granB (i : Int) = true := gran_nat hi
  have h2 : granB (j : Int) = true := gran_nat hj
  unfold getS withS
  rw [h1, if_pos h2, Bool.true_and, Bool.true_and, Int.toNat_natCast, Int.toNat_natCast, put1_bit _ _ _ _ hi]
theorem met_congr {f g : Nat → BitVec 8} (h : ∀ i, i < 16 → f i = g i) : metF f = metF g ∧ adrF f = adrF g :=
  ⟨numB_congr (fun i hi => h (8 + i) (by omega)), numB_congr (fun i hi => h i (by omega))⟩
def BWs (w : World) (q : Bool) (M A : Int) (W : World) : Prop := W.cell? ⟨w.heap.size, 0, none⟩ = some (.bool q) ∧ W.cell? ⟨w.heap.size, 1, none⟩ = some (.int .u64 M) ∧ W.cell? ⟨w.heap.size, 2, none⟩ = some (.int .u64 A) ∧ Below w.heap.size w W
theorem bw_out {w W W' : World} {q : Bool} {M A : Int} {o : Nat} (ho : Out (w.heap.size + 1) o W W') (h : BWs w q M A W) : BWs w q M A W' := by
  obtain ⟨h0, h1, h2, hb⟩ := h
  exact ⟨ho.reads (by simp) h0, ho.reads (by simp) h1, ho.reads (by simp) h2, hb.trans (ho.below (by omega) hb.size)⟩
theorem walk (q : Bool) (m a : BitVec 64) (D E : Int) (w : World) (_d0 : -9223372036854775808 ≤ D) (_d1 : D < 9223372036854775808) (_e0 : -9223372036854775808 ≤ E) (_e1 : E < 9223372036854775808) :
    Calls Try.prog 3 #[.agg #[.bool q, .int .u64 (m.toNat : Int), .int .u64 (a.toNat : Int)], .int .i64 D, .int .i64 E] w fun e w' => e = .returned (.bool true) ∧ Below w.heap.size w w' := by
  have hG := and_mod D 511 9 rfl (by omega)
  have hO := and_mod E 8191 13 rfl (by omega)
  have g0 : 0 ≤ D % (2 ^ 9 : Nat) := by omega
  have g1 : D % (2 ^ 9 : Nat) < 512 := by omega
  have o0 : 0 ≤ E % (2 ^ 13 : Nat) := by omega
  have o1 : E % (2 ^ 13 : Nat) < 8192 := by omega
  generalize D % (2 ^ 9 : Nat) = G at *
  generalize E % (2 ^ 13 : Nat) = O at *
  obtain ⟨g, rfl⟩ := Int.eq_ofNat_of_zero_le g0
  obtain ⟨o, rfl⟩ := Int.eq_ofNat_of_zero_le o0
  clear _d0 _d1 _e0 _e1
  have u := fun x : Nat => (IntKind.wrap_u64 (x : Int))
  have hg : g < 512 := by omega
  have ho : o < 8192 := by omega
  clear g0 g1 o0 o1
  have hA : At (g * 16) (g * 16 / 4096) (g * 16 % 4096) 16 := at_of (by omega) (by omega) (by omega)
  have hB : At o (o / 4096) (o % 4096) 1 := at_of ho (by omega) (by omega)
  have c0 : ∀ W, W = w.alloc (.cells #[.bool q, .int .u64 (m.toNat : Int), .int .u64 (a.toNat : Int)] 24) → Calls Try.prog 5 #[.int .i64 2] W fun e w' => e = .returned (.tuple #[.pointer (some ⟨w.heap.size + 1 + 1, 0, none⟩), .int .i64 0]) ∧ Mem w' (w.heap.size + 1 + 1) (w.heap.size + 1) (fun _ _ => 0#8) (fun _ => 0#256) ∧ BWs w q (m.toNat : Int) (a.toNat : Int) w' := fun W hW => by
    have hs : W.heap.size = w.heap.size + 1 := by rw [hW]; simp
    have h := new_two W
    have hb0 : Below w.heap.size w W := by rw [hW]; exact below_alloc (Below.refl _ _) (Nat.le_refl _) _
    have x0 : W.cell? ⟨w.heap.size, 0, none⟩ = some (.bool q) := by rw [hW]; simp [go_sem]
    have x1 : W.cell? ⟨w.heap.size, 1, none⟩ = some (.int .u64 (m.toNat : Int)) := by rw [hW]; simp [go_sem]
    have x2 : W.cell? ⟨w.heap.size, 2, none⟩ = some (.int .u64 (a.toNat : Int)) := by rw [hW]; simp [go_sem]
    refine h.mono fun e w' ⟨he, hm, hb, _⟩ => ?_
    rw [hs] at he hm
    exact ⟨he, hm, c_be hb x0, c_be hb x1, c_be hb x2, below_behind hb0 (Nat.le_refl _) hb⟩
  have c1 := fun W (hm : Mem W (w.heap.size + 1 + 1) (w.heap.size + 1) (fun _ _ => 0#8) (fun _ => 0#256)) (hb : BWs w q (m.toNat : Int) (a.toNat : Int) W) =>
    (storecap_any hA q m a (w.heap.size + 1 + 1) (w.heap.size + 1) (fun _ _ => 0#8) (fun _ => 0#256) W hm).mono fun _ _ ⟨he, hm', ho'⟩ => And.intro he (And.intro hm' (bw_out ho' hb))
  have f1 := flat_cap hA (fun _ _ => 0#8) (capF m a)
  have s1 : ∀ p, updP (fun _ => 0#256) (g * 16 / 4096) (withS 0#256 ((g * 16 % 4096 / 16 : Nat) : Int) q) p = if p = g * 16 / 4096 then withS 0#256 ((g * 16 % 4096 / 16 : Nat) : Int) q else 0#256 := fun _ => rfl
  generalize updP (fun _ _ => 0#8) (g * 16 / 4096) (putC _ (g * 16 % 4096) (capF m a)) = B1 at *
  generalize updP (fun _ => 0#256) (g * 16 / 4096) (withS 0#256 ((g * 16 % 4096 / 16 : Nat) : Int) q) = S1 at *
  have c2 := fun W (hm : Mem W (w.heap.size + 1 + 1) (w.heap.size + 1) B1 S1) (hb : BWs w q (m.toNat : Int) (a.toNat : Int) W) =>
    (store_any hB (by omega) 171#64 (w.heap.size + 1 + 1) (w.heap.size + 1) B1 S1 W hm).mono fun _ _ ⟨he, hm', ho'⟩ => And.intro he (And.intro hm' (bw_out ho' hb))
  have f2 := flat_put hB B1 171#64
  have s2 : ∀ p, updP S1 (o / 4096) (lessT (S1 (o / 4096)) (o % 4096)) p = if p = o / 4096 then withS (S1 (o / 4096)) ((o % 4096 / 16 : Nat) : Int) false else S1 p := fun _ => rfl
  generalize updP B1 (o / 4096) (putB _ (o % 4096) 171#64 1) = B2 at *
  generalize updP S1 (o / 4096) (lessT (S1 (o / 4096)) (o % 4096)) = S2 at *
  have c3 := fun W (hm : Mem W (w.heap.size + 1 + 1) (w.heap.size + 1) B2 S2) => loadcap_any hA (w.heap.size + 1 + 1) (w.heap.size + 1) B2 S2 W hm
  have c4 : ∀ W, Mem W (w.heap.size + 1 + 1) (w.heap.size + 1) B2 S2 → Calls Try.prog 9 #[.pointer (some ⟨w.heap.size + 1 + 1, 0, none⟩), .int .u64 (o : Int), .int .i64 1] W (Quiet (.tuple #[.int .u64 171, .int .i64 0]) W) := fun W hm => by
    have h := load_any hB (by omega) (w.heap.size + 1 + 1) (w.heap.size + 1) B2 S2 W hm
    rw [numB_one, show B2 (o / 4096) (o % 4096 + 0) = flat B2 o from rfl, f2, if_pos (by omega), Nat.sub_self] at h
    exact h
  have hby : ∀ i, i < 16 → (fun i => B2 (g * 16 / 4096) (g * 16 % 4096 + i)) i = if g * 16 + i = o then 171#8 else capF m a i := fun i hi => by
    show B2 (g * 16 / 4096) (g * 16 % 4096 + i) = _
    rw [flat_at hA B2 i hi, f2]
    by_cases e : g * 16 + i = o
    · rw [if_pos (by omega), if_pos e, e, Nat.sub_self]
      rfl
    · rw [if_neg (by omega), if_neg e, f1, if_pos (by omega), Nat.add_sub_cancel_left]
  have ht : getS (S2 (g * 16 / 4096)) ((g * 16 % 4096 / 16 : Nat) : Int) = if o / 16 = g then false else q := by
    have e1 : getS (S1 (g * 16 / 4096)) ((g * 16 % 4096 / 16 : Nat) : Int) = q := by
      rw [s1, if_pos rfl, get_with _ _ _ _ (by omega) (by omega), if_pos rfl]
    rw [s2]
    by_cases e : g * 16 / 4096 = o / 4096
    · rw [if_pos e, get_with _ _ _ _ (by omega) (by omega), ← e, e1]
      by_cases e2 : o / 16 = g
      · rw [if_pos (by omega), if_pos e2]
      · rw [if_neg (by omega), if_neg e2]
    · rw [if_neg e, e1, if_neg (by omega)]
  rw [ht] at c3
  have c5 := fun W => bytes_fn q m a W
  have i64 : ∀ x : Nat, x < 16 → RowKit.wrap64 (x : Int) = (x : Int) := fun x hx => by unfold RowKit.wrap64; omega
  generalize (fun i => B2 (g * 16 / 4096) (g * 16 % 4096 + i)) = d at *
  clear f1 f2 s1 s2 ht
  by_cases e : o / 16 = g
  · rw [if_pos e] at c3
    have c6 := fun W => bytes_fn false (metF d) (adrF d) W
    exact walk_touched w q D E (m.toNat : Int) (a.toNat : Int) ((metF d).toNat : Int) ((adrF d).toNat : Int) (g : Int) ((g * 16 : Nat) : Int) (o : Int) ((o / 16 : Nat) : Int) ((o % 16 : Nat) : Int) ((capF m a 0).toNat : Int) ((capF m a 1).toNat : Int) ((capF m a 2).toNat : Int) ((capF m a 3).toNat : Int) ((capF m a 4).toNat : Int) ((capF m a 5).toNat : Int) ((capF m a 6).toNat : Int) ((capF m a 7).toNat : Int) ((capF m a 8).toNat : Int) ((capF m a 9).toNat : Int) ((capF m a 10).toNat : Int) ((capF m a 11).toNat : Int) ((capF m a 12).toNat : Int) ((capF m a 13).toNat : Int) ((capF m a 14).toNat : Int) ((capF m a 15).toNat : Int) ((capF (metF d) (adrF d) 0).toNat : Int) ((capF (metF d) (adrF d) 1).toNat : Int) ((capF (metF d) (adrF d) 2).toNat : Int) ((capF (metF d) (adrF d) 3).toNat : Int) ((capF (metF d) (adrF d) 4).toNat : Int) ((capF (metF d) (adrF d) 5).toNat : Int) ((capF (metF d) (adrF d) 6).toNat : Int) ((capF (metF d) (adrF d) 7).toNat : Int) ((capF (metF d) (adrF d) 8).toNat : Int) ((capF (metF d) (adrF d) 9).toNat : Int) ((capF (metF d) (adrF d) 10).toNat : Int) ((capF (metF d) (adrF d) 11).toNat : Int) ((capF (metF d) (adrF d) 12).toNat : Int) ((capF (metF d) (adrF d) 13).toNat : Int) ((capF (metF d) (adrF d) 14).toNat : Int) ((capF (metF d) (adrF d) 15).toNat : Int) (fun _ _ => 0#8) B1 B2 (fun _ => 0#256) S1 S2 (capF m a) (capF (metF d) (adrF d)) rfl rfl
      (fun k hk => by
        rw [capF_bytes d k hk, hby k hk]
        by_cases e2 : g * 16 + k = o
        · right; omega
        · left; rw [if_neg e2])
      c0 c1 c2 c3 c4 c5 c6 hG (by rw [u]; omega) (by omega) (by rw [u]; omega) hO (by rw [u]; omega) (by omega) (by rw [Int.tdiv_eq_ediv_of_nonneg (by omega)]; omega) (by omega) (by rw [Int.tdiv_eq_ediv_of_nonneg (by omega)]; omega) (by rw [u]; omega) (by simp; omega) (by omega) (by rw [Int.tmod_eq_emod_of_nonneg (by omega)]; omega) (i64 _ (by omega))
  · rw [if_neg e] at c3
    obtain ⟨k1, k2⟩ := met_congr (f := d) (g := capF m a) (fun i hi => by rw [hby i hi, if_neg (by omega)])
    rw [k1, k2, metF_cap, adrF_cap] at c3
    exact walk_apart w q D E (m.toNat : Int) (a.toNat : Int) (g : Int) ((g * 16 : Nat) : Int) (o : Int) ((o / 16 : Nat) : Int) ((o % 16 : Nat) : Int) ((capF m a 0).toNat : Int) ((capF m a 1).toNat : Int) ((capF m a 2).toNat : Int) ((capF m a 3).toNat : Int) ((capF m a 4).toNat : Int) ((capF m a 5).toNat : Int) ((capF m a 6).toNat : Int) ((capF m a 7).toNat : Int) ((capF m a 8).toNat : Int) ((capF m a 9).toNat : Int) ((capF m a 10).toNat : Int) ((capF m a 11).toNat : Int) ((capF m a 12).toNat : Int) ((capF m a 13).toNat : Int) ((capF m a 14).toNat : Int) ((capF m a 15).toNat : Int) (fun _ _ => 0#8) B1 B2 (fun _ => 0#256) S1 S2 (capF m a) rfl
      c0 c1 c2 c3 c4 c5 hG (by rw [u]; omega) (by omega) (by rw [u]; omega) hO (by rw [u]; omega) (by omega) (by rw [Int.tdiv_eq_ediv_of_nonneg (by omega)]; omega) (by omega) (by rw [Int.tdiv_eq_ediv_of_nonneg (by omega)]; omega) (by rw [u]; omega) (by simp; omega) (by omega) (by rw [Int.tmod_eq_emod_of_nonneg (by omega)]; omega) (i64 _ (by omega))
open Go.ChangeShapes Go.WideShapes Go.ChangeAt
theorem walks : Frame.Walks 3 Try.f3 := by
  intro H enc W base args ds ps hval hA
  rw [Try.params3] at hA hval
  obtain ⟨v0, v1, v2, d0, d1, d2, p0, p1, p2, hargs, rfl, rfl, h0, h1, h2⟩ := trodAll_three hA
  obtain rfl : args = #[v0, v1, v2] := by cases args; simp_all
  obtain ⟨cs0, rfl, hf0⟩ := open_struct (F := 4) (ks := [.inr false, .inl .u64, .inl .u64]) Try.underlying24 (by kernel_rfl) (hval 0 24 v0 rfl rfl) h0
  match cs0, hf0 with
  | [_, _, _], ⟨⟨z0_0, rfl⟩, ⟨z0_1, rfl, wz0_1⟩, ⟨z0_2, rfl, wz0_2⟩, _⟩ =>
  obtain ⟨Z0_1, rfl⟩ := Frame.wf_u64 wz0_1
  obtain ⟨Z0_2, rfl⟩ := Frame.wf_u64 wz0_2
  obtain ⟨x1, rfl, rfl, rfl, w1⟩ := open_int Try.underlying3 (hval 1 3 v1 rfl rfl) h1
  obtain ⟨x2, rfl, rfl, rfl, w2⟩ := open_int Try.underlying3 (hval 2 3 v2 rfl rfl) h2
  exact walk z0_0 Z0_1 Z0_2 x1 x2 W (Frame.wf_i64 w1).1 (Frame.wf_i64 w1).2 (Frame.wf_i64 w2).1 (Frame.wf_i64 w2).2
set_option maxRecDepth 100000 in
theorem proved : Rows.RamTagsSaid :=
  OpenClaim.holds_of_wide 3 Try.f3 rfl rfl rfl rfl rfl rfl rfl ⟨rfl, rfl, rfl, rfl, rfl⟩ rfl rfl rfl rfl rfl (by kernel_rfl) Try.func3 (by kernel_rfl)
    (of_decide_eq_true (by kernel_rfl)) (by unfold Func.isWrapper; first | (rw [if_pos (by decide +kernel)]; kernel_rfl) | (rw [if_neg (by decide +kernel)]; exact ⟨rfl, rfl⟩))
    (fun os started H enc _ => Frame.lift os started H enc _ _ Rows.ramTagsSpec 4 (by kernel_rfl) Try.func3 Try.underlying4 (by kernel_rfl) rfl (by kernel_rfl)
      (fun ds h => by match ds, h with | [_, _, _], _ => exact ⟨rfl, rfl, rfl⟩)
      (ChangeSpec.witness6 (enc := enc) (C := Try.checked) false ⟨#[], #[.agg #[.bool false, .int .u64 0, .int .u64 0], .int .i64 0, .int .i64 0], []⟩ 8 (by kernel_rfl) (by kernel_rfl) (by kernel_rfl) (by kernel_rfl)) walks)
end Go.Proofs.Ytadhghnleidfpaa.RamTags
