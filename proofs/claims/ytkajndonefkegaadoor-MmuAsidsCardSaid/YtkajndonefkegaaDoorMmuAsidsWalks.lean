/-
  MmuAsids' walks, over letters.
-/
import Derived.Test.YtkajndonefkegaaDoorGOne
import Derived.Test.YtkajndonefkegaaDoorPteLaid
namespace Go.Proofs.YtkajndonefkegaaDoor.MmuAsids
open Go.RowKit Words FieldMath PteMath

theorem fr_al {W : World} {ob : Obj} {b k : Nat} (h : b < W.heap.size ∧ W.frozen? ⟨b, k, none⟩ = false) : (W.alloc ob).frozen? ⟨b, k, none⟩ = false := by
  rw [World.frozen?_alloc_old W ob ⟨b, k, none⟩ (by show b ≠ _; omega)]
  exact h.2
theorem fr_out2 {N K b k : Nat} {a c : World} (h : Out2 N K a c) (h1 : b ≠ N) (h2 : b ≠ K) (hl : b < a.heap.size) (hf : a.frozen? ⟨b, k, none⟩ = false) : b < c.heap.size ∧ c.frozen? ⟨b, k, none⟩ = false :=
  ⟨Nat.lt_of_lt_of_le hl h.size, (World.frozen?_of_block (h.block b hl h1 h2)).trans hf⟩
theorem fr_out {K o b k : Nat} {a c : World} (h : Out K o a c) (h1 : b ≠ K) (hl : b < a.heap.size) (hf : a.frozen? ⟨b, k, none⟩ = false) : c.frozen? ⟨b, k, none⟩ = false :=
  (World.frozen?_of_block (h.block b hl h1)).trans hf
theorem fr_out1 {N b k : Nat} {a c : World} (h : Out1 N a c) (h1 : b ≠ N) (hl : b < a.heap.size) (hf : a.frozen? ⟨b, k, none⟩ = false) : c.frozen? ⟨b, k, none⟩ = false :=
  (World.frozen?_of_block (h.block b hl h1)).trans hf
theorem fr_be {b k : Nat} {a c : World} (h : Below a.heap.size a c) (hl : b < a.heap.size) (hf : a.frozen? ⟨b, k, none⟩ = false) : c.frozen? ⟨b, k, none⟩ = false :=
  (h.frozen (p := ⟨b, k, none⟩) hl).trans hf

set_option maxRecDepth 100000 in
set_option maxHeartbeats 16000000 in
theorem walk_ne (o : Nat) (a b H p X Y8 Y V V2 y z : Int) (Ms M0 M1 M2 M3 M4 M5 : Nat → Nat → BitVec 64) (L1 L2 L3 L4 L5 : Nat → List Ln) (cS : ∀ W, Tab W → Calls Tryd.prog 6 #[] W (fun e W' => ∃ R K sa na ca sb nb cb, e = .returned (.tuple #[.pointer (some ⟨R, 0, none⟩), .agg #[.int .i64 8, .slice sa na ca, .slice sb nb cb, .slice none 0 0]]) ∧ MemW W' R K 8 Ms ∧ Below W.heap.size W W' ∧ W.heap.size ≤ R ∧ W.heap.size ≤ K)) (cW : ∀ W, Tab W → Calls Tryd.prog 12 #[.agg #[.bool true, .bool true, .bool false, .bool false, .bool true, .bool false, .bool false, .bool false, .bool false, .bool false, .bool false, .bool false, .int .u64 5]] W (Makes (.int .u64 V) W)) (cX : ∀ W, Tab W → Calls Tryd.prog 12 #[.agg #[.bool true, .bool true, .bool false, .bool false, .bool true, .bool false, .bool false, .bool false, .bool false, .bool false, .bool false, .bool false, .int .u64 6]] W (Makes (.int .u64 V2) W)) (cA : ∀ R K W, MemW W R K 8 Ms → Calls Tryd.prog 11 #[.pointer (some ⟨R, 0, none⟩), .int .u64 Y, .int .i64 8, .int .u64 V] W (fun e w' => e = .returned (.int .i64 0) ∧ MemW w' R K 8 M0 ∧ Out K o W w')) (cB : ∀ R K W, MemW W R K 8 M1 → Calls Tryd.prog 11 #[.pointer (some ⟨R, 0, none⟩), .int .u64 Y, .int .i64 8, .int .u64 V2] W (fun e w' => e = .returned (.int .i64 0) ∧ MemW w' R K 8 M2 ∧ Out K o W w')) (cT1 : ∀ N R K W, Tab W → MemW W R K 8 M0 → UnitAt N (fun _ => []) 0 a false W → Calls Tryd.prog 7 #[.pointer (some ⟨N, 0, none⟩), .pointer (some ⟨R, 0, none⟩), .int .u64 X, .int .i64 1, .bool false] W (fun e w' => e = .returned (.tuple #[.agg #[.int .u64 20480, .bool false], .int .i64 0]) ∧ MemW w' R K 8 M1 ∧ UnitAt N L1 0 a false w' ∧ Out2 N K W w')) (cT2 : ∀ N R K W, Tab W → MemW W R K 8 M2 → UnitAt N L1 0 b false W → Calls Tryd.prog 7 #[.pointer (some ⟨N, 0, none⟩), .pointer (some ⟨R, 0, none⟩), .int .u64 X, .int .i64 1, .bool false] W (fun e w' => e = .returned (.tuple #[.agg #[.int .u64 y, .bool false], .int .i64 0]) ∧ MemW w' R K 8 M3 ∧ UnitAt N L2 0 b false w' ∧ Out2 N K W w')) (cF : ∀ N W, TlbM W N L2 → Calls Tryd.prog 17 #[.pointer (some ⟨N, 0, none⟩), .int .u64 b] W (fun e w' => e = .returned (.tuple #[]) ∧ TlbM w' N L3 ∧ Out1 N W w')) (cT3 : ∀ N R K W, Tab W → MemW W R K 8 M3 → UnitAt N L3 0 b false W → Calls Tryd.prog 7 #[.pointer (some ⟨N, 0, none⟩), .pointer (some ⟨R, 0, none⟩), .int .u64 X, .int .i64 1, .bool false] W (fun e w' => e = .returned (.tuple #[.agg #[.int .u64 24576, .bool false], .int .i64 0]) ∧ MemW w' R K 8 M4 ∧ UnitAt N L4 0 b false w' ∧ Out2 N K W w')) (cT4 : ∀ N R K W, Tab W → MemW W R K 8 M4 → UnitAt N L4 0 a false W → Calls Tryd.prog 7 #[.pointer (some ⟨N, 0, none⟩), .pointer (some ⟨R, 0, none⟩), .int .u64 X, .int .i64 1, .bool false] W (fun e w' => e = .returned (.tuple #[.agg #[.int .u64 z, .bool false], .int .i64 0]) ∧ MemW w' R K 8 M5 ∧ UnitAt N L5 0 a false w' ∧ Out2 N K W w')) (cO : ∀ W, Tab W → Calls Tryd.prog 25 #[] W (Makes (.bool true) W)) (_g1 : bits .and .i64 p 7 = H) (_g2 : IntKind.u64.wrap H = H) (_g3 : IntKind.u64.wrap (8 * H) = Y8) (_g4 : IntKind.u64.wrap (8192 + Y8) = Y) (_g5 : IntKind.u64.wrap (H * 4096) = X) (_n0 : (a != b) = true) (_n1 : (y == 24576) = true) (_n2 : (z == 20480) = true) (w : World) (hT : Tab w) : Calls Tryd.prog 5 #[.int .u64 a, .int .u64 b, .int .i64 p] w (Makes (.bool true) w) := by
  have CcS := hide cS
  have CcW := hide cW
  have CcX := hide cX
  have CcA := hide cA
  have CcB := hide cB
  have CcT1 := hide cT1
  have CcT2 := hide cT2
  have CcF := hide cF
  have CcT3 := hide cT3
  have CcT4 := hide cT4
  have CcO := hide cO
  clear cS cW cX cA cB cT1 cT2 cF cT3 cT4 cO
  have SS := cell_same
  have LB' := ltB_add
  have LS := ltB_self
  have LA' := alloc_reads
  have LH := alloc_holds
  obtain ⟨Z0, hz0, hl0⟩ := unit_zero
  have hZl := unit_set133 hl0 a
  have hZ0s : Z0.size = 135 := by rw [← Array.length_toList, hl0, unitC_length]
  go_enter Tryd.func5, Tryd.ntmps5
  go_upto_region 5 with (first | (go_at_call 6; (with_reducible refine (CcS.out _ ?_).mono ?_); (focus ((first | with_reducible assumption | (refine Tab.behind (by with_reducible assumption) ?_; repeat (first | with_reducible assumption | with_reducible exact Below.refl _ _ | with_reducible refine Below.drew ?_ | with_reducible refine below_drewN ?_ _ | with_reducible refine bw_alloc ?_ _ | (with_reducible refine bw_set ?_ ?_ _; focus (dsimp only; omega)) | (with_reducible apply bw_behind; with_reducible assumption)))))); rintro e ws ⟨R, K, sa, na, ca, sb, nb, cb, rfl, hMs, hbs, hRw, hKw⟩; have hrs := below_reads hbs; have hhs := below_holds hbs; obtain ⟨ms, hss⟩ := below_grew hbs) | (go_at_call 12; (with_reducible refine (CcW.out _ ?_).mono ?_); (focus ((first | with_reducible assumption | (refine Tab.behind (by with_reducible assumption) ?_; repeat (first | with_reducible assumption | with_reducible exact Below.refl _ _ | with_reducible refine Below.drew ?_ | with_reducible refine below_drewN ?_ _ | with_reducible refine bw_alloc ?_ _ | (with_reducible refine bw_set ?_ ?_ _; focus (dsimp only; omega)) | (with_reducible apply bw_behind; with_reducible assumption)))))); rintro e wv ⟨rfl, hbv⟩; have hrv := below_reads hbv; have hhv := below_holds hbv; obtain ⟨mv, hsv⟩ := below_grew hbv) | (go_at_call 11; (with_reducible refine (CcA.out _ K _ ?_).mono ?_); (focus (repeat (first | with_reducible assumption | with_reducible refine mw_dr _ ?_ | with_reducible refine mw_d1 ?_ | with_reducible refine mw_al _ ?_ | (with_reducible apply mw_be; with_reducible assumption)))); rintro e woa ⟨rfl, hMoa, hOoa⟩))
  have hKs := hMs.herek (by omega)
  have hRs := hMs.hereR
  have hfv : Below w.heap.size w wv := by
    repeat (first | with_reducible assumption | with_reducible exact Below.refl _ _ | with_reducible refine Below.drew ?_ | with_reducible refine below_drewN ?_ _ | with_reducible refine bw_alloc ?_ _ | (with_reducible refine bw_set ?_ ?_ _; focus (dsimp only; omega)) | (with_reducible apply bw_behind; with_reducible assumption))
  have hsw : ws.heap.size = w.heap.size + ms := hss
  have hvz : w.heap.size + ms + 1 < wv.heap.size := by rw [hsv]; simp [go_sem, *]; omega
  refine wp_abs (fun W => MemW W R K 8 M0 ∧ Below w.heap.size w W ∧ W.cell? ⟨w.heap.size + ms + 1, 0, none⟩ = some (.bool true) ∧ W.cell? ⟨w.heap.size + ms + 1, 1, none⟩ = some (.bool true) ∧ W.cell? ⟨w.heap.size + ms + 1, 2, none⟩ = some (.bool false) ∧ W.cell? ⟨w.heap.size + ms + 1, 3, none⟩ = some (.bool false) ∧ W.cell? ⟨w.heap.size + ms + 1, 4, none⟩ = some (.bool true) ∧ W.cell? ⟨w.heap.size + ms + 1, 5, none⟩ = some (.bool false) ∧ W.cell? ⟨w.heap.size + ms + 1, 6, none⟩ = some (.bool false) ∧ W.cell? ⟨w.heap.size + ms + 1, 7, none⟩ = some (.bool false) ∧ W.cell? ⟨w.heap.size + ms + 1, 8, none⟩ = some (.bool false) ∧ W.cell? ⟨w.heap.size + ms + 1, 9, none⟩ = some (.bool false) ∧ W.cell? ⟨w.heap.size + ms + 1, 10, none⟩ = some (.bool false) ∧ W.cell? ⟨w.heap.size + ms + 1, 11, none⟩ = some (.bool false) ∧ W.cell? ⟨w.heap.size + ms + 1, 12, none⟩ = some (.int .u64 5) ∧ W.frozen? ⟨w.heap.size + ms + 1, 12, none⟩ = false) ?_ ?_
  · refine ⟨?_, ?_, ?_, ?_, ?_, ?_, ?_, ?_, ?_, ?_, ?_, ?_, ?_, ?_, ?_, ?_⟩
    · exact hMoa
    · exact hfv.trans (hOoa.below hKw hfv.size)
    iterate 13 (refine hOoa.reads (by dsimp only; omega) (c_be hbv ?_); focus (simp [go_sem, *]))
    · refine fr_out hOoa (by omega) hvz ?_
      refine fr_be hbv (by simp [go_sem, *]) ?_
      simp [go_sem, *]
  rintro w1 ⟨hM1, hB1, c1_0, c1_1, c1_2, c1_3, c1_4, c1_5, c1_6, c1_7, c1_8, c1_9, c1_10, c1_11, c1_12, f1_0⟩
  have lE1 : w.heap.size + ms + 1 < w1.heap.size := World.block_lt_of_cell? w1 _ c1_0
  have lK1 := hM1.herek (by omega)
  have lR1 := hM1.hereR
  have hE1 : K < w.heap.size + ms + 1 ∧ R < w.heap.size + ms + 1 := ⟨by omega, by omega⟩
  have hE0 : w.heap.size ≤ w.heap.size + ms + 1 := by omega
  clear hMs hbs hrs hhs hss hbv hrv hhv hsv hMoa hOoa hKs hRs hfv hsw hvz
  generalize w.heap.size + ms + 1 = eb at *
  have hN1 := hB1.size
  have hOz : ∀ t, Own (w1.alloc (.cells Z0 t)) w1.heap.size 135 := fun t => o_new rfl (by omega)
  go_upto_region 6 with (first | ((refine wpList_store_row rfl 43 _ _ rfl (w1.heap.size) 135 _ rfl rfl ?_ ?_ infoUnit ?_ ?_); (focus (simp [hZ0s])); (focus (exact hOz _)); (focus (rw [Array.all_eq_true']; intro v hv; refine unitC_one 0 a false v ?_; rw [← hZl]; first | exact Array.mem_toList_iff.2 hv | exact Array.mem_def.1 hv | simpa using hv)); intro wu hru hbu hou hsu _))
  have hau : Below w1.heap.size w1 wu := (below_alloc (Below.refl _ _) (Nat.le_refl _) _).trans hbu
  refine wp_abs (fun W => MemW W R K 8 M0 ∧ UnitAt w1.heap.size (fun _ => []) 0 a false W ∧ Below w.heap.size w W ∧ W.cell? ⟨eb, 0, none⟩ = some (.bool true) ∧ W.cell? ⟨eb, 1, none⟩ = some (.bool true) ∧ W.cell? ⟨eb, 2, none⟩ = some (.bool false) ∧ W.cell? ⟨eb, 3, none⟩ = some (.bool false) ∧ W.cell? ⟨eb, 4, none⟩ = some (.bool true) ∧ W.cell? ⟨eb, 5, none⟩ = some (.bool false) ∧ W.cell? ⟨eb, 6, none⟩ = some (.bool false) ∧ W.cell? ⟨eb, 7, none⟩ = some (.bool false) ∧ W.cell? ⟨eb, 8, none⟩ = some (.bool false) ∧ W.cell? ⟨eb, 9, none⟩ = some (.bool false) ∧ W.cell? ⟨eb, 10, none⟩ = some (.bool false) ∧ W.cell? ⟨eb, 11, none⟩ = some (.bool false) ∧ W.cell? ⟨eb, 12, none⟩ = some (.int .u64 5) ∧ W.frozen? ⟨eb, 12, none⟩ = false) ?_ ?_
  · rw [hZl] at hru
    refine ⟨?_, ?_, ?_, ?_, ?_, ?_, ?_, ?_, ?_, ?_, ?_, ?_, ?_, ?_, ?_, ?_, ?_⟩
    · exact mw_be hau hM1
    · exact unit_of_row hru hou
    · exact hB1.trans (hau.mono hN1)
    iterate 13 (refine c_be hau ?_; focus (with_reducible assumption))
    · exact fr_be hau lE1 f1_0
  rintro w2 ⟨hM2, hU2, hB2, c2_0, c2_1, c2_2, c2_3, c2_4, c2_5, c2_6, c2_7, c2_8, c2_9, c2_10, c2_11, c2_12, f2_0⟩
  have hlo_eb : eb < w1.heap.size ∧ K < eb ∧ R < eb := ⟨lE1, hE1.1, hE1.2⟩
  clear hru hbu hou hsu hau hM1 hB1 c1_0 c1_1 c1_2 c1_3 c1_4 c1_5 c1_6 c1_7 c1_8 c1_9 c1_10 c1_11 c1_12 f1_0 lE1 lK1 lR1 hE1 hOz
  generalize w1.heap.size = N at *
  have nNK := un_nek hU2 hM2 (by omega)
  have nNR := un_ner hU2 hM2
  have hT2 := hT.behind hB2
  have hN2 := hU2.here
  have hK2 := hM2.herek (by omega)
  have hR2 := hM2.hereR
  have lN2 : ltB N w2.heap.size = true := decide_eq_true hN2
  have lt2_eb : eb < w2.heap.size := World.block_lt_of_cell? w2 _ c2_0
  have lb2_eb : ltB eb w2.heap.size = true := decide_eq_true lt2_eb
  go_upto_region 7 with (go_at_call 7; (with_reducible refine (CcT1.out _ _ K _ ?_ ?_ ?_).mono ?_); (focus ((first | with_reducible assumption | (refine Tab.behind (by with_reducible assumption) ?_; repeat (first | with_reducible assumption | with_reducible exact Below.refl _ _ | with_reducible refine Below.drew ?_ | with_reducible refine below_drewN ?_ _ | with_reducible refine bw_alloc ?_ _ | (with_reducible refine bw_set ?_ ?_ _; focus (dsimp only; omega)) | (with_reducible apply bw_behind; with_reducible assumption)))))); (focus (repeat (first | with_reducible assumption | with_reducible refine mw_dr _ ?_ | with_reducible refine mw_d1 ?_ | with_reducible refine mw_al _ ?_ | (with_reducible apply mw_be; with_reducible assumption)))); (focus (repeat (first | with_reducible assumption | with_reducible refine un_dr _ ?_ | with_reducible refine un_d1 ?_ | with_reducible refine un_al _ ?_ | (with_reducible refine un_set ?_ ?_; focus (dsimp only; omega)) | (with_reducible apply un_be; with_reducible assumption) | (with_reducible refine un_sc _ _ ?_ ?_; focus (dsimp only; omega))))); rintro e wt ⟨rfl, hMt, hUt, hXt⟩)
  have hBt : Below w.heap.size w wt := hB2.trans (hXt.below (by omega) (by omega) hB2.size)
  have hTt := hT.behind hBt
  have hzt := hXt.size
  refine wp_abs (fun W => MemW W R K 8 M1 ∧ UnitAt N L1 0 a false W ∧ Below w.heap.size w W ∧ W.cell? ⟨eb, 0, none⟩ = some (.bool true) ∧ W.cell? ⟨eb, 1, none⟩ = some (.bool true) ∧ W.cell? ⟨eb, 2, none⟩ = some (.bool false) ∧ W.cell? ⟨eb, 3, none⟩ = some (.bool false) ∧ W.cell? ⟨eb, 4, none⟩ = some (.bool true) ∧ W.cell? ⟨eb, 5, none⟩ = some (.bool false) ∧ W.cell? ⟨eb, 6, none⟩ = some (.bool false) ∧ W.cell? ⟨eb, 7, none⟩ = some (.bool false) ∧ W.cell? ⟨eb, 8, none⟩ = some (.bool false) ∧ W.cell? ⟨eb, 9, none⟩ = some (.bool false) ∧ W.cell? ⟨eb, 10, none⟩ = some (.bool false) ∧ W.cell? ⟨eb, 11, none⟩ = some (.bool false) ∧ W.cell? ⟨eb, 12, none⟩ = some (.int .u64 5) ∧ W.cell? ⟨wt.heap.size, 0, none⟩ = some (.int .u64 20480) ∧ W.frozen? ⟨eb, 12, none⟩ = false) ?_ ?_
  · refine ⟨?_, ?_, ?_, ?_, ?_, ?_, ?_, ?_, ?_, ?_, ?_, ?_, ?_, ?_, ?_, ?_, ?_, ?_⟩
    · repeat (first | with_reducible assumption | with_reducible refine mw_dr _ ?_ | with_reducible refine mw_d1 ?_ | with_reducible refine mw_al _ ?_ | (with_reducible apply mw_be; with_reducible assumption))
    · repeat (first | with_reducible assumption | with_reducible refine un_dr _ ?_ | with_reducible refine un_d1 ?_ | with_reducible refine un_al _ ?_ | (with_reducible refine un_set ?_ ?_; focus (dsimp only; omega)) | (with_reducible apply un_be; with_reducible assumption) | (with_reducible refine un_sc _ _ ?_ ?_; focus (dsimp only; omega)))
    · repeat (first | with_reducible assumption | with_reducible exact Below.refl _ _ | with_reducible refine Below.drew ?_ | with_reducible refine below_drewN ?_ _ | with_reducible refine bw_alloc ?_ _ | (with_reducible refine bw_set ?_ ?_ _; focus (dsimp only; omega)) | (with_reducible apply bw_behind; with_reducible assumption))
    · refine c_al _ (hXt.reads (by dsimp only; omega) (by dsimp only; omega) c2_0)
    · refine c_al _ (hXt.reads (by dsimp only; omega) (by dsimp only; omega) c2_1)
    · refine c_al _ (hXt.reads (by dsimp only; omega) (by dsimp only; omega) c2_2)
    · refine c_al _ (hXt.reads (by dsimp only; omega) (by dsimp only; omega) c2_3)
    · refine c_al _ (hXt.reads (by dsimp only; omega) (by dsimp only; omega) c2_4)
    · refine c_al _ (hXt.reads (by dsimp only; omega) (by dsimp only; omega) c2_5)
    · refine c_al _ (hXt.reads (by dsimp only; omega) (by dsimp only; omega) c2_6)
    · refine c_al _ (hXt.reads (by dsimp only; omega) (by dsimp only; omega) c2_7)
    · refine c_al _ (hXt.reads (by dsimp only; omega) (by dsimp only; omega) c2_8)
    · refine c_al _ (hXt.reads (by dsimp only; omega) (by dsimp only; omega) c2_9)
    · refine c_al _ (hXt.reads (by dsimp only; omega) (by dsimp only; omega) c2_10)
    · refine c_al _ (hXt.reads (by dsimp only; omega) (by dsimp only; omega) c2_11)
    · refine c_al _ (hXt.reads (by dsimp only; omega) (by dsimp only; omega) c2_12)
    · simp [go_sem]
    · exact fr_al (fr_out2 hXt (by omega) (by omega) lt2_eb f2_0)
  rintro w3 ⟨hM3, hU3, hB3, c3_0, c3_1, c3_2, c3_3, c3_4, c3_5, c3_6, c3_7, c3_8, c3_9, c3_10, c3_11, c3_12, c3_13, f3_0⟩
  have hlo_bx : N < wt.heap.size ∧ K < wt.heap.size ∧ R < wt.heap.size := ⟨by omega, by omega, by omega⟩
  clear hM2 hU2 hB2 c2_0 c2_1 c2_2 c2_3 c2_4 c2_5 c2_6 c2_7 c2_8 c2_9 c2_10 c2_11 c2_12 f2_0 hT2 hN2 hK2 hR2 lN2 lt2_eb lb2_eb hMt hUt hXt hBt hTt hzt
  generalize wt.heap.size = bx at *
  have hT3 := hT.behind hB3
  have hN3 := hU3.here
  have hK3 := hM3.herek (by omega)
  have hR3 := hM3.hereR
  have lN3 : ltB N w3.heap.size = true := decide_eq_true hN3
  have lt3_eb : eb < w3.heap.size := World.block_lt_of_cell? w3 _ c3_0
  have lb3_eb : ltB eb w3.heap.size = true := decide_eq_true lt3_eb
  have lt3_bx : bx < w3.heap.size := World.block_lt_of_cell? w3 _ c3_13
  have lb3_bx : ltB bx w3.heap.size = true := decide_eq_true lt3_bx
  go_upto_region 8 with fail
  refine wp_abs (fun W => MemW W R K 8 M1 ∧ UnitAt N L1 0 a false W ∧ Below w.heap.size w W ∧ W.cell? ⟨eb, 0, none⟩ = some (.bool true) ∧ W.cell? ⟨eb, 1, none⟩ = some (.bool true) ∧ W.cell? ⟨eb, 2, none⟩ = some (.bool false) ∧ W.cell? ⟨eb, 3, none⟩ = some (.bool false) ∧ W.cell? ⟨eb, 4, none⟩ = some (.bool true) ∧ W.cell? ⟨eb, 5, none⟩ = some (.bool false) ∧ W.cell? ⟨eb, 6, none⟩ = some (.bool false) ∧ W.cell? ⟨eb, 7, none⟩ = some (.bool false) ∧ W.cell? ⟨eb, 8, none⟩ = some (.bool false) ∧ W.cell? ⟨eb, 9, none⟩ = some (.bool false) ∧ W.cell? ⟨eb, 10, none⟩ = some (.bool false) ∧ W.cell? ⟨eb, 11, none⟩ = some (.bool false) ∧ W.cell? ⟨eb, 12, none⟩ = some (.int .u64 6) ∧ W.cell? ⟨bx, 0, none⟩ = some (.int .u64 20480) ∧ W.frozen? ⟨eb, 12, none⟩ = false) ?_ ?_
  · refine ⟨?_, ?_, ?_, ?_, ?_, ?_, ?_, ?_, ?_, ?_, ?_, ?_, ?_, ?_, ?_, ?_, ?_, ?_⟩
    · exact mw_set (by dsimp only; omega) (by dsimp only; omega) hM3
    · exact un_set (by dsimp only; omega) hU3
    · exact bw_set (by dsimp only; omega) hB3 _
    · exact (World.cell?_setCell_other _ _ _ _ (fun x => by have := congrArg Addr.off x; simp at this)).trans c3_0
    · exact (World.cell?_setCell_other _ _ _ _ (fun x => by have := congrArg Addr.off x; simp at this)).trans c3_1
    · exact (World.cell?_setCell_other _ _ _ _ (fun x => by have := congrArg Addr.off x; simp at this)).trans c3_2
    · exact (World.cell?_setCell_other _ _ _ _ (fun x => by have := congrArg Addr.off x; simp at this)).trans c3_3
    · exact (World.cell?_setCell_other _ _ _ _ (fun x => by have := congrArg Addr.off x; simp at this)).trans c3_4
    · exact (World.cell?_setCell_other _ _ _ _ (fun x => by have := congrArg Addr.off x; simp at this)).trans c3_5
    · exact (World.cell?_setCell_other _ _ _ _ (fun x => by have := congrArg Addr.off x; simp at this)).trans c3_6
    · exact (World.cell?_setCell_other _ _ _ _ (fun x => by have := congrArg Addr.off x; simp at this)).trans c3_7
    · exact (World.cell?_setCell_other _ _ _ _ (fun x => by have := congrArg Addr.off x; simp at this)).trans c3_8
    · exact (World.cell?_setCell_other _ _ _ _ (fun x => by have := congrArg Addr.off x; simp at this)).trans c3_9
    · exact (World.cell?_setCell_other _ _ _ _ (fun x => by have := congrArg Addr.off x; simp at this)).trans c3_10
    · exact (World.cell?_setCell_other _ _ _ _ (fun x => by have := congrArg Addr.off x; simp at this)).trans c3_11
    · exact World.cell?_setCell_same _ _ _ c3_12
    · exact c_set (by dsimp only; omega) c3_13
    · rw [World.frozen?_setCell]; exact f3_0
  rintro w4 ⟨hM4, hU4, hB4, c4_0, c4_1, c4_2, c4_3, c4_4, c4_5, c4_6, c4_7, c4_8, c4_9, c4_10, c4_11, c4_12, c4_13, f4_0⟩
  clear hM3 hU3 hB3 c3_0 c3_1 c3_2 c3_3 c3_4 c3_5 c3_6 c3_7 c3_8 c3_9 c3_10 c3_11 c3_12 c3_13 f3_0 hT3 hN3 hK3 hR3 lN3 lt3_eb lb3_eb lt3_bx lb3_bx 
  have hT4 := hT.behind hB4
  have hN4 := hU4.here
  have hK4 := hM4.herek (by omega)
  have hR4 := hM4.hereR
  have lN4 : ltB N w4.heap.size = true := decide_eq_true hN4
  have lt4_eb : eb < w4.heap.size := World.block_lt_of_cell? w4 _ c4_0
  have lb4_eb : ltB eb w4.heap.size = true := decide_eq_true lt4_eb
  have lt4_bx : bx < w4.heap.size := World.block_lt_of_cell? w4 _ c4_13
  have lb4_bx : ltB bx w4.heap.size = true := decide_eq_true lt4_bx
  go_upto_region 9 with (first | (go_at_call 11; (with_reducible refine (CcB.out _ K _ ?_).mono ?_); (focus (repeat (first | with_reducible assumption | with_reducible refine mw_dr _ ?_ | with_reducible refine mw_d1 ?_ | with_reducible refine mw_al _ ?_ | (with_reducible apply mw_be; with_reducible assumption)))); rintro e wo ⟨rfl, hMo, hOo⟩) | (go_at_call 12; (with_reducible refine (CcX.out _ ?_).mono ?_); (focus ((first | with_reducible assumption | (refine Tab.behind (by with_reducible assumption) ?_; repeat (first | with_reducible assumption | with_reducible exact Below.refl _ _ | with_reducible refine Below.drew ?_ | with_reducible refine below_drewN ?_ _ | with_reducible refine bw_alloc ?_ _ | (with_reducible refine bw_set ?_ ?_ _; focus (dsimp only; omega)) | (with_reducible apply bw_behind; with_reducible assumption)))))); rintro e wv ⟨rfl, hbv⟩; have hrv := below_reads hbv; have hhv := below_holds hbv; obtain ⟨mv, hsv⟩ := below_grew hbv))
  have hBv : Below w4.heap.size w4 wv := by
    repeat (first | with_reducible assumption | with_reducible exact Below.refl _ _ | with_reducible refine Below.drew ?_ | with_reducible refine below_drewN ?_ _ | with_reducible refine bw_alloc ?_ _ | (with_reducible refine bw_set ?_ ?_ _; focus (dsimp only; omega)) | (with_reducible apply bw_behind; with_reducible assumption))
  have hUo := un_out hOo nNK (un_be hBv hU4)
  have hBw : Below w.heap.size w wo := Below.trans (hB4.trans (hBv.mono hB4.size)) (hOo.below (by omega) (by have := hBv.size; have := hB4.size; omega))
  refine wp_abs (fun W => MemW W R K 8 M2 ∧ UnitAt N L1 0 a false W ∧ Below w.heap.size w W ∧ W.cell? ⟨eb, 0, none⟩ = some (.bool true) ∧ W.cell? ⟨eb, 1, none⟩ = some (.bool true) ∧ W.cell? ⟨eb, 2, none⟩ = some (.bool false) ∧ W.cell? ⟨eb, 3, none⟩ = some (.bool false) ∧ W.cell? ⟨eb, 4, none⟩ = some (.bool true) ∧ W.cell? ⟨eb, 5, none⟩ = some (.bool false) ∧ W.cell? ⟨eb, 6, none⟩ = some (.bool false) ∧ W.cell? ⟨eb, 7, none⟩ = some (.bool false) ∧ W.cell? ⟨eb, 8, none⟩ = some (.bool false) ∧ W.cell? ⟨eb, 9, none⟩ = some (.bool false) ∧ W.cell? ⟨eb, 10, none⟩ = some (.bool false) ∧ W.cell? ⟨eb, 11, none⟩ = some (.bool false) ∧ W.cell? ⟨eb, 12, none⟩ = some (.int .u64 6) ∧ W.cell? ⟨bx, 0, none⟩ = some (.int .u64 20480) ∧ W.frozen? ⟨eb, 12, none⟩ = false) ?_ ?_
  · refine ⟨?_, ?_, ?_, ?_, ?_, ?_, ?_, ?_, ?_, ?_, ?_, ?_, ?_, ?_, ?_, ?_, ?_, ?_⟩
    · repeat (first | with_reducible assumption | with_reducible refine mw_dr _ ?_ | with_reducible refine mw_d1 ?_ | with_reducible refine mw_al _ ?_ | (with_reducible apply mw_be; with_reducible assumption))
    · repeat (first | with_reducible assumption | with_reducible refine un_dr _ ?_ | with_reducible refine un_d1 ?_ | with_reducible refine un_al _ ?_ | (with_reducible refine un_set ?_ ?_; focus (dsimp only; omega)) | (with_reducible apply un_be; with_reducible assumption) | (with_reducible refine un_sc _ _ ?_ ?_; focus (dsimp only; omega)))
    · repeat (first | with_reducible assumption | with_reducible exact Below.refl _ _ | with_reducible refine Below.drew ?_ | with_reducible refine below_drewN ?_ _ | with_reducible refine bw_alloc ?_ _ | (with_reducible refine bw_set ?_ ?_ _; focus (dsimp only; omega)) | (with_reducible apply bw_behind; with_reducible assumption))
    · exact hOo.reads (by dsimp only; omega) (c_be hBv c4_0)
    · exact hOo.reads (by dsimp only; omega) (c_be hBv c4_1)
    · exact hOo.reads (by dsimp only; omega) (c_be hBv c4_2)
    · exact hOo.reads (by dsimp only; omega) (c_be hBv c4_3)
    · exact hOo.reads (by dsimp only; omega) (c_be hBv c4_4)
    · exact hOo.reads (by dsimp only; omega) (c_be hBv c4_5)
    · exact hOo.reads (by dsimp only; omega) (c_be hBv c4_6)
    · exact hOo.reads (by dsimp only; omega) (c_be hBv c4_7)
    · exact hOo.reads (by dsimp only; omega) (c_be hBv c4_8)
    · exact hOo.reads (by dsimp only; omega) (c_be hBv c4_9)
    · exact hOo.reads (by dsimp only; omega) (c_be hBv c4_10)
    · exact hOo.reads (by dsimp only; omega) (c_be hBv c4_11)
    · exact hOo.reads (by dsimp only; omega) (c_be hBv c4_12)
    · exact hOo.reads (by dsimp only; omega) (c_be hBv c4_13)
    · exact fr_out hOo (by omega) (by have := hBv.size; omega) (fr_be hBv lt4_eb f4_0)
  rintro w5 ⟨hM5, hU5, hB5, c5_0, c5_1, c5_2, c5_3, c5_4, c5_5, c5_6, c5_7, c5_8, c5_9, c5_10, c5_11, c5_12, c5_13, f5_0⟩
  clear hM4 hU4 hB4 c4_0 c4_1 c4_2 c4_3 c4_4 c4_5 c4_6 c4_7 c4_8 c4_9 c4_10 c4_11 c4_12 c4_13 f4_0 hT4 hN4 hK4 hR4 lN4 lt4_eb lb4_eb lt4_bx lb4_bx hMo hOo hUo hBw hBv hrv hhv hsv hbv
  have hT5 := hT.behind hB5
  have hN5 := hU5.here
  have hK5 := hM5.herek (by omega)
  have hR5 := hM5.hereR
  have lN5 : ltB N w5.heap.size = true := decide_eq_true hN5
  have lt5_eb : eb < w5.heap.size := World.block_lt_of_cell? w5 _ c5_0
  have lb5_eb : ltB eb w5.heap.size = true := decide_eq_true lt5_eb
  have lt5_bx : bx < w5.heap.size := World.block_lt_of_cell? w5 _ c5_13
  have lb5_bx : ltB bx w5.heap.size = true := decide_eq_true lt5_bx
  have ha5 := hU5.asid
  have hz5 := hU5.free 133 (by omega)
  go_upto_region 10 with fail
  refine wp_abs (fun W => MemW W R K 8 M2 ∧ UnitAt N L1 0 b false W ∧ Below w.heap.size w W ∧ W.cell? ⟨eb, 0, none⟩ = some (.bool true) ∧ W.cell? ⟨eb, 1, none⟩ = some (.bool true) ∧ W.cell? ⟨eb, 2, none⟩ = some (.bool false) ∧ W.cell? ⟨eb, 3, none⟩ = some (.bool false) ∧ W.cell? ⟨eb, 4, none⟩ = some (.bool true) ∧ W.cell? ⟨eb, 5, none⟩ = some (.bool false) ∧ W.cell? ⟨eb, 6, none⟩ = some (.bool false) ∧ W.cell? ⟨eb, 7, none⟩ = some (.bool false) ∧ W.cell? ⟨eb, 8, none⟩ = some (.bool false) ∧ W.cell? ⟨eb, 9, none⟩ = some (.bool false) ∧ W.cell? ⟨eb, 10, none⟩ = some (.bool false) ∧ W.cell? ⟨eb, 11, none⟩ = some (.bool false) ∧ W.cell? ⟨eb, 12, none⟩ = some (.int .u64 6) ∧ W.cell? ⟨bx, 0, none⟩ = some (.int .u64 20480) ∧ W.frozen? ⟨eb, 12, none⟩ = false) ?_ ?_
  · refine ⟨?_, ?_, ?_, ?_, ?_, ?_, ?_, ?_, ?_, ?_, ?_, ?_, ?_, ?_, ?_, ?_, ?_, ?_⟩
    · exact mw_set (by dsimp only; omega) (by dsimp only; omega) hM5
    · exact un_asid b hU5
    · exact bw_set (by dsimp only; omega) hB5 _
    · exact c_set (by dsimp only; omega) c5_0
    · exact c_set (by dsimp only; omega) c5_1
    · exact c_set (by dsimp only; omega) c5_2
    · exact c_set (by dsimp only; omega) c5_3
    · exact c_set (by dsimp only; omega) c5_4
    · exact c_set (by dsimp only; omega) c5_5
    · exact c_set (by dsimp only; omega) c5_6
    · exact c_set (by dsimp only; omega) c5_7
    · exact c_set (by dsimp only; omega) c5_8
    · exact c_set (by dsimp only; omega) c5_9
    · exact c_set (by dsimp only; omega) c5_10
    · exact c_set (by dsimp only; omega) c5_11
    · exact c_set (by dsimp only; omega) c5_12
    · exact c_set (by dsimp only; omega) c5_13
    · rw [World.frozen?_setCell]; exact f5_0
  rintro w6 ⟨hM6, hU6, hB6, c6_0, c6_1, c6_2, c6_3, c6_4, c6_5, c6_6, c6_7, c6_8, c6_9, c6_10, c6_11, c6_12, c6_13, f6_0⟩
  clear hM5 hU5 hB5 c5_0 c5_1 c5_2 c5_3 c5_4 c5_5 c5_6 c5_7 c5_8 c5_9 c5_10 c5_11 c5_12 c5_13 f5_0 hT5 hN5 hK5 hR5 lN5 lt5_eb lb5_eb lt5_bx lb5_bx ha5 hz5
  have hT6 := hT.behind hB6
  have hN6 := hU6.here
  have hK6 := hM6.herek (by omega)
  have hR6 := hM6.hereR
  have lN6 : ltB N w6.heap.size = true := decide_eq_true hN6
  have lt6_eb : eb < w6.heap.size := World.block_lt_of_cell? w6 _ c6_0
  have lb6_eb : ltB eb w6.heap.size = true := decide_eq_true lt6_eb
  have lt6_bx : bx < w6.heap.size := World.block_lt_of_cell? w6 _ c6_13
  have lb6_bx : ltB bx w6.heap.size = true := decide_eq_true lt6_bx
  go_upto_region 11 with (go_at_call 7; (with_reducible refine (CcT2.out _ _ K _ ?_ ?_ ?_).mono ?_); (focus ((first | with_reducible assumption | (refine Tab.behind (by with_reducible assumption) ?_; repeat (first | with_reducible assumption | with_reducible exact Below.refl _ _ | with_reducible refine Below.drew ?_ | with_reducible refine below_drewN ?_ _ | with_reducible refine bw_alloc ?_ _ | (with_reducible refine bw_set ?_ ?_ _; focus (dsimp only; omega)) | (with_reducible apply bw_behind; with_reducible assumption)))))); (focus (repeat (first | with_reducible assumption | with_reducible refine mw_dr _ ?_ | with_reducible refine mw_d1 ?_ | with_reducible refine mw_al _ ?_ | (with_reducible apply mw_be; with_reducible assumption)))); (focus (repeat (first | with_reducible assumption | with_reducible refine un_dr _ ?_ | with_reducible refine un_d1 ?_ | with_reducible refine un_al _ ?_ | (with_reducible refine un_set ?_ ?_; focus (dsimp only; omega)) | (with_reducible apply un_be; with_reducible assumption) | (with_reducible refine un_sc _ _ ?_ ?_; focus (dsimp only; omega))))); rintro e wt ⟨rfl, hMt, hUt, hXt⟩)
  have hBt : Below w.heap.size w wt := hB6.trans (hXt.below (by omega) (by omega) hB6.size)
  have hTt := hT.behind hBt
  have hzt := hXt.size
  refine wp_abs (fun W => MemW W R K 8 M3 ∧ UnitAt N L2 0 b false W ∧ Below w.heap.size w W ∧ W.cell? ⟨bx, 0, none⟩ = some (.int .u64 20480) ∧ W.cell? ⟨wt.heap.size, 0, none⟩ = some (.int .u64 y)) ?_ ?_
  · refine ⟨?_, ?_, ?_, ?_, ?_⟩
    · repeat (first | with_reducible assumption | with_reducible refine mw_dr _ ?_ | with_reducible refine mw_d1 ?_ | with_reducible refine mw_al _ ?_ | (with_reducible apply mw_be; with_reducible assumption))
    · repeat (first | with_reducible assumption | with_reducible refine un_dr _ ?_ | with_reducible refine un_d1 ?_ | with_reducible refine un_al _ ?_ | (with_reducible refine un_set ?_ ?_; focus (dsimp only; omega)) | (with_reducible apply un_be; with_reducible assumption) | (with_reducible refine un_sc _ _ ?_ ?_; focus (dsimp only; omega)))
    · repeat (first | with_reducible assumption | with_reducible exact Below.refl _ _ | with_reducible refine Below.drew ?_ | with_reducible refine below_drewN ?_ _ | with_reducible refine bw_alloc ?_ _ | (with_reducible refine bw_set ?_ ?_ _; focus (dsimp only; omega)) | (with_reducible apply bw_behind; with_reducible assumption))
    · refine c_al _ (hXt.reads (by dsimp only; omega) (by dsimp only; omega) c6_13)
    · simp [go_sem]
  rintro w7 ⟨hM7, hU7, hB7, c7_0, c7_1⟩
  have hlo_bv : N < wt.heap.size ∧ K < wt.heap.size ∧ R < wt.heap.size := ⟨by omega, by omega, by omega⟩
  clear hM6 hU6 hB6 c6_0 c6_1 c6_2 c6_3 c6_4 c6_5 c6_6 c6_7 c6_8 c6_9 c6_10 c6_11 c6_12 c6_13 f6_0 hT6 hN6 hK6 hR6 lN6 lt6_eb lb6_eb lt6_bx lb6_bx hMt hUt hXt hBt hTt hzt
  generalize wt.heap.size = bv at *
  have hT7 := hT.behind hB7
  have hN7 := hU7.here
  have hK7 := hM7.herek (by omega)
  have hR7 := hM7.hereR
  have lN7 : ltB N w7.heap.size = true := decide_eq_true hN7
  have lt7_bx : bx < w7.heap.size := World.block_lt_of_cell? w7 _ c7_0
  have lb7_bx : ltB bx w7.heap.size = true := decide_eq_true lt7_bx
  have lt7_bv : bv < w7.heap.size := World.block_lt_of_cell? w7 _ c7_1
  have lb7_bv : ltB bv w7.heap.size = true := decide_eq_true lt7_bv
  go_upto_region 14 with (go_at_call 17; (with_reducible refine (CcF.out _ _ ?_).mono ?_); (focus (repeat (first | exact hU7.tlb | with_reducible refine tm_dr _ ?_ | with_reducible refine tm_d1 ?_))); rintro e wf ⟨rfl, hTf, hOf⟩)
  have hUf := un_tlb hOf hTf hU7
  have hMf := mw_o1 hOf nNK nNR (by omega) hM7
  have hBf : Below w.heap.size w wf := hB7.trans (hOf.below (by omega) hB7.size)
  refine wp_abs (fun W => MemW W R K 8 M3 ∧ UnitAt N L3 0 b false W ∧ Below w.heap.size w W ∧ W.cell? ⟨bx, 0, none⟩ = some (.int .u64 20480) ∧ W.cell? ⟨bv, 0, none⟩ = some (.int .u64 y)) ?_ ?_
  · refine ⟨?_, ?_, ?_, ?_, ?_⟩
    · repeat (first | with_reducible assumption | with_reducible refine mw_dr _ ?_ | with_reducible refine mw_d1 ?_ | with_reducible refine mw_al _ ?_ | (with_reducible apply mw_be; with_reducible assumption))
    · repeat (first | with_reducible assumption | with_reducible refine un_dr _ ?_ | with_reducible refine un_d1 ?_ | with_reducible refine un_al _ ?_ | (with_reducible refine un_set ?_ ?_; focus (dsimp only; omega)) | (with_reducible apply un_be; with_reducible assumption) | (with_reducible refine un_sc _ _ ?_ ?_; focus (dsimp only; omega)))
    · repeat (first | with_reducible assumption | with_reducible exact Below.refl _ _ | with_reducible refine Below.drew ?_ | with_reducible refine below_drewN ?_ _ | with_reducible refine bw_alloc ?_ _ | (with_reducible refine bw_set ?_ ?_ _; focus (dsimp only; omega)) | (with_reducible apply bw_behind; with_reducible assumption))
    · exact hOf.reads (by dsimp only; omega) c7_0
    · exact hOf.reads (by dsimp only; omega) c7_1
  rintro w8 ⟨hM8, hU8, hB8, c8_0, c8_1⟩
  clear hM7 hU7 hB7 c7_0 c7_1 hT7 hN7 hK7 hR7 lN7 lt7_bx lb7_bx lt7_bv lb7_bv hUf hMf hBf hTf hOf
  have hT8 := hT.behind hB8
  have hN8 := hU8.here
  have hK8 := hM8.herek (by omega)
  have hR8 := hM8.hereR
  have lN8 : ltB N w8.heap.size = true := decide_eq_true hN8
  have lt8_bx : bx < w8.heap.size := World.block_lt_of_cell? w8 _ c8_0
  have lb8_bx : ltB bx w8.heap.size = true := decide_eq_true lt8_bx
  have lt8_bv : bv < w8.heap.size := World.block_lt_of_cell? w8 _ c8_1
  have lb8_bv : ltB bv w8.heap.size = true := decide_eq_true lt8_bv
  go_upto_region 15 with (go_at_call 7; (with_reducible refine (CcT3.out _ _ K _ ?_ ?_ ?_).mono ?_); (focus ((first | with_reducible assumption | (refine Tab.behind (by with_reducible assumption) ?_; repeat (first | with_reducible assumption | with_reducible exact Below.refl _ _ | with_reducible refine Below.drew ?_ | with_reducible refine below_drewN ?_ _ | with_reducible refine bw_alloc ?_ _ | (with_reducible refine bw_set ?_ ?_ _; focus (dsimp only; omega)) | (with_reducible apply bw_behind; with_reducible assumption)))))); (focus (repeat (first | with_reducible assumption | with_reducible refine mw_dr _ ?_ | with_reducible refine mw_d1 ?_ | with_reducible refine mw_al _ ?_ | (with_reducible apply mw_be; with_reducible assumption)))); (focus (repeat (first | with_reducible assumption | with_reducible refine un_dr _ ?_ | with_reducible refine un_d1 ?_ | with_reducible refine un_al _ ?_ | (with_reducible refine un_set ?_ ?_; focus (dsimp only; omega)) | (with_reducible apply un_be; with_reducible assumption) | (with_reducible refine un_sc _ _ ?_ ?_; focus (dsimp only; omega))))); rintro e wt ⟨rfl, hMt, hUt, hXt⟩)
  have hBt : Below w.heap.size w wt := hB8.trans (hXt.below (by omega) (by omega) hB8.size)
  have hTt := hT.behind hBt
  have hzt := hXt.size
  refine wp_abs (fun W => MemW W R K 8 M4 ∧ UnitAt N L4 0 b false W ∧ Below w.heap.size w W ∧ W.cell? ⟨wt.heap.size, 0, none⟩ = some (.int .u64 24576)) ?_ ?_
  · refine ⟨?_, ?_, ?_, ?_⟩
    · repeat (first | with_reducible assumption | with_reducible refine mw_dr _ ?_ | with_reducible refine mw_d1 ?_ | with_reducible refine mw_al _ ?_ | (with_reducible apply mw_be; with_reducible assumption))
    · repeat (first | with_reducible assumption | with_reducible refine un_dr _ ?_ | with_reducible refine un_d1 ?_ | with_reducible refine un_al _ ?_ | (with_reducible refine un_set ?_ ?_; focus (dsimp only; omega)) | (with_reducible apply un_be; with_reducible assumption) | (with_reducible refine un_sc _ _ ?_ ?_; focus (dsimp only; omega)))
    · repeat (first | with_reducible assumption | with_reducible exact Below.refl _ _ | with_reducible refine Below.drew ?_ | with_reducible refine below_drewN ?_ _ | with_reducible refine bw_alloc ?_ _ | (with_reducible refine bw_set ?_ ?_ _; focus (dsimp only; omega)) | (with_reducible apply bw_behind; with_reducible assumption))
    · simp [go_sem]
  rintro w9 ⟨hM9, hU9, hB9, c9_0⟩
  have hlo_bz : N < wt.heap.size ∧ K < wt.heap.size ∧ R < wt.heap.size := ⟨by omega, by omega, by omega⟩
  clear hM8 hU8 hB8 c8_0 c8_1 hT8 hN8 hK8 hR8 lN8 lt8_bx lb8_bx lt8_bv lb8_bv hMt hUt hXt hBt hTt hzt
  generalize wt.heap.size = bz at *
  have hT9 := hT.behind hB9
  have hN9 := hU9.here
  have hK9 := hM9.herek (by omega)
  have hR9 := hM9.hereR
  have lN9 : ltB N w9.heap.size = true := decide_eq_true hN9
  have lt9_bz : bz < w9.heap.size := World.block_lt_of_cell? w9 _ c9_0
  have lb9_bz : ltB bz w9.heap.size = true := decide_eq_true lt9_bz
  have ha9 := hU9.asid
  have hz9 := hU9.free 133 (by omega)
  go_upto_region 16 with fail
  refine wp_abs (fun W => MemW W R K 8 M4 ∧ UnitAt N L4 0 a false W ∧ Below w.heap.size w W ∧ W.cell? ⟨bz, 0, none⟩ = some (.int .u64 24576)) ?_ ?_
  · refine ⟨?_, ?_, ?_, ?_⟩
    · exact mw_set (by dsimp only; omega) (by dsimp only; omega) hM9
    · exact un_asid a hU9
    · exact bw_set (by dsimp only; omega) hB9 _
    · exact c_set (by dsimp only; omega) c9_0
  rintro w10 ⟨hM10, hU10, hB10, c10_0⟩
  clear hM9 hU9 hB9 c9_0 hT9 hN9 hK9 hR9 lN9 lt9_bz lb9_bz ha9 hz9
  have hT10 := hT.behind hB10
  have hN10 := hU10.here
  have hK10 := hM10.herek (by omega)
  have hR10 := hM10.hereR
  have lN10 : ltB N w10.heap.size = true := decide_eq_true hN10
  have lt10_bz : bz < w10.heap.size := World.block_lt_of_cell? w10 _ c10_0
  have lb10_bz : ltB bz w10.heap.size = true := decide_eq_true lt10_bz
  go_upto_region 17 with (go_at_call 7; (with_reducible refine (CcT4.out _ _ K _ ?_ ?_ ?_).mono ?_); (focus ((first | with_reducible assumption | (refine Tab.behind (by with_reducible assumption) ?_; repeat (first | with_reducible assumption | with_reducible exact Below.refl _ _ | with_reducible refine Below.drew ?_ | with_reducible refine below_drewN ?_ _ | with_reducible refine bw_alloc ?_ _ | (with_reducible refine bw_set ?_ ?_ _; focus (dsimp only; omega)) | (with_reducible apply bw_behind; with_reducible assumption)))))); (focus (repeat (first | with_reducible assumption | with_reducible refine mw_dr _ ?_ | with_reducible refine mw_d1 ?_ | with_reducible refine mw_al _ ?_ | (with_reducible apply mw_be; with_reducible assumption)))); (focus (repeat (first | with_reducible assumption | with_reducible refine un_dr _ ?_ | with_reducible refine un_d1 ?_ | with_reducible refine un_al _ ?_ | (with_reducible refine un_set ?_ ?_; focus (dsimp only; omega)) | (with_reducible apply un_be; with_reducible assumption) | (with_reducible refine un_sc _ _ ?_ ?_; focus (dsimp only; omega))))); rintro e wt ⟨rfl, hMt, hUt, hXt⟩)
  have hBt : Below w.heap.size w wt := hB10.trans (hXt.below (by omega) (by omega) hB10.size)
  have hTt := hT.behind hBt
  have hzt := hXt.size
  refine wp_abs (fun W => MemW W R K 8 M5 ∧ UnitAt N L5 0 a false W ∧ Below w.heap.size w W ∧ W.cell? ⟨bz, 0, none⟩ = some (.int .u64 24576) ∧ W.cell? ⟨wt.heap.size, 0, none⟩ = some (.int .u64 z)) ?_ ?_
  · refine ⟨?_, ?_, ?_, ?_, ?_⟩
    · repeat (first | with_reducible assumption | with_reducible refine mw_dr _ ?_ | with_reducible refine mw_d1 ?_ | with_reducible refine mw_al _ ?_ | (with_reducible apply mw_be; with_reducible assumption))
    · repeat (first | with_reducible assumption | with_reducible refine un_dr _ ?_ | with_reducible refine un_d1 ?_ | with_reducible refine un_al _ ?_ | (with_reducible refine un_set ?_ ?_; focus (dsimp only; omega)) | (with_reducible apply un_be; with_reducible assumption) | (with_reducible refine un_sc _ _ ?_ ?_; focus (dsimp only; omega)))
    · repeat (first | with_reducible assumption | with_reducible exact Below.refl _ _ | with_reducible refine Below.drew ?_ | with_reducible refine below_drewN ?_ _ | with_reducible refine bw_alloc ?_ _ | (with_reducible refine bw_set ?_ ?_ _; focus (dsimp only; omega)) | (with_reducible apply bw_behind; with_reducible assumption))
    · refine c_al _ (hXt.reads (by dsimp only; omega) (by dsimp only; omega) c10_0)
    · simp [go_sem]
  rintro w11 ⟨hM11, hU11, hB11, c11_0, c11_1⟩
  have hlo_bw : N < wt.heap.size ∧ K < wt.heap.size ∧ R < wt.heap.size := ⟨by omega, by omega, by omega⟩
  clear hM10 hU10 hB10 c10_0 hT10 hN10 hK10 hR10 lN10 lt10_bz lb10_bz hMt hUt hXt hBt hTt hzt
  generalize wt.heap.size = bw at *
  have hT11 := hT.behind hB11
  have hN11 := hU11.here
  have hK11 := hM11.herek (by omega)
  have hR11 := hM11.hereR
  have lN11 : ltB N w11.heap.size = true := decide_eq_true hN11
  have lt11_bz : bz < w11.heap.size := World.block_lt_of_cell? w11 _ c11_0
  have lb11_bz : ltB bz w11.heap.size = true := decide_eq_true lt11_bz
  have lt11_bw : bw < w11.heap.size := World.block_lt_of_cell? w11 _ c11_1
  have lb11_bw : ltB bw w11.heap.size = true := decide_eq_true lt11_bw
  go_wp2_with (go_at_call 25; (with_reducible refine (CcO.out _ ?_).mono ?_); (focus ((first | with_reducible assumption | (refine Tab.behind (by with_reducible assumption) ?_; repeat (first | with_reducible assumption | with_reducible exact Below.refl _ _ | with_reducible refine Below.drew ?_ | with_reducible refine below_drewN ?_ _ | with_reducible refine bw_alloc ?_ _ | (with_reducible refine bw_set ?_ ?_ _; focus (dsimp only; omega)) | (with_reducible apply bw_behind; with_reducible assumption)))))); rintro e wz ⟨rfl, hbz⟩; have hrz := below_reads hbz; have hhz := below_holds hbz; obtain ⟨mz, hsz⟩ := below_grew hbz)
  refine bodyPost_ret (v := .bool true) (by simp (maxDischargeDepth := 4) [results, Tryd.results5, go_sem, *]) rfl ?_
  refine ⟨rfl, ?_⟩
  repeat (first | with_reducible assumption | with_reducible exact Below.refl _ _ | with_reducible refine Below.drew ?_ | with_reducible refine below_drewN ?_ _ | with_reducible refine bw_alloc ?_ _ | (with_reducible refine bw_set ?_ ?_ _; focus (dsimp only; omega)) | (with_reducible apply bw_behind; with_reducible assumption))

set_option maxRecDepth 100000 in
set_option maxHeartbeats 16000000 in
theorem walk_eq (o : Nat) (a b H p X Y8 Y V V2 y z : Int) (Ms M0 M1 M2 M3 M4 M5 : Nat → Nat → BitVec 64) (L1 L2 L3 L4 L5 : Nat → List Ln) (cS : ∀ W, Tab W → Calls Tryd.prog 6 #[] W (fun e W' => ∃ R K sa na ca sb nb cb, e = .returned (.tuple #[.pointer (some ⟨R, 0, none⟩), .agg #[.int .i64 8, .slice sa na ca, .slice sb nb cb, .slice none 0 0]]) ∧ MemW W' R K 8 Ms ∧ Below W.heap.size W W' ∧ W.heap.size ≤ R ∧ W.heap.size ≤ K)) (cW : ∀ W, Tab W → Calls Tryd.prog 12 #[.agg #[.bool true, .bool true, .bool false, .bool false, .bool true, .bool false, .bool false, .bool false, .bool false, .bool false, .bool false, .bool false, .int .u64 5]] W (Makes (.int .u64 V) W)) (cX : ∀ W, Tab W → Calls Tryd.prog 12 #[.agg #[.bool true, .bool true, .bool false, .bool false, .bool true, .bool false, .bool false, .bool false, .bool false, .bool false, .bool false, .bool false, .int .u64 6]] W (Makes (.int .u64 V2) W)) (cA : ∀ R K W, MemW W R K 8 Ms → Calls Tryd.prog 11 #[.pointer (some ⟨R, 0, none⟩), .int .u64 Y, .int .i64 8, .int .u64 V] W (fun e w' => e = .returned (.int .i64 0) ∧ MemW w' R K 8 M0 ∧ Out K o W w')) (cB : ∀ R K W, MemW W R K 8 M1 → Calls Tryd.prog 11 #[.pointer (some ⟨R, 0, none⟩), .int .u64 Y, .int .i64 8, .int .u64 V2] W (fun e w' => e = .returned (.int .i64 0) ∧ MemW w' R K 8 M2 ∧ Out K o W w')) (cT1 : ∀ N R K W, Tab W → MemW W R K 8 M0 → UnitAt N (fun _ => []) 0 a false W → Calls Tryd.prog 7 #[.pointer (some ⟨N, 0, none⟩), .pointer (some ⟨R, 0, none⟩), .int .u64 X, .int .i64 1, .bool false] W (fun e w' => e = .returned (.tuple #[.agg #[.int .u64 20480, .bool false], .int .i64 0]) ∧ MemW w' R K 8 M1 ∧ UnitAt N L1 0 a false w' ∧ Out2 N K W w')) (cT2 : ∀ N R K W, Tab W → MemW W R K 8 M2 → UnitAt N L1 0 b false W → Calls Tryd.prog 7 #[.pointer (some ⟨N, 0, none⟩), .pointer (some ⟨R, 0, none⟩), .int .u64 X, .int .i64 1, .bool false] W (fun e w' => e = .returned (.tuple #[.agg #[.int .u64 y, .bool false], .int .i64 0]) ∧ MemW w' R K 8 M3 ∧ UnitAt N L2 0 b false w' ∧ Out2 N K W w')) (cF : ∀ N W, TlbM W N L2 → Calls Tryd.prog 17 #[.pointer (some ⟨N, 0, none⟩), .int .u64 b] W (fun e w' => e = .returned (.tuple #[]) ∧ TlbM w' N L3 ∧ Out1 N W w')) (cT3 : ∀ N R K W, Tab W → MemW W R K 8 M3 → UnitAt N L3 0 b false W → Calls Tryd.prog 7 #[.pointer (some ⟨N, 0, none⟩), .pointer (some ⟨R, 0, none⟩), .int .u64 X, .int .i64 1, .bool false] W (fun e w' => e = .returned (.tuple #[.agg #[.int .u64 24576, .bool false], .int .i64 0]) ∧ MemW w' R K 8 M4 ∧ UnitAt N L4 0 b false w' ∧ Out2 N K W w')) (cT4 : ∀ N R K W, Tab W → MemW W R K 8 M4 → UnitAt N L4 0 a false W → Calls Tryd.prog 7 #[.pointer (some ⟨N, 0, none⟩), .pointer (some ⟨R, 0, none⟩), .int .u64 X, .int .i64 1, .bool false] W (fun e w' => e = .returned (.tuple #[.agg #[.int .u64 z, .bool false], .int .i64 0]) ∧ MemW w' R K 8 M5 ∧ UnitAt N L5 0 a false w' ∧ Out2 N K W w')) (cO : ∀ W, Tab W → Calls Tryd.prog 25 #[] W (Makes (.bool true) W)) (_g1 : bits .and .i64 p 7 = H) (_g2 : IntKind.u64.wrap H = H) (_g3 : IntKind.u64.wrap (8 * H) = Y8) (_g4 : IntKind.u64.wrap (8192 + Y8) = Y) (_g5 : IntKind.u64.wrap (H * 4096) = X) (_n0 : (a != b) = false) (_n1 : (y == 24576) = false) (_n2 : (z == 20480) = false) (w : World) (hT : Tab w) : Calls Tryd.prog 5 #[.int .u64 a, .int .u64 b, .int .i64 p] w (Makes (.bool true) w) := by
  have CcS := hide cS
  have CcW := hide cW
  have CcX := hide cX
  have CcA := hide cA
  have CcB := hide cB
  have CcT1 := hide cT1
  have CcT2 := hide cT2
  have CcF := hide cF
  have CcT3 := hide cT3
  have CcT4 := hide cT4
  have CcO := hide cO
  clear cS cW cX cA cB cT1 cT2 cF cT3 cT4 cO
  have SS := cell_same
  have LB' := ltB_add
  have LS := ltB_self
  have LA' := alloc_reads
  have LH := alloc_holds
  obtain ⟨Z0, hz0, hl0⟩ := unit_zero
  have hZl := unit_set133 hl0 a
  have hZ0s : Z0.size = 135 := by rw [← Array.length_toList, hl0, unitC_length]
  go_enter Tryd.func5, Tryd.ntmps5
  go_upto_region 5 with (first | (go_at_call 6; (with_reducible refine (CcS.out _ ?_).mono ?_); (focus ((first | with_reducible assumption | (refine Tab.behind (by with_reducible assumption) ?_; repeat (first | with_reducible assumption | with_reducible exact Below.refl _ _ | with_reducible refine Below.drew ?_ | with_reducible refine below_drewN ?_ _ | with_reducible refine bw_alloc ?_ _ | (with_reducible refine bw_set ?_ ?_ _; focus (dsimp only; omega)) | (with_reducible apply bw_behind; with_reducible assumption)))))); rintro e ws ⟨R, K, sa, na, ca, sb, nb, cb, rfl, hMs, hbs, hRw, hKw⟩; have hrs := below_reads hbs; have hhs := below_holds hbs; obtain ⟨ms, hss⟩ := below_grew hbs) | (go_at_call 12; (with_reducible refine (CcW.out _ ?_).mono ?_); (focus ((first | with_reducible assumption | (refine Tab.behind (by with_reducible assumption) ?_; repeat (first | with_reducible assumption | with_reducible exact Below.refl _ _ | with_reducible refine Below.drew ?_ | with_reducible refine below_drewN ?_ _ | with_reducible refine bw_alloc ?_ _ | (with_reducible refine bw_set ?_ ?_ _; focus (dsimp only; omega)) | (with_reducible apply bw_behind; with_reducible assumption)))))); rintro e wv ⟨rfl, hbv⟩; have hrv := below_reads hbv; have hhv := below_holds hbv; obtain ⟨mv, hsv⟩ := below_grew hbv) | (go_at_call 11; (with_reducible refine (CcA.out _ K _ ?_).mono ?_); (focus (repeat (first | with_reducible assumption | with_reducible refine mw_dr _ ?_ | with_reducible refine mw_d1 ?_ | with_reducible refine mw_al _ ?_ | (with_reducible apply mw_be; with_reducible assumption)))); rintro e woa ⟨rfl, hMoa, hOoa⟩))
  have hKs := hMs.herek (by omega)
  have hRs := hMs.hereR
  have hfv : Below w.heap.size w wv := by
    repeat (first | with_reducible assumption | with_reducible exact Below.refl _ _ | with_reducible refine Below.drew ?_ | with_reducible refine below_drewN ?_ _ | with_reducible refine bw_alloc ?_ _ | (with_reducible refine bw_set ?_ ?_ _; focus (dsimp only; omega)) | (with_reducible apply bw_behind; with_reducible assumption))
  have hsw : ws.heap.size = w.heap.size + ms := hss
  have hvz : w.heap.size + ms + 1 < wv.heap.size := by rw [hsv]; simp [go_sem, *]; omega
  refine wp_abs (fun W => MemW W R K 8 M0 ∧ Below w.heap.size w W ∧ W.cell? ⟨w.heap.size + ms + 1, 0, none⟩ = some (.bool true) ∧ W.cell? ⟨w.heap.size + ms + 1, 1, none⟩ = some (.bool true) ∧ W.cell? ⟨w.heap.size + ms + 1, 2, none⟩ = some (.bool false) ∧ W.cell? ⟨w.heap.size + ms + 1, 3, none⟩ = some (.bool false) ∧ W.cell? ⟨w.heap.size + ms + 1, 4, none⟩ = some (.bool true) ∧ W.cell? ⟨w.heap.size + ms + 1, 5, none⟩ = some (.bool false) ∧ W.cell? ⟨w.heap.size + ms + 1, 6, none⟩ = some (.bool false) ∧ W.cell? ⟨w.heap.size + ms + 1, 7, none⟩ = some (.bool false) ∧ W.cell? ⟨w.heap.size + ms + 1, 8, none⟩ = some (.bool false) ∧ W.cell? ⟨w.heap.size + ms + 1, 9, none⟩ = some (.bool false) ∧ W.cell? ⟨w.heap.size + ms + 1, 10, none⟩ = some (.bool false) ∧ W.cell? ⟨w.heap.size + ms + 1, 11, none⟩ = some (.bool false) ∧ W.cell? ⟨w.heap.size + ms + 1, 12, none⟩ = some (.int .u64 5) ∧ W.frozen? ⟨w.heap.size + ms + 1, 12, none⟩ = false) ?_ ?_
  · refine ⟨?_, ?_, ?_, ?_, ?_, ?_, ?_, ?_, ?_, ?_, ?_, ?_, ?_, ?_, ?_, ?_⟩
    · exact hMoa
    · exact hfv.trans (hOoa.below hKw hfv.size)
    iterate 13 (refine hOoa.reads (by dsimp only; omega) (c_be hbv ?_); focus (simp [go_sem, *]))
    · refine fr_out hOoa (by omega) hvz ?_
      refine fr_be hbv (by simp [go_sem, *]) ?_
      simp [go_sem, *]
  rintro w1 ⟨hM1, hB1, c1_0, c1_1, c1_2, c1_3, c1_4, c1_5, c1_6, c1_7, c1_8, c1_9, c1_10, c1_11, c1_12, f1_0⟩
  have lE1 : w.heap.size + ms + 1 < w1.heap.size := World.block_lt_of_cell? w1 _ c1_0
  have lK1 := hM1.herek (by omega)
  have lR1 := hM1.hereR
  have hE1 : K < w.heap.size + ms + 1 ∧ R < w.heap.size + ms + 1 := ⟨by omega, by omega⟩
  have hE0 : w.heap.size ≤ w.heap.size + ms + 1 := by omega
  clear hMs hbs hrs hhs hss hbv hrv hhv hsv hMoa hOoa hKs hRs hfv hsw hvz
  generalize w.heap.size + ms + 1 = eb at *
  have hN1 := hB1.size
  have hOz : ∀ t, Own (w1.alloc (.cells Z0 t)) w1.heap.size 135 := fun t => o_new rfl (by omega)
  go_upto_region 6 with (first | ((refine wpList_store_row rfl 43 _ _ rfl (w1.heap.size) 135 _ rfl rfl ?_ ?_ infoUnit ?_ ?_); (focus (simp [hZ0s])); (focus (exact hOz _)); (focus (rw [Array.all_eq_true']; intro v hv; refine unitC_one 0 a false v ?_; rw [← hZl]; first | exact Array.mem_toList_iff.2 hv | exact Array.mem_def.1 hv | simpa using hv)); intro wu hru hbu hou hsu _))
  have hau : Below w1.heap.size w1 wu := (below_alloc (Below.refl _ _) (Nat.le_refl _) _).trans hbu
  refine wp_abs (fun W => MemW W R K 8 M0 ∧ UnitAt w1.heap.size (fun _ => []) 0 a false W ∧ Below w.heap.size w W ∧ W.cell? ⟨eb, 0, none⟩ = some (.bool true) ∧ W.cell? ⟨eb, 1, none⟩ = some (.bool true) ∧ W.cell? ⟨eb, 2, none⟩ = some (.bool false) ∧ W.cell? ⟨eb, 3, none⟩ = some (.bool false) ∧ W.cell? ⟨eb, 4, none⟩ = some (.bool true) ∧ W.cell? ⟨eb, 5, none⟩ = some (.bool false) ∧ W.cell? ⟨eb, 6, none⟩ = some (.bool false) ∧ W.cell? ⟨eb, 7, none⟩ = some (.bool false) ∧ W.cell? ⟨eb, 8, none⟩ = some (.bool false) ∧ W.cell? ⟨eb, 9, none⟩ = some (.bool false) ∧ W.cell? ⟨eb, 10, none⟩ = some (.bool false) ∧ W.cell? ⟨eb, 11, none⟩ = some (.bool false) ∧ W.cell? ⟨eb, 12, none⟩ = some (.int .u64 5) ∧ W.frozen? ⟨eb, 12, none⟩ = false) ?_ ?_
  · rw [hZl] at hru
    refine ⟨?_, ?_, ?_, ?_, ?_, ?_, ?_, ?_, ?_, ?_, ?_, ?_, ?_, ?_, ?_, ?_, ?_⟩
    · exact mw_be hau hM1
    · exact unit_of_row hru hou
    · exact hB1.trans (hau.mono hN1)
    iterate 13 (refine c_be hau ?_; focus (with_reducible assumption))
    · exact fr_be hau lE1 f1_0
  rintro w2 ⟨hM2, hU2, hB2, c2_0, c2_1, c2_2, c2_3, c2_4, c2_5, c2_6, c2_7, c2_8, c2_9, c2_10, c2_11, c2_12, f2_0⟩
  have hlo_eb : eb < w1.heap.size ∧ K < eb ∧ R < eb := ⟨lE1, hE1.1, hE1.2⟩
  clear hru hbu hou hsu hau hM1 hB1 c1_0 c1_1 c1_2 c1_3 c1_4 c1_5 c1_6 c1_7 c1_8 c1_9 c1_10 c1_11 c1_12 f1_0 lE1 lK1 lR1 hE1 hOz
  generalize w1.heap.size = N at *
  have nNK := un_nek hU2 hM2 (by omega)
  have nNR := un_ner hU2 hM2
  have hT2 := hT.behind hB2
  have hN2 := hU2.here
  have hK2 := hM2.herek (by omega)
  have hR2 := hM2.hereR
  have lN2 : ltB N w2.heap.size = true := decide_eq_true hN2
  have lt2_eb : eb < w2.heap.size := World.block_lt_of_cell? w2 _ c2_0
  have lb2_eb : ltB eb w2.heap.size = true := decide_eq_true lt2_eb
  go_upto_region 7 with (go_at_call 7; (with_reducible refine (CcT1.out _ _ K _ ?_ ?_ ?_).mono ?_); (focus ((first | with_reducible assumption | (refine Tab.behind (by with_reducible assumption) ?_; repeat (first | with_reducible assumption | with_reducible exact Below.refl _ _ | with_reducible refine Below.drew ?_ | with_reducible refine below_drewN ?_ _ | with_reducible refine bw_alloc ?_ _ | (with_reducible refine bw_set ?_ ?_ _; focus (dsimp only; omega)) | (with_reducible apply bw_behind; with_reducible assumption)))))); (focus (repeat (first | with_reducible assumption | with_reducible refine mw_dr _ ?_ | with_reducible refine mw_d1 ?_ | with_reducible refine mw_al _ ?_ | (with_reducible apply mw_be; with_reducible assumption)))); (focus (repeat (first | with_reducible assumption | with_reducible refine un_dr _ ?_ | with_reducible refine un_d1 ?_ | with_reducible refine un_al _ ?_ | (with_reducible refine un_set ?_ ?_; focus (dsimp only; omega)) | (with_reducible apply un_be; with_reducible assumption) | (with_reducible refine un_sc _ _ ?_ ?_; focus (dsimp only; omega))))); rintro e wt ⟨rfl, hMt, hUt, hXt⟩)
  have hBt : Below w.heap.size w wt := hB2.trans (hXt.below (by omega) (by omega) hB2.size)
  have hTt := hT.behind hBt
  have hzt := hXt.size
  refine wp_abs (fun W => MemW W R K 8 M1 ∧ UnitAt N L1 0 a false W ∧ Below w.heap.size w W ∧ W.cell? ⟨eb, 0, none⟩ = some (.bool true) ∧ W.cell? ⟨eb, 1, none⟩ = some (.bool true) ∧ W.cell? ⟨eb, 2, none⟩ = some (.bool false) ∧ W.cell? ⟨eb, 3, none⟩ = some (.bool false) ∧ W.cell? ⟨eb, 4, none⟩ = some (.bool true) ∧ W.cell? ⟨eb, 5, none⟩ = some (.bool false) ∧ W.cell? ⟨eb, 6, none⟩ = some (.bool false) ∧ W.cell? ⟨eb, 7, none⟩ = some (.bool false) ∧ W.cell? ⟨eb, 8, none⟩ = some (.bool false) ∧ W.cell? ⟨eb, 9, none⟩ = some (.bool false) ∧ W.cell? ⟨eb, 10, none⟩ = some (.bool false) ∧ W.cell? ⟨eb, 11, none⟩ = some (.bool false) ∧ W.cell? ⟨eb, 12, none⟩ = some (.int .u64 5) ∧ W.cell? ⟨wt.heap.size, 0, none⟩ = some (.int .u64 20480) ∧ W.frozen? ⟨eb, 12, none⟩ = false) ?_ ?_
  · refine ⟨?_, ?_, ?_, ?_, ?_, ?_, ?_, ?_, ?_, ?_, ?_, ?_, ?_, ?_, ?_, ?_, ?_, ?_⟩
    · repeat (first | with_reducible assumption | with_reducible refine mw_dr _ ?_ | with_reducible refine mw_d1 ?_ | with_reducible refine mw_al _ ?_ | (with_reducible apply mw_be; with_reducible assumption))
    · repeat (first | with_reducible assumption | with_reducible refine un_dr _ ?_ | with_reducible refine un_d1 ?_ | with_reducible refine un_al _ ?_ | (with_reducible refine un_set ?_ ?_; focus (dsimp only; omega)) | (with_reducible apply un_be; with_reducible assumption) | (with_reducible refine un_sc _ _ ?_ ?_; focus (dsimp only; omega)))
    · repeat (first | with_reducible assumption | with_reducible exact Below.refl _ _ | with_reducible refine Below.drew ?_ | with_reducible refine below_drewN ?_ _ | with_reducible refine bw_alloc ?_ _ | (with_reducible refine bw_set ?_ ?_ _; focus (dsimp only; omega)) | (with_reducible apply bw_behind; with_reducible assumption))
    · refine c_al _ (hXt.reads (by dsimp only; omega) (by dsimp only; omega) c2_0)
    · refine c_al _ (hXt.reads (by dsimp only; omega) (by dsimp only; omega) c2_1)
    · refine c_al _ (hXt.reads (by dsimp only; omega) (by dsimp only; omega) c2_2)
    · refine c_al _ (hXt.reads (by dsimp only; omega) (by dsimp only; omega) c2_3)
    · refine c_al _ (hXt.reads (by dsimp only; omega) (by dsimp only; omega) c2_4)
    · refine c_al _ (hXt.reads (by dsimp only; omega) (by dsimp only; omega) c2_5)
    · refine c_al _ (hXt.reads (by dsimp only; omega) (by dsimp only; omega) c2_6)
    · refine c_al _ (hXt.reads (by dsimp only; omega) (by dsimp only; omega) c2_7)
    · refine c_al _ (hXt.reads (by dsimp only; omega) (by dsimp only; omega) c2_8)
    · refine c_al _ (hXt.reads (by dsimp only; omega) (by dsimp only; omega) c2_9)
    · refine c_al _ (hXt.reads (by dsimp only; omega) (by dsimp only; omega) c2_10)
    · refine c_al _ (hXt.reads (by dsimp only; omega) (by dsimp only; omega) c2_11)
    · refine c_al _ (hXt.reads (by dsimp only; omega) (by dsimp only; omega) c2_12)
    · simp [go_sem]
    · exact fr_al (fr_out2 hXt (by omega) (by omega) lt2_eb f2_0)
  rintro w3 ⟨hM3, hU3, hB3, c3_0, c3_1, c3_2, c3_3, c3_4, c3_5, c3_6, c3_7, c3_8, c3_9, c3_10, c3_11, c3_12, c3_13, f3_0⟩
  have hlo_bx : N < wt.heap.size ∧ K < wt.heap.size ∧ R < wt.heap.size := ⟨by omega, by omega, by omega⟩
  clear hM2 hU2 hB2 c2_0 c2_1 c2_2 c2_3 c2_4 c2_5 c2_6 c2_7 c2_8 c2_9 c2_10 c2_11 c2_12 f2_0 hT2 hN2 hK2 hR2 lN2 lt2_eb lb2_eb hMt hUt hXt hBt hTt hzt
  generalize wt.heap.size = bx at *
  have hT3 := hT.behind hB3
  have hN3 := hU3.here
  have hK3 := hM3.herek (by omega)
  have hR3 := hM3.hereR
  have lN3 : ltB N w3.heap.size = true := decide_eq_true hN3
  have lt3_eb : eb < w3.heap.size := World.block_lt_of_cell? w3 _ c3_0
  have lb3_eb : ltB eb w3.heap.size = true := decide_eq_true lt3_eb
  have lt3_bx : bx < w3.heap.size := World.block_lt_of_cell? w3 _ c3_13
  have lb3_bx : ltB bx w3.heap.size = true := decide_eq_true lt3_bx
  go_upto_region 8 with fail
  refine wp_abs (fun W => MemW W R K 8 M1 ∧ UnitAt N L1 0 a false W ∧ Below w.heap.size w W ∧ W.cell? ⟨eb, 0, none⟩ = some (.bool true) ∧ W.cell? ⟨eb, 1, none⟩ = some (.bool true) ∧ W.cell? ⟨eb, 2, none⟩ = some (.bool false) ∧ W.cell? ⟨eb, 3, none⟩ = some (.bool false) ∧ W.cell? ⟨eb, 4, none⟩ = some (.bool true) ∧ W.cell? ⟨eb, 5, none⟩ = some (.bool false) ∧ W.cell? ⟨eb, 6, none⟩ = some (.bool false) ∧ W.cell? ⟨eb, 7, none⟩ = some (.bool false) ∧ W.cell? ⟨eb, 8, none⟩ = some (.bool false) ∧ W.cell? ⟨eb, 9, none⟩ = some (.bool false) ∧ W.cell? ⟨eb, 10, none⟩ = some (.bool false) ∧ W.cell? ⟨eb, 11, none⟩ = some (.bool false) ∧ W.cell? ⟨eb, 12, none⟩ = some (.int .u64 6) ∧ W.cell? ⟨bx, 0, none⟩ = some (.int .u64 20480) ∧ W.frozen? ⟨eb, 12, none⟩ = false) ?_ ?_
  · refine ⟨?_, ?_, ?_, ?_, ?_, ?_, ?_, ?_, ?_, ?_, ?_, ?_, ?_, ?_, ?_, ?_, ?_, ?_⟩
    · exact mw_set (by dsimp only; omega) (by dsimp only; omega) hM3
    · exact un_set (by dsimp only; omega) hU3
    · exact bw_set (by dsimp only; omega) hB3 _
    · exact (World.cell?_setCell_other _ _ _ _ (fun x => by have := congrArg Addr.off x; simp at this)).trans c3_0
    · exact (World.cell?_setCell_other _ _ _ _ (fun x => by have := congrArg Addr.off x; simp at this)).trans c3_1
    · exact (World.cell?_setCell_other _ _ _ _ (fun x => by have := congrArg Addr.off x; simp at this)).trans c3_2
    · exact (World.cell?_setCell_other _ _ _ _ (fun x => by have := congrArg Addr.off x; simp at this)).trans c3_3
    · exact (World.cell?_setCell_other _ _ _ _ (fun x => by have := congrArg Addr.off x; simp at this)).trans c3_4
    · exact (World.cell?_setCell_other _ _ _ _ (fun x => by have := congrArg Addr.off x; simp at this)).trans c3_5
    · exact (World.cell?_setCell_other _ _ _ _ (fun x => by have := congrArg Addr.off x; simp at this)).trans c3_6
    · exact (World.cell?_setCell_other _ _ _ _ (fun x => by have := congrArg Addr.off x; simp at this)).trans c3_7
    · exact (World.cell?_setCell_other _ _ _ _ (fun x => by have := congrArg Addr.off x; simp at this)).trans c3_8
    · exact (World.cell?_setCell_other _ _ _ _ (fun x => by have := congrArg Addr.off x; simp at this)).trans c3_9
    · exact (World.cell?_setCell_other _ _ _ _ (fun x => by have := congrArg Addr.off x; simp at this)).trans c3_10
    · exact (World.cell?_setCell_other _ _ _ _ (fun x => by have := congrArg Addr.off x; simp at this)).trans c3_11
    · exact World.cell?_setCell_same _ _ _ c3_12
    · exact c_set (by dsimp only; omega) c3_13
    · rw [World.frozen?_setCell]; exact f3_0
  rintro w4 ⟨hM4, hU4, hB4, c4_0, c4_1, c4_2, c4_3, c4_4, c4_5, c4_6, c4_7, c4_8, c4_9, c4_10, c4_11, c4_12, c4_13, f4_0⟩
  clear hM3 hU3 hB3 c3_0 c3_1 c3_2 c3_3 c3_4 c3_5 c3_6 c3_7 c3_8 c3_9 c3_10 c3_11 c3_12 c3_13 f3_0 hT3 hN3 hK3 hR3 lN3 lt3_eb lb3_eb lt3_bx lb3_bx 
  have hT4 := hT.behind hB4
  have hN4 := hU4.here
  have hK4 := hM4.herek (by omega)
  have hR4 := hM4.hereR
  have lN4 : ltB N w4.heap.size = true := decide_eq_true hN4
  have lt4_eb : eb < w4.heap.size := World.block_lt_of_cell? w4 _ c4_0
  have lb4_eb : ltB eb w4.heap.size = true := decide_eq_true lt4_eb
  have lt4_bx : bx < w4.heap.size := World.block_lt_of_cell? w4 _ c4_13
  have lb4_bx : ltB bx w4.heap.size = true := decide_eq_true lt4_bx
  go_upto_region 9 with (first | (go_at_call 11; (with_reducible refine (CcB.out _ K _ ?_).mono ?_); (focus (repeat (first | with_reducible assumption | with_reducible refine mw_dr _ ?_ | with_reducible refine mw_d1 ?_ | with_reducible refine mw_al _ ?_ | (with_reducible apply mw_be; with_reducible assumption)))); rintro e wo ⟨rfl, hMo, hOo⟩) | (go_at_call 12; (with_reducible refine (CcX.out _ ?_).mono ?_); (focus ((first | with_reducible assumption | (refine Tab.behind (by with_reducible assumption) ?_; repeat (first | with_reducible assumption | with_reducible exact Below.refl _ _ | with_reducible refine Below.drew ?_ | with_reducible refine below_drewN ?_ _ | with_reducible refine bw_alloc ?_ _ | (with_reducible refine bw_set ?_ ?_ _; focus (dsimp only; omega)) | (with_reducible apply bw_behind; with_reducible assumption)))))); rintro e wv ⟨rfl, hbv⟩; have hrv := below_reads hbv; have hhv := below_holds hbv; obtain ⟨mv, hsv⟩ := below_grew hbv))
  have hBv : Below w4.heap.size w4 wv := by
    repeat (first | with_reducible assumption | with_reducible exact Below.refl _ _ | with_reducible refine Below.drew ?_ | with_reducible refine below_drewN ?_ _ | with_reducible refine bw_alloc ?_ _ | (with_reducible refine bw_set ?_ ?_ _; focus (dsimp only; omega)) | (with_reducible apply bw_behind; with_reducible assumption))
  have hUo := un_out hOo nNK (un_be hBv hU4)
  have hBw : Below w.heap.size w wo := Below.trans (hB4.trans (hBv.mono hB4.size)) (hOo.below (by omega) (by have := hBv.size; have := hB4.size; omega))
  refine wp_abs (fun W => MemW W R K 8 M2 ∧ UnitAt N L1 0 a false W ∧ Below w.heap.size w W ∧ W.cell? ⟨eb, 0, none⟩ = some (.bool true) ∧ W.cell? ⟨eb, 1, none⟩ = some (.bool true) ∧ W.cell? ⟨eb, 2, none⟩ = some (.bool false) ∧ W.cell? ⟨eb, 3, none⟩ = some (.bool false) ∧ W.cell? ⟨eb, 4, none⟩ = some (.bool true) ∧ W.cell? ⟨eb, 5, none⟩ = some (.bool false) ∧ W.cell? ⟨eb, 6, none⟩ = some (.bool false) ∧ W.cell? ⟨eb, 7, none⟩ = some (.bool false) ∧ W.cell? ⟨eb, 8, none⟩ = some (.bool false) ∧ W.cell? ⟨eb, 9, none⟩ = some (.bool false) ∧ W.cell? ⟨eb, 10, none⟩ = some (.bool false) ∧ W.cell? ⟨eb, 11, none⟩ = some (.bool false) ∧ W.cell? ⟨eb, 12, none⟩ = some (.int .u64 6) ∧ W.cell? ⟨bx, 0, none⟩ = some (.int .u64 20480) ∧ W.frozen? ⟨eb, 12, none⟩ = false) ?_ ?_
  · refine ⟨?_, ?_, ?_, ?_, ?_, ?_, ?_, ?_, ?_, ?_, ?_, ?_, ?_, ?_, ?_, ?_, ?_, ?_⟩
    · repeat (first | with_reducible assumption | with_reducible refine mw_dr _ ?_ | with_reducible refine mw_d1 ?_ | with_reducible refine mw_al _ ?_ | (with_reducible apply mw_be; with_reducible assumption))
    · repeat (first | with_reducible assumption | with_reducible refine un_dr _ ?_ | with_reducible refine un_d1 ?_ | with_reducible refine un_al _ ?_ | (with_reducible refine un_set ?_ ?_; focus (dsimp only; omega)) | (with_reducible apply un_be; with_reducible assumption) | (with_reducible refine un_sc _ _ ?_ ?_; focus (dsimp only; omega)))
    · repeat (first | with_reducible assumption | with_reducible exact Below.refl _ _ | with_reducible refine Below.drew ?_ | with_reducible refine below_drewN ?_ _ | with_reducible refine bw_alloc ?_ _ | (with_reducible refine bw_set ?_ ?_ _; focus (dsimp only; omega)) | (with_reducible apply bw_behind; with_reducible assumption))
    · exact hOo.reads (by dsimp only; omega) (c_be hBv c4_0)
    · exact hOo.reads (by dsimp only; omega) (c_be hBv c4_1)
    · exact hOo.reads (by dsimp only; omega) (c_be hBv c4_2)
    · exact hOo.reads (by dsimp only; omega) (c_be hBv c4_3)
    · exact hOo.reads (by dsimp only; omega) (c_be hBv c4_4)
    · exact hOo.reads (by dsimp only; omega) (c_be hBv c4_5)
    · exact hOo.reads (by dsimp only; omega) (c_be hBv c4_6)
    · exact hOo.reads (by dsimp only; omega) (c_be hBv c4_7)
    · exact hOo.reads (by dsimp only; omega) (c_be hBv c4_8)
    · exact hOo.reads (by dsimp only; omega) (c_be hBv c4_9)
    · exact hOo.reads (by dsimp only; omega) (c_be hBv c4_10)
    · exact hOo.reads (by dsimp only; omega) (c_be hBv c4_11)
    · exact hOo.reads (by dsimp only; omega) (c_be hBv c4_12)
    · exact hOo.reads (by dsimp only; omega) (c_be hBv c4_13)
    · exact fr_out hOo (by omega) (by have := hBv.size; omega) (fr_be hBv lt4_eb f4_0)
  rintro w5 ⟨hM5, hU5, hB5, c5_0, c5_1, c5_2, c5_3, c5_4, c5_5, c5_6, c5_7, c5_8, c5_9, c5_10, c5_11, c5_12, c5_13, f5_0⟩
  clear hM4 hU4 hB4 c4_0 c4_1 c4_2 c4_3 c4_4 c4_5 c4_6 c4_7 c4_8 c4_9 c4_10 c4_11 c4_12 c4_13 f4_0 hT4 hN4 hK4 hR4 lN4 lt4_eb lb4_eb lt4_bx lb4_bx hMo hOo hUo hBw hBv hrv hhv hsv hbv
  have hT5 := hT.behind hB5
  have hN5 := hU5.here
  have hK5 := hM5.herek (by omega)
  have hR5 := hM5.hereR
  have lN5 : ltB N w5.heap.size = true := decide_eq_true hN5
  have lt5_eb : eb < w5.heap.size := World.block_lt_of_cell? w5 _ c5_0
  have lb5_eb : ltB eb w5.heap.size = true := decide_eq_true lt5_eb
  have lt5_bx : bx < w5.heap.size := World.block_lt_of_cell? w5 _ c5_13
  have lb5_bx : ltB bx w5.heap.size = true := decide_eq_true lt5_bx
  have ha5 := hU5.asid
  have hz5 := hU5.free 133 (by omega)
  go_upto_region 10 with fail
  refine wp_abs (fun W => MemW W R K 8 M2 ∧ UnitAt N L1 0 b false W ∧ Below w.heap.size w W ∧ W.cell? ⟨eb, 0, none⟩ = some (.bool true) ∧ W.cell? ⟨eb, 1, none⟩ = some (.bool true) ∧ W.cell? ⟨eb, 2, none⟩ = some (.bool false) ∧ W.cell? ⟨eb, 3, none⟩ = some (.bool false) ∧ W.cell? ⟨eb, 4, none⟩ = some (.bool true) ∧ W.cell? ⟨eb, 5, none⟩ = some (.bool false) ∧ W.cell? ⟨eb, 6, none⟩ = some (.bool false) ∧ W.cell? ⟨eb, 7, none⟩ = some (.bool false) ∧ W.cell? ⟨eb, 8, none⟩ = some (.bool false) ∧ W.cell? ⟨eb, 9, none⟩ = some (.bool false) ∧ W.cell? ⟨eb, 10, none⟩ = some (.bool false) ∧ W.cell? ⟨eb, 11, none⟩ = some (.bool false) ∧ W.cell? ⟨eb, 12, none⟩ = some (.int .u64 6) ∧ W.cell? ⟨bx, 0, none⟩ = some (.int .u64 20480) ∧ W.frozen? ⟨eb, 12, none⟩ = false) ?_ ?_
  · refine ⟨?_, ?_, ?_, ?_, ?_, ?_, ?_, ?_, ?_, ?_, ?_, ?_, ?_, ?_, ?_, ?_, ?_, ?_⟩
    · exact mw_set (by dsimp only; omega) (by dsimp only; omega) hM5
    · exact un_asid b hU5
    · exact bw_set (by dsimp only; omega) hB5 _
    · exact c_set (by dsimp only; omega) c5_0
    · exact c_set (by dsimp only; omega) c5_1
    · exact c_set (by dsimp only; omega) c5_2
    · exact c_set (by dsimp only; omega) c5_3
    · exact c_set (by dsimp only; omega) c5_4
    · exact c_set (by dsimp only; omega) c5_5
    · exact c_set (by dsimp only; omega) c5_6
    · exact c_set (by dsimp only; omega) c5_7
    · exact c_set (by dsimp only; omega) c5_8
    · exact c_set (by dsimp only; omega) c5_9
    · exact c_set (by dsimp only; omega) c5_10
    · exact c_set (by dsimp only; omega) c5_11
    · exact c_set (by dsimp only; omega) c5_12
    · exact c_set (by dsimp only; omega) c5_13
    · rw [World.frozen?_setCell]; exact f5_0
  rintro w6 ⟨hM6, hU6, hB6, c6_0, c6_1, c6_2, c6_3, c6_4, c6_5, c6_6, c6_7, c6_8, c6_9, c6_10, c6_11, c6_12, c6_13, f6_0⟩
  clear hM5 hU5 hB5 c5_0 c5_1 c5_2 c5_3 c5_4 c5_5 c5_6 c5_7 c5_8 c5_9 c5_10 c5_11 c5_12 c5_13 f5_0 hT5 hN5 hK5 hR5 lN5 lt5_eb lb5_eb lt5_bx lb5_bx ha5 hz5
  have hT6 := hT.behind hB6
  have hN6 := hU6.here
  have hK6 := hM6.herek (by omega)
  have hR6 := hM6.hereR
  have lN6 : ltB N w6.heap.size = true := decide_eq_true hN6
  have lt6_eb : eb < w6.heap.size := World.block_lt_of_cell? w6 _ c6_0
  have lb6_eb : ltB eb w6.heap.size = true := decide_eq_true lt6_eb
  have lt6_bx : bx < w6.heap.size := World.block_lt_of_cell? w6 _ c6_13
  have lb6_bx : ltB bx w6.heap.size = true := decide_eq_true lt6_bx
  go_upto_region 11 with (go_at_call 7; (with_reducible refine (CcT2.out _ _ K _ ?_ ?_ ?_).mono ?_); (focus ((first | with_reducible assumption | (refine Tab.behind (by with_reducible assumption) ?_; repeat (first | with_reducible assumption | with_reducible exact Below.refl _ _ | with_reducible refine Below.drew ?_ | with_reducible refine below_drewN ?_ _ | with_reducible refine bw_alloc ?_ _ | (with_reducible refine bw_set ?_ ?_ _; focus (dsimp only; omega)) | (with_reducible apply bw_behind; with_reducible assumption)))))); (focus (repeat (first | with_reducible assumption | with_reducible refine mw_dr _ ?_ | with_reducible refine mw_d1 ?_ | with_reducible refine mw_al _ ?_ | (with_reducible apply mw_be; with_reducible assumption)))); (focus (repeat (first | with_reducible assumption | with_reducible refine un_dr _ ?_ | with_reducible refine un_d1 ?_ | with_reducible refine un_al _ ?_ | (with_reducible refine un_set ?_ ?_; focus (dsimp only; omega)) | (with_reducible apply un_be; with_reducible assumption) | (with_reducible refine un_sc _ _ ?_ ?_; focus (dsimp only; omega))))); rintro e wt ⟨rfl, hMt, hUt, hXt⟩)
  have hBt : Below w.heap.size w wt := hB6.trans (hXt.below (by omega) (by omega) hB6.size)
  have hTt := hT.behind hBt
  have hzt := hXt.size
  refine wp_abs (fun W => MemW W R K 8 M3 ∧ UnitAt N L2 0 b false W ∧ Below w.heap.size w W ∧ W.cell? ⟨bx, 0, none⟩ = some (.int .u64 20480) ∧ W.cell? ⟨wt.heap.size, 0, none⟩ = some (.int .u64 y)) ?_ ?_
  · refine ⟨?_, ?_, ?_, ?_, ?_⟩
    · repeat (first | with_reducible assumption | with_reducible refine mw_dr _ ?_ | with_reducible refine mw_d1 ?_ | with_reducible refine mw_al _ ?_ | (with_reducible apply mw_be; with_reducible assumption))
    · repeat (first | with_reducible assumption | with_reducible refine un_dr _ ?_ | with_reducible refine un_d1 ?_ | with_reducible refine un_al _ ?_ | (with_reducible refine un_set ?_ ?_; focus (dsimp only; omega)) | (with_reducible apply un_be; with_reducible assumption) | (with_reducible refine un_sc _ _ ?_ ?_; focus (dsimp only; omega)))
    · repeat (first | with_reducible assumption | with_reducible exact Below.refl _ _ | with_reducible refine Below.drew ?_ | with_reducible refine below_drewN ?_ _ | with_reducible refine bw_alloc ?_ _ | (with_reducible refine bw_set ?_ ?_ _; focus (dsimp only; omega)) | (with_reducible apply bw_behind; with_reducible assumption))
    · refine c_al _ (hXt.reads (by dsimp only; omega) (by dsimp only; omega) c6_13)
    · simp [go_sem]
  rintro w7 ⟨hM7, hU7, hB7, c7_0, c7_1⟩
  have hlo_bv : N < wt.heap.size ∧ K < wt.heap.size ∧ R < wt.heap.size := ⟨by omega, by omega, by omega⟩
  clear hM6 hU6 hB6 c6_0 c6_1 c6_2 c6_3 c6_4 c6_5 c6_6 c6_7 c6_8 c6_9 c6_10 c6_11 c6_12 c6_13 f6_0 hT6 hN6 hK6 hR6 lN6 lt6_eb lb6_eb lt6_bx lb6_bx hMt hUt hXt hBt hTt hzt
  generalize wt.heap.size = bv at *
  have hT7 := hT.behind hB7
  have hN7 := hU7.here
  have hK7 := hM7.herek (by omega)
  have hR7 := hM7.hereR
  have lN7 : ltB N w7.heap.size = true := decide_eq_true hN7
  have lt7_bx : bx < w7.heap.size := World.block_lt_of_cell? w7 _ c7_0
  have lb7_bx : ltB bx w7.heap.size = true := decide_eq_true lt7_bx
  have lt7_bv : bv < w7.heap.size := World.block_lt_of_cell? w7 _ c7_1
  have lb7_bv : ltB bv w7.heap.size = true := decide_eq_true lt7_bv
  go_upto_region 14 with (go_at_call 17; (with_reducible refine (CcF.out _ _ ?_).mono ?_); (focus (repeat (first | exact hU7.tlb | with_reducible refine tm_dr _ ?_ | with_reducible refine tm_d1 ?_))); rintro e wf ⟨rfl, hTf, hOf⟩)
  have hUf := un_tlb hOf hTf hU7
  have hMf := mw_o1 hOf nNK nNR (by omega) hM7
  have hBf : Below w.heap.size w wf := hB7.trans (hOf.below (by omega) hB7.size)
  refine wp_abs (fun W => MemW W R K 8 M3 ∧ UnitAt N L3 0 b false W ∧ Below w.heap.size w W ∧ W.cell? ⟨bx, 0, none⟩ = some (.int .u64 20480) ∧ W.cell? ⟨bv, 0, none⟩ = some (.int .u64 y)) ?_ ?_
  · refine ⟨?_, ?_, ?_, ?_, ?_⟩
    · repeat (first | with_reducible assumption | with_reducible refine mw_dr _ ?_ | with_reducible refine mw_d1 ?_ | with_reducible refine mw_al _ ?_ | (with_reducible apply mw_be; with_reducible assumption))
    · repeat (first | with_reducible assumption | with_reducible refine un_dr _ ?_ | with_reducible refine un_d1 ?_ | with_reducible refine un_al _ ?_ | (with_reducible refine un_set ?_ ?_; focus (dsimp only; omega)) | (with_reducible apply un_be; with_reducible assumption) | (with_reducible refine un_sc _ _ ?_ ?_; focus (dsimp only; omega)))
    · repeat (first | with_reducible assumption | with_reducible exact Below.refl _ _ | with_reducible refine Below.drew ?_ | with_reducible refine below_drewN ?_ _ | with_reducible refine bw_alloc ?_ _ | (with_reducible refine bw_set ?_ ?_ _; focus (dsimp only; omega)) | (with_reducible apply bw_behind; with_reducible assumption))
    · exact hOf.reads (by dsimp only; omega) c7_0
    · exact hOf.reads (by dsimp only; omega) c7_1
  rintro w8 ⟨hM8, hU8, hB8, c8_0, c8_1⟩
  clear hM7 hU7 hB7 c7_0 c7_1 hT7 hN7 hK7 hR7 lN7 lt7_bx lb7_bx lt7_bv lb7_bv hUf hMf hBf hTf hOf
  have hT8 := hT.behind hB8
  have hN8 := hU8.here
  have hK8 := hM8.herek (by omega)
  have hR8 := hM8.hereR
  have lN8 : ltB N w8.heap.size = true := decide_eq_true hN8
  have lt8_bx : bx < w8.heap.size := World.block_lt_of_cell? w8 _ c8_0
  have lb8_bx : ltB bx w8.heap.size = true := decide_eq_true lt8_bx
  have lt8_bv : bv < w8.heap.size := World.block_lt_of_cell? w8 _ c8_1
  have lb8_bv : ltB bv w8.heap.size = true := decide_eq_true lt8_bv
  go_upto_region 15 with (go_at_call 7; (with_reducible refine (CcT3.out _ _ K _ ?_ ?_ ?_).mono ?_); (focus ((first | with_reducible assumption | (refine Tab.behind (by with_reducible assumption) ?_; repeat (first | with_reducible assumption | with_reducible exact Below.refl _ _ | with_reducible refine Below.drew ?_ | with_reducible refine below_drewN ?_ _ | with_reducible refine bw_alloc ?_ _ | (with_reducible refine bw_set ?_ ?_ _; focus (dsimp only; omega)) | (with_reducible apply bw_behind; with_reducible assumption)))))); (focus (repeat (first | with_reducible assumption | with_reducible refine mw_dr _ ?_ | with_reducible refine mw_d1 ?_ | with_reducible refine mw_al _ ?_ | (with_reducible apply mw_be; with_reducible assumption)))); (focus (repeat (first | with_reducible assumption | with_reducible refine un_dr _ ?_ | with_reducible refine un_d1 ?_ | with_reducible refine un_al _ ?_ | (with_reducible refine un_set ?_ ?_; focus (dsimp only; omega)) | (with_reducible apply un_be; with_reducible assumption) | (with_reducible refine un_sc _ _ ?_ ?_; focus (dsimp only; omega))))); rintro e wt ⟨rfl, hMt, hUt, hXt⟩)
  have hBt : Below w.heap.size w wt := hB8.trans (hXt.below (by omega) (by omega) hB8.size)
  have hTt := hT.behind hBt
  have hzt := hXt.size
  refine wp_abs (fun W => MemW W R K 8 M4 ∧ UnitAt N L4 0 b false W ∧ Below w.heap.size w W ∧ W.cell? ⟨wt.heap.size, 0, none⟩ = some (.int .u64 24576)) ?_ ?_
  · refine ⟨?_, ?_, ?_, ?_⟩
    · repeat (first | with_reducible assumption | with_reducible refine mw_dr _ ?_ | with_reducible refine mw_d1 ?_ | with_reducible refine mw_al _ ?_ | (with_reducible apply mw_be; with_reducible assumption))
    · repeat (first | with_reducible assumption | with_reducible refine un_dr _ ?_ | with_reducible refine un_d1 ?_ | with_reducible refine un_al _ ?_ | (with_reducible refine un_set ?_ ?_; focus (dsimp only; omega)) | (with_reducible apply un_be; with_reducible assumption) | (with_reducible refine un_sc _ _ ?_ ?_; focus (dsimp only; omega)))
    · repeat (first | with_reducible assumption | with_reducible exact Below.refl _ _ | with_reducible refine Below.drew ?_ | with_reducible refine below_drewN ?_ _ | with_reducible refine bw_alloc ?_ _ | (with_reducible refine bw_set ?_ ?_ _; focus (dsimp only; omega)) | (with_reducible apply bw_behind; with_reducible assumption))
    · simp [go_sem]
  rintro w9 ⟨hM9, hU9, hB9, c9_0⟩
  have hlo_bz : N < wt.heap.size ∧ K < wt.heap.size ∧ R < wt.heap.size := ⟨by omega, by omega, by omega⟩
  clear hM8 hU8 hB8 c8_0 c8_1 hT8 hN8 hK8 hR8 lN8 lt8_bx lb8_bx lt8_bv lb8_bv hMt hUt hXt hBt hTt hzt
  generalize wt.heap.size = bz at *
  have hT9 := hT.behind hB9
  have hN9 := hU9.here
  have hK9 := hM9.herek (by omega)
  have hR9 := hM9.hereR
  have lN9 : ltB N w9.heap.size = true := decide_eq_true hN9
  have lt9_bz : bz < w9.heap.size := World.block_lt_of_cell? w9 _ c9_0
  have lb9_bz : ltB bz w9.heap.size = true := decide_eq_true lt9_bz
  have ha9 := hU9.asid
  have hz9 := hU9.free 133 (by omega)
  go_upto_region 16 with fail
  refine wp_abs (fun W => MemW W R K 8 M4 ∧ UnitAt N L4 0 a false W ∧ Below w.heap.size w W ∧ W.cell? ⟨bz, 0, none⟩ = some (.int .u64 24576)) ?_ ?_
  · refine ⟨?_, ?_, ?_, ?_⟩
    · exact mw_set (by dsimp only; omega) (by dsimp only; omega) hM9
    · exact un_asid a hU9
    · exact bw_set (by dsimp only; omega) hB9 _
    · exact c_set (by dsimp only; omega) c9_0
  rintro w10 ⟨hM10, hU10, hB10, c10_0⟩
  clear hM9 hU9 hB9 c9_0 hT9 hN9 hK9 hR9 lN9 lt9_bz lb9_bz ha9 hz9
  have hT10 := hT.behind hB10
  have hN10 := hU10.here
  have hK10 := hM10.herek (by omega)
  have hR10 := hM10.hereR
  have lN10 : ltB N w10.heap.size = true := decide_eq_true hN10
  have lt10_bz : bz < w10.heap.size := World.block_lt_of_cell? w10 _ c10_0
  have lb10_bz : ltB bz w10.heap.size = true := decide_eq_true lt10_bz
  go_upto_region 17 with (go_at_call 7; (with_reducible refine (CcT4.out _ _ K _ ?_ ?_ ?_).mono ?_); (focus ((first | with_reducible assumption | (refine Tab.behind (by with_reducible assumption) ?_; repeat (first | with_reducible assumption | with_reducible exact Below.refl _ _ | with_reducible refine Below.drew ?_ | with_reducible refine below_drewN ?_ _ | with_reducible refine bw_alloc ?_ _ | (with_reducible refine bw_set ?_ ?_ _; focus (dsimp only; omega)) | (with_reducible apply bw_behind; with_reducible assumption)))))); (focus (repeat (first | with_reducible assumption | with_reducible refine mw_dr _ ?_ | with_reducible refine mw_d1 ?_ | with_reducible refine mw_al _ ?_ | (with_reducible apply mw_be; with_reducible assumption)))); (focus (repeat (first | with_reducible assumption | with_reducible refine un_dr _ ?_ | with_reducible refine un_d1 ?_ | with_reducible refine un_al _ ?_ | (with_reducible refine un_set ?_ ?_; focus (dsimp only; omega)) | (with_reducible apply un_be; with_reducible assumption) | (with_reducible refine un_sc _ _ ?_ ?_; focus (dsimp only; omega))))); rintro e wt ⟨rfl, hMt, hUt, hXt⟩)
  have hBt : Below w.heap.size w wt := hB10.trans (hXt.below (by omega) (by omega) hB10.size)
  have hTt := hT.behind hBt
  have hzt := hXt.size
  refine wp_abs (fun W => MemW W R K 8 M5 ∧ UnitAt N L5 0 a false W ∧ Below w.heap.size w W ∧ W.cell? ⟨bz, 0, none⟩ = some (.int .u64 24576) ∧ W.cell? ⟨wt.heap.size, 0, none⟩ = some (.int .u64 z)) ?_ ?_
  · refine ⟨?_, ?_, ?_, ?_, ?_⟩
    · repeat (first | with_reducible assumption | with_reducible refine mw_dr _ ?_ | with_reducible refine mw_d1 ?_ | with_reducible refine mw_al _ ?_ | (with_reducible apply mw_be; with_reducible assumption))
    · repeat (first | with_reducible assumption | with_reducible refine un_dr _ ?_ | with_reducible refine un_d1 ?_ | with_reducible refine un_al _ ?_ | (with_reducible refine un_set ?_ ?_; focus (dsimp only; omega)) | (with_reducible apply un_be; with_reducible assumption) | (with_reducible refine un_sc _ _ ?_ ?_; focus (dsimp only; omega)))
    · repeat (first | with_reducible assumption | with_reducible exact Below.refl _ _ | with_reducible refine Below.drew ?_ | with_reducible refine below_drewN ?_ _ | with_reducible refine bw_alloc ?_ _ | (with_reducible refine bw_set ?_ ?_ _; focus (dsimp only; omega)) | (with_reducible apply bw_behind; with_reducible assumption))
    · refine c_al _ (hXt.reads (by dsimp only; omega) (by dsimp only; omega) c10_0)
    · simp [go_sem]
  rintro w11 ⟨hM11, hU11, hB11, c11_0, c11_1⟩
  have hlo_bw : N < wt.heap.size ∧ K < wt.heap.size ∧ R < wt.heap.size := ⟨by omega, by omega, by omega⟩
  clear hM10 hU10 hB10 c10_0 hT10 hN10 hK10 hR10 lN10 lt10_bz lb10_bz hMt hUt hXt hBt hTt hzt
  generalize wt.heap.size = bw at *
  have hT11 := hT.behind hB11
  have hN11 := hU11.here
  have hK11 := hM11.herek (by omega)
  have hR11 := hM11.hereR
  have lN11 : ltB N w11.heap.size = true := decide_eq_true hN11
  have lt11_bz : bz < w11.heap.size := World.block_lt_of_cell? w11 _ c11_0
  have lb11_bz : ltB bz w11.heap.size = true := decide_eq_true lt11_bz
  have lt11_bw : bw < w11.heap.size := World.block_lt_of_cell? w11 _ c11_1
  have lb11_bw : ltB bw w11.heap.size = true := decide_eq_true lt11_bw
  go_wp2_with (go_at_call 25; (with_reducible refine (CcO.out _ ?_).mono ?_); (focus ((first | with_reducible assumption | (refine Tab.behind (by with_reducible assumption) ?_; repeat (first | with_reducible assumption | with_reducible exact Below.refl _ _ | with_reducible refine Below.drew ?_ | with_reducible refine below_drewN ?_ _ | with_reducible refine bw_alloc ?_ _ | (with_reducible refine bw_set ?_ ?_ _; focus (dsimp only; omega)) | (with_reducible apply bw_behind; with_reducible assumption)))))); rintro e wz ⟨rfl, hbz⟩; have hrz := below_reads hbz; have hhz := below_holds hbz; obtain ⟨mz, hsz⟩ := below_grew hbz)
  refine bodyPost_ret (v := .bool true) (by simp (maxDischargeDepth := 4) [results, Tryd.results5, go_sem, *]) rfl ?_
  refine ⟨rfl, ?_⟩
  repeat (first | with_reducible assumption | with_reducible exact Below.refl _ _ | with_reducible refine Below.drew ?_ | with_reducible refine below_drewN ?_ _ | with_reducible refine bw_alloc ?_ _ | (with_reducible refine bw_set ?_ ?_ _; focus (dsimp only; omega)) | (with_reducible apply bw_behind; with_reducible assumption))
end Go.Proofs.YtkajndonefkegaaDoor.MmuAsids
