/-
  MmuMarks' walk, over letters.
-/
import Derived.Test.YtkajndonefkegaaDoorGOne
import Derived.Test.YtkajndonefkegaaDoorPteLaid
namespace Go.Proofs.YtkajndonefkegaaDoor.MmuMarks
open Go.RowKit Words FieldMath PteMath

theorem fr_al {W : World} {ob : Obj} {b k : Nat} (h : b < W.heap.size ∧ W.frozen? ⟨b, k, none⟩ = false) : (W.alloc ob).frozen? ⟨b, k, none⟩ = false := by
  rw [World.frozen?_alloc_old W ob ⟨b, k, none⟩ (by show b ≠ _; omega)]
  exact h.2
theorem fr_out2 {N K b k : Nat} {a c : World} (h : Out2 N K a c) (h1 : b ≠ N) (h2 : b ≠ K) (hl : b < a.heap.size) (hf : a.frozen? ⟨b, k, none⟩ = false) : b < c.heap.size ∧ c.frozen? ⟨b, k, none⟩ = false :=
  ⟨Nat.lt_of_lt_of_le hl h.size, (World.frozen?_of_block (h.block b hl h1 h2)).trans hf⟩
theorem fr_out {K o b k : Nat} {a c : World} (h : Out K o a c) (h1 : b ≠ K) (hl : b < a.heap.size) (hf : a.frozen? ⟨b, k, none⟩ = false) : c.frozen? ⟨b, k, none⟩ = false :=
  (World.frozen?_of_block (h.block b hl h1)).trans hf
theorem fr_out1 {N b k : Nat} {a c : World} (h : Out1 N a c) (h1 : b ≠ N) (hl : b < a.heap.size) (hf : a.frozen? ⟨b, k, none⟩ = false) : c.frozen? ⟨b, k, none⟩ = false :=
  (World.frozen?_of_block (h.block b hl h1)).trans hf
theorem fr_be {b k : Nat} {a c : World} (h : Below a.heap.size a c) (hl : b < a.heap.size) (hf : a.frozen? ⟨b, k, none⟩ = false) : c.frozen? ⟨b, k, none⟩ = false :=
  (h.frozen (p := ⟨b, k, none⟩) hl).trans hf

set_option maxRecDepth 100000 in
set_option maxHeartbeats 32000000 in
theorem walk_let (o : Nat) (b0 b1 b2 b3 b4 b5 b6 b7 b8 b9 b10 b11 t : Bool) (F FA F2 V k0 k1 : Int) (Ms : Nat → Nat → BitVec 64) (Mw : Bool → Bool → Bool → Nat → Nat → BitVec 64) (Vw : Bool → Bool → Bool → Int) (Pl : Bool → Bool → Bool → (Nat → List Ln) → Prop) (cS : ∀ W, Tab W → Calls Tryd.prog 6 #[] W (fun e W' => ∃ R K sa na ca sb nb cb, e = .returned (.tuple #[.pointer (some ⟨R, 0, none⟩), .agg #[.int .i64 8, .slice sa na ca, .slice sb nb cb, .slice none 0 0]]) ∧ MemW W' R K 8 Ms ∧ Below W.heap.size W W' ∧ W.heap.size ≤ R ∧ W.heap.size ≤ K)) (cW : ∀ W, Tab W → Calls Tryd.prog 12 #[.agg #[.bool b0, .bool b1, .bool b2, .bool b3, .bool b4, .bool b5, .bool b6, .bool b7, .bool b8, .bool b9, .bool b10, .bool b11, .int .u64 F2]] W (Makes (.int .u64 V) W)) (cX : ∀ W, Tab W → Calls Tryd.prog 26 #[.int .u64 V] W (Makes (.agg #[.bool b0, .bool b1, .bool b2, .bool b3, .bool b4, .bool b5, .bool b6, .bool b7, .bool b8, .bool b9, .bool b10, .bool b11, .int .u64 F2]) W)) (cA : ∀ R K W, MemW W R K 8 Ms → Calls Tryd.prog 11 #[.pointer (some ⟨R, 0, none⟩), .int .u64 8216, .int .i64 8, .int .u64 V] W (fun e w' => e = .returned (.int .i64 0) ∧ MemW w' R K 8 (Mw b6 b7 b10) ∧ Out K o W w')) (cR : ∀ c6 c7 c10 L, Pl c6 c7 c10 L → ∀ k, k = k0 ∨ k = k1 → ∃ z s Q d6 d7 d10 L', Pl d6 d7 d10 L' ∧ ((Q ≠ 0 ∧ d6 = c6 ∧ d7 = c7 ∧ d10 = c10) ∨ (Q = 0 ∧ d6 = true ∧ d7 = markD c7 k ∧ d10 = markC c10 k t)) ∧ ∀ N R K W, Tab W → MemW W R K 8 (Mw c6 c7 c10) → UnitAt N L 0 0 b11 W → Calls Tryd.prog 7 #[.pointer (some ⟨N, 0, none⟩), .pointer (some ⟨R, 0, none⟩), .int .u64 12304, .int .i64 k, .bool t] W (fun e w' => e = .returned (.tuple #[.agg #[.int .u64 z, .bool s], .int .i64 Q]) ∧ MemW w' R K 8 (Mw d6 d7 d10) ∧ UnitAt N L' 0 0 b11 w' ∧ Out2 N K W w')) (cL : ∀ c6 c7 c10 R K W, MemW W R K 8 (Mw c6 c7 c10) → Calls Tryd.prog 23 #[.pointer (some ⟨R, 0, none⟩), .int .u64 8216, .int .i64 8] W (Quiet (.tuple #[.int .u64 (Vw c6 c7 c10), .int .i64 0]) W)) (cY : ∀ c6 c7 c10 W, Tab W → Calls Tryd.prog 26 #[.int .u64 (Vw c6 c7 c10)] W (Makes (.agg #[.bool b0, .bool b1, .bool b2, .bool b3, .bool b4, .bool b5, .bool c6, .bool c7, .bool b8, .bool b9, .bool c10, .bool b11, .int .u64 F2]) W)) (cO : ∀ W, Tab W → Calls Tryd.prog 25 #[] W (Makes (.bool true) W)) (hP0 : Pl b6 b7 b10 (fun _ => [])) (_g1 : bits .and .u64 F 3 = FA) (_g2 : IntKind.u64.wrap (3 + FA) = F2) (w : World) (hT : Tab w) : Calls Tryd.prog 4 #[.agg #[.bool b0, .bool b1, .bool b2, .bool b3, .bool b4, .bool b5, .bool b6, .bool b7, .bool b8, .bool b9, .bool b10, .bool b11, .int .u64 F], .agg #[.int .i64 k0, .int .i64 k1], .bool t] w (Makes (.bool true) w) := by
  have CcS := hide cS
  have CcW := hide cW
  have CcX := hide cX
  have CcA := hide cA
  have CcR := hide cR
  have CcL := hide cL
  have CcY := hide cY
  have CcO := hide cO
  clear cS cW cX cA cR cL cY cO
  have SS := cell_same
  have LB' := ltB_add
  have LS := ltB_self
  have LA' := alloc_reads
  have LH := alloc_holds
  have HP0 := hide hP0
  clear hP0
  obtain ⟨Z0, hz0, hl0⟩ := unit_zero
  have hZl := unit_set134 hl0 b11
  have hZ0s : Z0.size = 135 := by rw [← Array.length_toList, hl0, unitC_length]
  go_enter Tryd.func4, Tryd.ntmps4
  go_upto_region 4 with (first | (go_at_call 6; (with_reducible refine (CcS.out _ ?_).mono ?_); (focus ((first | with_reducible assumption | (refine Tab.behind (by with_reducible assumption) ?_; repeat (first | with_reducible assumption | with_reducible exact Below.refl _ _ | with_reducible refine Below.drew ?_ | with_reducible refine below_drewN ?_ _ | with_reducible refine bw_alloc ?_ _ | (with_reducible refine bw_set ?_ ?_ _; focus (dsimp only; omega)) | (with_reducible apply bw_behind; with_reducible assumption)))))); rintro e ws ⟨R, K, sa, na, ca, sb, nb, cb, rfl, hMs, hbs, hRw, hKw⟩; have hrs := below_reads hbs; have hhs := below_holds hbs; obtain ⟨ms, hss⟩ := below_grew hbs; have hKe0 := hKw; have hRe0 := hRw; (try simp only [size_al] at hKe0 hRe0)) | (go_at_call 12; (with_reducible refine (CcW.out _ ?_).mono ?_); (focus ((first | with_reducible assumption | (refine Tab.behind (by with_reducible assumption) ?_; repeat (first | with_reducible assumption | with_reducible exact Below.refl _ _ | with_reducible refine Below.drew ?_ | with_reducible refine below_drewN ?_ _ | with_reducible refine bw_alloc ?_ _ | (with_reducible refine bw_set ?_ ?_ _; focus (dsimp only; omega)) | (with_reducible apply bw_behind; with_reducible assumption)))))); rintro e wv ⟨rfl, hbv⟩; have hrv := below_reads hbv; have hhv := below_holds hbv; obtain ⟨mv, hsv⟩ := below_grew hbv) | (go_at_call 11; (with_reducible refine (CcA.out _ K _ ?_).mono ?_); (focus (repeat (first | with_reducible assumption | with_reducible refine mw_dr _ ?_ | with_reducible refine mw_d1 ?_ | with_reducible refine mw_al _ ?_ | (with_reducible apply mw_be; with_reducible assumption) | (with_reducible refine mw_set ?_ ?_ ?_; (focus (dsimp only; omega)); (focus (dsimp only; omega)))))); rintro e woa ⟨rfl, hMoa, hOoa⟩))
  have hKs := hMs.herek (by omega)
  have hRs := hMs.hereR
  have hfv : Below w.heap.size w wv := by
    repeat (first | with_reducible assumption | with_reducible exact Below.refl _ _ | with_reducible refine Below.drew ?_ | with_reducible refine below_drewN ?_ _ | with_reducible refine bw_alloc ?_ _ | (with_reducible refine bw_set ?_ ?_ _; focus (dsimp only; omega)) | (with_reducible apply bw_behind; with_reducible assumption))
  have hKe : w.heap.size + 1 < K ∧ w.heap.size + 1 < R := ⟨by omega, by omega⟩
  refine wp_abs (fun W => MemW W R K 8 (Mw b6 b7 b10) ∧ Below w.heap.size w W ∧ W.cell? ⟨w.heap.size + 1, 0, none⟩ = some (.int .i64 k0) ∧ W.cell? ⟨w.heap.size + 1, 1, none⟩ = some (.int .i64 k1) ∧ W.cell? ⟨w.heap.size, 0, none⟩ = some (.bool b0) ∧ W.cell? ⟨w.heap.size, 1, none⟩ = some (.bool b1) ∧ W.cell? ⟨w.heap.size, 2, none⟩ = some (.bool b2) ∧ W.cell? ⟨w.heap.size, 3, none⟩ = some (.bool b3) ∧ W.cell? ⟨w.heap.size, 4, none⟩ = some (.bool b4) ∧ W.cell? ⟨w.heap.size, 5, none⟩ = some (.bool b5) ∧ W.cell? ⟨w.heap.size, 6, none⟩ = some (.bool b6) ∧ W.cell? ⟨w.heap.size, 7, none⟩ = some (.bool b7) ∧ W.cell? ⟨w.heap.size, 8, none⟩ = some (.bool b8) ∧ W.cell? ⟨w.heap.size, 9, none⟩ = some (.bool b9) ∧ W.cell? ⟨w.heap.size, 10, none⟩ = some (.bool b10) ∧ W.cell? ⟨w.heap.size, 11, none⟩ = some (.bool b11) ∧ W.cell? ⟨w.heap.size, 12, none⟩ = some (.int .u64 F2)) ?_ ?_
  · refine ⟨?_, ?_, ?_, ?_, ?_, ?_, ?_, ?_, ?_, ?_, ?_, ?_, ?_, ?_, ?_, ?_, ?_⟩
    · exact hMoa
    · exact hfv.trans (hOoa.below (by omega) hfv.size)
    iterate 15 (refine hOoa.reads (by dsimp only; omega) (c_be hbv ?_); focus (first | ((repeat (first | with_reducible assumption | with_reducible refine c_dr _ ?_ | with_reducible refine c_d1 ?_ | with_reducible refine c_al _ ?_ | (with_reducible refine c_set ?_ ?_; focus (dsimp only; omega)) | (with_reducible apply c_be; with_reducible assumption))); done) | (simp [go_sem, *]; done)))
  rintro w1 ⟨hM1, hB1, l1_0, l1_1, c1_0, c1_1, c1_2, c1_3, c1_4, c1_5, c1_6, c1_7, c1_8, c1_9, c1_10, c1_11, c1_12⟩
  have lE1 : ltB w.heap.size w1.heap.size = true := decide_eq_true (World.block_lt_of_cell? w1 _ c1_0)
  have lL0 := World.block_lt_of_cell? w1 _ l1_0
  have lL1 : ltB (w.heap.size + 1) w1.heap.size = true := decide_eq_true lL0
  clear hMs hbs hrs hhs hss hbv hrv hhv hsv hMoa hOoa hKs hRs hfv
  have hN1 := hB1.size
  have hOz : ∀ t, Own (w1.alloc (.cells Z0 t)) w1.heap.size 135 := fun t => o_new rfl (by omega)
  go_upto_region 5 with (first | ((refine wpList_store_row rfl 43 _ _ rfl (w1.heap.size) 135 _ rfl rfl ?_ ?_ infoUnit ?_ ?_); (focus (simp [hZ0s])); (focus (exact hOz _)); (focus (rw [Array.all_eq_true']; intro v hv; refine unitC_one 0 0 b11 v ?_; rw [← hZl]; first | exact Array.mem_toList_iff.2 hv | exact Array.mem_def.1 hv | simpa using hv)); intro wu hru hbu hou hsu _))
  have hau : Below w1.heap.size w1 wu := (below_alloc (Below.refl _ _) (Nat.le_refl _) _).trans hbu
  refine wp_abs (fun W => MemW W R K 8 (Mw b6 b7 b10) ∧ UnitAt w1.heap.size (fun _ => []) 0 0 b11 W ∧ Below w.heap.size w W ∧ W.cell? ⟨w.heap.size + 1, 0, none⟩ = some (.int .i64 k0) ∧ W.cell? ⟨w.heap.size + 1, 1, none⟩ = some (.int .i64 k1) ∧ W.cell? ⟨w.heap.size, 0, none⟩ = some (.bool b0) ∧ W.cell? ⟨w.heap.size, 1, none⟩ = some (.bool b1) ∧ W.cell? ⟨w.heap.size, 2, none⟩ = some (.bool b2) ∧ W.cell? ⟨w.heap.size, 3, none⟩ = some (.bool b3) ∧ W.cell? ⟨w.heap.size, 4, none⟩ = some (.bool b4) ∧ W.cell? ⟨w.heap.size, 5, none⟩ = some (.bool b5) ∧ W.cell? ⟨w.heap.size, 6, none⟩ = some (.bool b6) ∧ W.cell? ⟨w.heap.size, 7, none⟩ = some (.bool b7) ∧ W.cell? ⟨w.heap.size, 8, none⟩ = some (.bool b8) ∧ W.cell? ⟨w.heap.size, 9, none⟩ = some (.bool b9) ∧ W.cell? ⟨w.heap.size, 10, none⟩ = some (.bool b10) ∧ W.cell? ⟨w.heap.size, 11, none⟩ = some (.bool b11) ∧ W.cell? ⟨w.heap.size, 12, none⟩ = some (.int .u64 F2)) ?_ ?_
  · rw [hZl] at hru
    refine ⟨?_, ?_, ?_, ?_, ?_, ?_, ?_, ?_, ?_, ?_, ?_, ?_, ?_, ?_, ?_, ?_, ?_, ?_⟩
    · exact mw_be hau hM1
    · exact unit_of_row hru hou
    · exact hB1.trans (hau.mono hN1)
    iterate 15 (refine c_be hau ?_; focus (with_reducible assumption))
  rintro w2 ⟨hM2, hU2, hB2, l2_0, l2_1, c2_0, c2_1, c2_2, c2_3, c2_4, c2_5, c2_6, c2_7, c2_8, c2_9, c2_10, c2_11, c2_12⟩
  dsimp only at lL0
  clear hru hbu hou hsu hau hM1 hB1 l1_0 l1_1 c1_0 c1_1 c1_2 c1_3 c1_4 c1_5 c1_6 c1_7 c1_8 c1_9 c1_10 c1_11 c1_12 lE1 lL1 hOz
  generalize w1.heap.size = N at *
  have nNK := un_nek hU2 hM2 (by omega)
  have nNR := un_ner hU2 hM2
  have hT2 := hT.behind hB2
  have hN2 := hU2.here
  have hK2 := hM2.herek (by omega)
  have hR2 := hM2.hereR
  have lE2 : ltB w.heap.size w2.heap.size = true := decide_eq_true (World.block_lt_of_cell? w2 _ c2_0)
  go_upto_region 6 with (first | (go_at_call 12; (with_reducible refine (CcW.out _ ?_).mono ?_); (focus ((first | with_reducible assumption | (refine Tab.behind (by with_reducible assumption) ?_; repeat (first | with_reducible assumption | with_reducible exact Below.refl _ _ | with_reducible refine Below.drew ?_ | with_reducible refine below_drewN ?_ _ | with_reducible refine bw_alloc ?_ _ | (with_reducible refine bw_set ?_ ?_ _; focus (dsimp only; omega)) | (with_reducible apply bw_behind; with_reducible assumption)))))); rintro e wv ⟨rfl, hbv⟩) | (go_at_call 26; (with_reducible refine (CcX.out _ ?_).mono ?_); (focus ((first | with_reducible assumption | (refine Tab.behind (by with_reducible assumption) ?_; repeat (first | with_reducible assumption | with_reducible exact Below.refl _ _ | with_reducible refine Below.drew ?_ | with_reducible refine below_drewN ?_ _ | with_reducible refine bw_alloc ?_ _ | (with_reducible refine bw_set ?_ ?_ _; focus (dsimp only; omega)) | (with_reducible apply bw_behind; with_reducible assumption)))))); rintro e wy ⟨rfl, hby⟩))
  have hzv := hbv.size
  have hzy := hby.size
  refine wp_abs (fun W => MemW W R K 8 (Mw b6 b7 b10) ∧ UnitAt N (fun _ => []) 0 0 b11 W ∧ Below w.heap.size w W ∧ W.cell? ⟨w.heap.size + 1, 0, none⟩ = some (.int .i64 k0) ∧ W.cell? ⟨w.heap.size + 1, 1, none⟩ = some (.int .i64 k1) ∧ W.cell? ⟨wy.heap.size, 0, none⟩ = some (.bool b0) ∧ W.cell? ⟨wy.heap.size, 1, none⟩ = some (.bool b1) ∧ W.cell? ⟨wy.heap.size, 2, none⟩ = some (.bool b2) ∧ W.cell? ⟨wy.heap.size, 3, none⟩ = some (.bool b3) ∧ W.cell? ⟨wy.heap.size, 4, none⟩ = some (.bool b4) ∧ W.cell? ⟨wy.heap.size, 5, none⟩ = some (.bool b5) ∧ W.cell? ⟨wy.heap.size, 6, none⟩ = some (.bool b6) ∧ W.cell? ⟨wy.heap.size, 7, none⟩ = some (.bool b7) ∧ W.cell? ⟨wy.heap.size, 8, none⟩ = some (.bool b8) ∧ W.cell? ⟨wy.heap.size, 9, none⟩ = some (.bool b9) ∧ W.cell? ⟨wy.heap.size, 10, none⟩ = some (.bool b10) ∧ W.cell? ⟨wy.heap.size, 11, none⟩ = some (.bool b11) ∧ W.cell? ⟨wy.heap.size, 12, none⟩ = some (.int .u64 F2) ∧ W.frozen? ⟨wy.heap.size, 6, none⟩ = false ∧ W.frozen? ⟨wy.heap.size, 7, none⟩ = false ∧ W.frozen? ⟨wy.heap.size, 10, none⟩ = false) ?_ ?_
  · refine ⟨?_, ?_, ?_, ?_, ?_, ?_, ?_, ?_, ?_, ?_, ?_, ?_, ?_, ?_, ?_, ?_, ?_, ?_, ?_, ?_, ?_⟩
    · repeat (first | with_reducible assumption | with_reducible refine mw_dr _ ?_ | with_reducible refine mw_d1 ?_ | with_reducible refine mw_al _ ?_ | (with_reducible apply mw_be; with_reducible assumption))
    · repeat (first | with_reducible assumption | with_reducible refine un_dr _ ?_ | with_reducible refine un_d1 ?_ | with_reducible refine un_al _ ?_ | (with_reducible refine un_set ?_ ?_; focus (dsimp only; omega)) | (with_reducible apply un_be; with_reducible assumption) | (with_reducible refine un_sc _ _ ?_ ?_; focus (dsimp only; omega)))
    · repeat (first | with_reducible assumption | with_reducible exact Below.refl _ _ | with_reducible refine Below.drew ?_ | with_reducible refine below_drewN ?_ _ | with_reducible refine bw_alloc ?_ _ | (with_reducible refine bw_set ?_ ?_ _; focus (dsimp only; omega)) | (with_reducible apply bw_behind; with_reducible assumption))
    iterate 2 (refine c_al _ (c_be hby (c_be hbv ?_)); focus (with_reducible assumption))
    iterate 13 (focus (simp [go_sem]))
    iterate 3 (focus (simp [go_sem]))
  rintro w3 ⟨hM3, hU3, hB3, l3_0, l3_1, c3_0, c3_1, c3_2, c3_3, c3_4, c3_5, c3_6, c3_7, c3_8, c3_9, c3_10, c3_11, c3_12, f3_6, f3_7, f3_10⟩
  have hlo_x : N < wy.heap.size ∧ K < wy.heap.size ∧ R < wy.heap.size ∧ w.heap.size + 1 < wy.heap.size ∧ w.heap.size ≤ N := ⟨by omega, by omega, by omega, by omega, by omega⟩
  clear hM2 hU2 hB2 l2_0 l2_1 c2_0 c2_1 c2_2 c2_3 c2_4 c2_5 c2_6 c2_7 c2_8 c2_9 c2_10 c2_11 c2_12 hT2 hN2 hK2 hR2 lE2 hbv hby hzv hzy
  generalize wy.heap.size = xb at *
  go_wp2_with fail
  go_loopw [11] (fun i wr => ∃ (k : Nat) (c6 c7 c10 : Bool) (L : Nat → List Ln), k ≤ 2 ∧ i = .int .i64 (k : Int) ∧ Hid (Pl c6 c7 c10 L) ∧ MemW wr R K 8 (Mw c6 c7 c10) ∧ UnitAt N L 0 0 b11 wr ∧ Below w.heap.size w wr ∧ wr.cell? ⟨w.heap.size + 1, 0, none⟩ = some (.int .i64 k0) ∧ wr.cell? ⟨w.heap.size + 1, 1, none⟩ = some (.int .i64 k1) ∧ wr.cell? ⟨xb, 0, none⟩ = some (.bool b0) ∧ wr.cell? ⟨xb, 1, none⟩ = some (.bool b1) ∧ wr.cell? ⟨xb, 2, none⟩ = some (.bool b2) ∧ wr.cell? ⟨xb, 3, none⟩ = some (.bool b3) ∧ wr.cell? ⟨xb, 4, none⟩ = some (.bool b4) ∧ wr.cell? ⟨xb, 5, none⟩ = some (.bool b5) ∧ wr.cell? ⟨xb, 6, none⟩ = some (.bool c6) ∧ wr.cell? ⟨xb, 7, none⟩ = some (.bool c7) ∧ wr.cell? ⟨xb, 8, none⟩ = some (.bool b8) ∧ wr.cell? ⟨xb, 9, none⟩ = some (.bool b9) ∧ wr.cell? ⟨xb, 10, none⟩ = some (.bool c10) ∧ wr.cell? ⟨xb, 11, none⟩ = some (.bool b11) ∧ wr.cell? ⟨xb, 12, none⟩ = some (.int .u64 F2) ∧ wr.frozen? ⟨xb, 6, none⟩ = false ∧ wr.frozen? ⟨xb, 7, none⟩ = false ∧ wr.frozen? ⟨xb, 10, none⟩ = false) (fun i _ => 2 - (intOf i).toNat)
  case atStart => exact ⟨0, b6, b7, b10, _, by omega, rfl, HP0, hM3, hU3, hB3, l3_0, l3_1, c3_0, c3_1, c3_2, c3_3, c3_4, c3_5, c3_6, c3_7, c3_8, c3_9, c3_10, c3_11, c3_12, f3_6, f3_7, f3_10⟩
  case round =>
    clear hM3 hU3 hB3 l3_0 l3_1 c3_0 c3_1 c3_2 c3_3 c3_4 c3_5 c3_6 c3_7 c3_8 c3_9 c3_10 c3_11 c3_12 f3_6 f3_7 f3_10
    obtain ⟨k, c6, c7, c10, L, hk, rfl, hP, hM3, hU3, hB3, l3_0, l3_1, c3_0, c3_1, c3_2, c3_3, c3_4, c3_5, c3_6, c3_7, c3_8, c3_9, c3_10, c3_11, c3_12, f3_6, f3_7, f3_10⟩ := hrel
    by_cases hlt : k < 2
    · have hkk : k = 0 ∨ k = 1 := by omega
      rcases hkk with rfl | rfl
      · skip
        obtain ⟨z, s, Q, d6, d7, d10, L', hP', hway, cT⟩ := CcR.out c6 c7 c10 L hP.out k0 (by simp)
        have CcT := hide cT
        have HP' := hide hP'
        have HW := hide hway
        clear cT hP' hway hP
        have hT3 := hT.behind hB3
        have hN3 := hU3.here
        have hK3 := hM3.herek (by omega)
        have hR3 := hM3.hereR
        have lx3 : xb < wr.heap.size := World.block_lt_of_cell? wr _ c3_0
        have lL3 : ltB (w.heap.size + 1) wr.heap.size = true := decide_eq_true (World.block_lt_of_cell? wr _ l3_0)
        go_upto_region 13 with (first | (go_at_call 7; (with_reducible refine (CcT.out _ _ K _ ?_ ?_ ?_).mono ?_); (focus ((first | with_reducible assumption | (refine Tab.behind (by with_reducible assumption) ?_; repeat (first | with_reducible assumption | with_reducible exact Below.refl _ _ | with_reducible refine Below.drew ?_ | with_reducible refine below_drewN ?_ _ | with_reducible refine bw_alloc ?_ _ | (with_reducible refine bw_set ?_ ?_ _; focus (dsimp only; omega)) | (with_reducible apply bw_behind; with_reducible assumption)))))); (focus (repeat (first | with_reducible assumption | with_reducible refine mw_dr _ ?_ | with_reducible refine mw_d1 ?_ | with_reducible refine mw_al _ ?_ | (with_reducible apply mw_be; with_reducible assumption)))); (focus (repeat (first | with_reducible assumption | with_reducible refine un_dr _ ?_ | with_reducible refine un_d1 ?_ | with_reducible refine un_al _ ?_ | (with_reducible refine un_set ?_ ?_; focus (dsimp only; omega)) | (with_reducible apply un_be; with_reducible assumption) | (with_reducible refine un_sc _ _ ?_ ?_; focus (dsimp only; omega))))); rintro e wt ⟨rfl, hMt, hUt, hXt⟩; have hBt : Below w.heap.size w wt := hB3.trans (hXt.below (by omega) (by omega) hB3.size); have hTt := hT.behind hBt) | (go_at_call 23; (with_reducible refine (CcL.out d6 d7 d10 _ K _ ?_).mono ?_); (focus (repeat (first | with_reducible assumption | with_reducible refine mw_dr _ ?_ | with_reducible refine mw_d1 ?_ | with_reducible refine mw_al _ ?_ | (with_reducible apply mw_be; with_reducible assumption)))); rintro e w' ⟨rfl, n1, rfl⟩) | (go_at_call 26; (with_reducible refine (CcY.out d6 d7 d10 _ ?_).mono ?_); (focus ((first | with_reducible assumption | (refine Tab.behind (by with_reducible assumption) ?_; repeat (first | with_reducible assumption | with_reducible exact Below.refl _ _ | with_reducible refine Below.drew ?_ | with_reducible refine below_drewN ?_ _ | with_reducible refine bw_alloc ?_ _ | (with_reducible refine bw_set ?_ ?_ _; focus (dsimp only; omega)) | (with_reducible apply bw_behind; with_reducible assumption)))))); rintro e wy ⟨rfl, hby⟩))
        have hzt := hXt.size
        refine wp_abs (fun W => MemW W R K 8 (Mw d6 d7 d10) ∧ UnitAt N L' 0 0 b11 W ∧ Below w.heap.size w W ∧ W.cell? ⟨w.heap.size + 1, 0, none⟩ = some (.int .i64 k0) ∧ W.cell? ⟨w.heap.size + 1, 1, none⟩ = some (.int .i64 k1) ∧ W.cell? ⟨xb, 0, none⟩ = some (.bool b0) ∧ W.cell? ⟨xb, 1, none⟩ = some (.bool b1) ∧ W.cell? ⟨xb, 2, none⟩ = some (.bool b2) ∧ W.cell? ⟨xb, 3, none⟩ = some (.bool b3) ∧ W.cell? ⟨xb, 4, none⟩ = some (.bool b4) ∧ W.cell? ⟨xb, 5, none⟩ = some (.bool b5) ∧ W.cell? ⟨xb, 6, none⟩ = some (.bool c6) ∧ W.cell? ⟨xb, 7, none⟩ = some (.bool c7) ∧ W.cell? ⟨xb, 8, none⟩ = some (.bool b8) ∧ W.cell? ⟨xb, 9, none⟩ = some (.bool b9) ∧ W.cell? ⟨xb, 10, none⟩ = some (.bool c10) ∧ W.cell? ⟨xb, 11, none⟩ = some (.bool b11) ∧ W.cell? ⟨xb, 12, none⟩ = some (.int .u64 F2) ∧ W.frozen? ⟨xb, 6, none⟩ = false ∧ W.frozen? ⟨xb, 7, none⟩ = false ∧ W.frozen? ⟨xb, 10, none⟩ = false ∧ W.cell? ⟨wy.heap.size, 0, none⟩ = some (.bool b0) ∧ W.cell? ⟨wy.heap.size, 1, none⟩ = some (.bool b1) ∧ W.cell? ⟨wy.heap.size, 2, none⟩ = some (.bool b2) ∧ W.cell? ⟨wy.heap.size, 3, none⟩ = some (.bool b3) ∧ W.cell? ⟨wy.heap.size, 4, none⟩ = some (.bool b4) ∧ W.cell? ⟨wy.heap.size, 5, none⟩ = some (.bool b5) ∧ W.cell? ⟨wy.heap.size, 6, none⟩ = some (.bool d6) ∧ W.cell? ⟨wy.heap.size, 7, none⟩ = some (.bool d7) ∧ W.cell? ⟨wy.heap.size, 8, none⟩ = some (.bool b8) ∧ W.cell? ⟨wy.heap.size, 9, none⟩ = some (.bool b9) ∧ W.cell? ⟨wy.heap.size, 10, none⟩ = some (.bool d10) ∧ W.cell? ⟨wy.heap.size, 11, none⟩ = some (.bool b11) ∧ W.cell? ⟨wy.heap.size, 12, none⟩ = some (.int .u64 F2) ∧ wy.heap.size < W.heap.size) ?_ ?_
        · refine ⟨?_, ?_, ?_, ?_, ?_, ?_, ?_, ?_, ?_, ?_, ?_, ?_, ?_, ?_, ?_, ?_, ?_, ?_, ?_, ?_, ?_, ?_, ?_, ?_, ?_, ?_, ?_, ?_, ?_, ?_, ?_, ?_, ?_, ?_, ?_⟩
          · repeat (first | with_reducible assumption | with_reducible refine mw_dr _ ?_ | with_reducible refine mw_d1 ?_ | with_reducible refine mw_al _ ?_ | (with_reducible apply mw_be; with_reducible assumption))
          · repeat (first | with_reducible assumption | with_reducible refine un_dr _ ?_ | with_reducible refine un_d1 ?_ | with_reducible refine un_al _ ?_ | (with_reducible refine un_set ?_ ?_; focus (dsimp only; omega)) | (with_reducible apply un_be; with_reducible assumption) | (with_reducible refine un_sc _ _ ?_ ?_; focus (dsimp only; omega)))
          · repeat (first | with_reducible assumption | with_reducible exact Below.refl _ _ | with_reducible refine Below.drew ?_ | with_reducible refine below_drewN ?_ _ | with_reducible refine bw_alloc ?_ _ | (with_reducible refine bw_set ?_ ?_ _; focus (dsimp only; omega)) | (with_reducible apply bw_behind; with_reducible assumption))
          iterate 2 (refine c_al _ (c_be hby ?_); focus (exact c_al _ (hXt.reads (by dsimp only; omega) (by dsimp only; omega) (by with_reducible assumption))))
          iterate 13 (refine c_al _ (c_be hby ?_); focus (exact c_al _ (hXt.reads (by dsimp only; omega) (by dsimp only; omega) (by with_reducible assumption))))
          iterate 3 (refine fr_al ⟨?_, fr_be hby ?_ (fr_al (fr_out2 hXt (by omega) (by omega) lx3 (by with_reducible assumption)))⟩; (focus (have := hby.size; simp at this ⊢; omega)); (focus (simp; omega)))
          iterate 13 (focus (simp [go_sem]))
          · simp
        rintro w7 ⟨hM7, hU7, hB7, l7_0, l7_1, c7_0, c7_1, c7_2, c7_3, c7_4, c7_5, c7_6, c7_7, c7_8, c7_9, c7_10, c7_11, c7_12, f7_6, f7_7, f7_10, y7_0, y7_1, y7_2, y7_3, y7_4, y7_5, y7_6, y7_7, y7_8, y7_9, y7_10, y7_11, y7_12, hly⟩
        have hlo_y : xb < wy.heap.size ∧ N < wy.heap.size := by
          have := hby.size
          simp at this
          omega
        clear hMt hUt hXt hBt hTt hby hzt hM3 hU3 hB3 l3_0 l3_1 c3_0 c3_1 c3_2 c3_3 c3_4 c3_5 c3_6 c3_7 c3_8 c3_9 c3_10 c3_11 c3_12 f3_6 f3_7 f3_10 hT3 hN3 hK3 hR3 lL3 CcT
        generalize wy.heap.size = yb at *
        have lb7 : ltB xb w7.heap.size = true := decide_eq_true (World.block_lt_of_cell? w7 _ c7_0)
        have ly7 : ltB yb w7.heap.size = true := decide_eq_true hly
        have hnx : (xb == yb) = false := by simp; omega
        have hny : (yb == xb) = false := by simp; omega
        have NE : ∀ W, (binOp .neq 32 (.agg #[.bool b0, .bool b1, .bool b2, .bool b3, .bool b4, .bool b5, .bool d6, .bool d7, .bool b8, .bool b9, .bool d10, .bool b11, .int .u64 F2]) (.agg #[.bool b0, .bool b1, .bool b2, .bool b3, .bool b4, .bool b5, .bool d6, .bool d7, .bool b8, .bool b9, .bool d10, .bool b11, .int .u64 F2])).run Tryd.prog W = .ok (.bool false) W := fun W => by rw [ne_e, decide_eq_true rfl]; rfl
        rcases HW.out with ⟨hQ, rfl, rfl, rfl⟩ | ⟨rfl, rfl, hd7, hd10⟩
        · have q0 : (Q == 0) = false := by simpa using hQ
          clear HW hQ
          go_wp2_with fail
          go_roundw
          case rel => exact ⟨0 + 1, _, _, _, _, by omega, rfl, HP', hM7, hU7, hB7, l7_0, l7_1, c7_0, c7_1, c7_2, c7_3, c7_4, c7_5, c7_6, c7_7, c7_8, c7_9, c7_10, c7_11, c7_12, f7_6, f7_7, f7_10⟩
          case measure => simp [intOf]
        · clear HW
          go_upto_region 15 with fail
          go_cut [] (fun wx => wx = (w7.setCell ⟨xb, 6, none⟩ (.bool true)).setCell ⟨xb, 7, none⟩ (.bool d7))
          case first =>
            cases q2 : (k0 == 2) <;> cases q4 : (k0 == 4) <;> cases c7
            all_goals
              unfold markD at hd7
              rw [q2, q4] at hd7
              subst hd7
              go_wp2_with fail
              go_meet
              rfl
          case rest =>
            obtain rfl := hcut
            go_upto_region 16 with fail
            go_cut [] (fun wx => wx = ((w7.setCell ⟨xb, 6, none⟩ (.bool true)).setCell ⟨xb, 7, none⟩ (.bool d7)).setCell ⟨xb, 10, none⟩ (.bool d10))
            case first =>
              clear hd7
              cases q4 : (k0 == 4) <;> cases c10 <;> cases t
              all_goals
                unfold markC at hd10
                rw [q4] at hd10
                subst hd10
                go_wp2_with fail
                go_meet
                rfl
            case rest =>
              obtain rfl := hcut
              clear hd7 hd10
              go_wp2_with fail
              go_roundw
              case rel =>
                refine ⟨0 + 1, true, d7, d10, _, by omega, rfl, HP', ?_, ?_, ?_, ?_, ?_, ?_, ?_, ?_, ?_, ?_, ?_, ?_, ?_, ?_, ?_, ?_, ?_, ?_, ?_, ?_, ?_⟩
                · exact mw_set (by dsimp only; omega) (by dsimp only; omega) (mw_set (by dsimp only; omega) (by dsimp only; omega) (mw_set (by dsimp only; omega) (by dsimp only; omega) hM7))
                · exact un_set (by dsimp only; omega) (un_set (by dsimp only; omega) (un_set (by dsimp only; omega) hU7))
                · exact bw_set (by dsimp only; omega) (bw_set (by dsimp only; omega) (bw_set (by dsimp only; omega) hB7 _) _) _
                all_goals (first | (simp [go_sem, *]; done) | (repeat (first | with_reducible assumption | (refine c_set (by dsimp only; omega) ?_) | rw [World.frozen?_setCell])))
              case measure => simp [intOf]

      · skip
        obtain ⟨z, s, Q, d6, d7, d10, L', hP', hway, cT⟩ := CcR.out c6 c7 c10 L hP.out k1 (by simp)
        have CcT := hide cT
        have HP' := hide hP'
        have HW := hide hway
        clear cT hP' hway hP
        have hT3 := hT.behind hB3
        have hN3 := hU3.here
        have hK3 := hM3.herek (by omega)
        have hR3 := hM3.hereR
        have lx3 : xb < wr.heap.size := World.block_lt_of_cell? wr _ c3_0
        have lL3 : ltB (w.heap.size + 1) wr.heap.size = true := decide_eq_true (World.block_lt_of_cell? wr _ l3_0)
        go_upto_region 13 with (first | (go_at_call 7; (with_reducible refine (CcT.out _ _ K _ ?_ ?_ ?_).mono ?_); (focus ((first | with_reducible assumption | (refine Tab.behind (by with_reducible assumption) ?_; repeat (first | with_reducible assumption | with_reducible exact Below.refl _ _ | with_reducible refine Below.drew ?_ | with_reducible refine below_drewN ?_ _ | with_reducible refine bw_alloc ?_ _ | (with_reducible refine bw_set ?_ ?_ _; focus (dsimp only; omega)) | (with_reducible apply bw_behind; with_reducible assumption)))))); (focus (repeat (first | with_reducible assumption | with_reducible refine mw_dr _ ?_ | with_reducible refine mw_d1 ?_ | with_reducible refine mw_al _ ?_ | (with_reducible apply mw_be; with_reducible assumption)))); (focus (repeat (first | with_reducible assumption | with_reducible refine un_dr _ ?_ | with_reducible refine un_d1 ?_ | with_reducible refine un_al _ ?_ | (with_reducible refine un_set ?_ ?_; focus (dsimp only; omega)) | (with_reducible apply un_be; with_reducible assumption) | (with_reducible refine un_sc _ _ ?_ ?_; focus (dsimp only; omega))))); rintro e wt ⟨rfl, hMt, hUt, hXt⟩; have hBt : Below w.heap.size w wt := hB3.trans (hXt.below (by omega) (by omega) hB3.size); have hTt := hT.behind hBt) | (go_at_call 23; (with_reducible refine (CcL.out d6 d7 d10 _ K _ ?_).mono ?_); (focus (repeat (first | with_reducible assumption | with_reducible refine mw_dr _ ?_ | with_reducible refine mw_d1 ?_ | with_reducible refine mw_al _ ?_ | (with_reducible apply mw_be; with_reducible assumption)))); rintro e w' ⟨rfl, n1, rfl⟩) | (go_at_call 26; (with_reducible refine (CcY.out d6 d7 d10 _ ?_).mono ?_); (focus ((first | with_reducible assumption | (refine Tab.behind (by with_reducible assumption) ?_; repeat (first | with_reducible assumption | with_reducible exact Below.refl _ _ | with_reducible refine Below.drew ?_ | with_reducible refine below_drewN ?_ _ | with_reducible refine bw_alloc ?_ _ | (with_reducible refine bw_set ?_ ?_ _; focus (dsimp only; omega)) | (with_reducible apply bw_behind; with_reducible assumption)))))); rintro e wy ⟨rfl, hby⟩))
        have hzt := hXt.size
        refine wp_abs (fun W => MemW W R K 8 (Mw d6 d7 d10) ∧ UnitAt N L' 0 0 b11 W ∧ Below w.heap.size w W ∧ W.cell? ⟨w.heap.size + 1, 0, none⟩ = some (.int .i64 k0) ∧ W.cell? ⟨w.heap.size + 1, 1, none⟩ = some (.int .i64 k1) ∧ W.cell? ⟨xb, 0, none⟩ = some (.bool b0) ∧ W.cell? ⟨xb, 1, none⟩ = some (.bool b1) ∧ W.cell? ⟨xb, 2, none⟩ = some (.bool b2) ∧ W.cell? ⟨xb, 3, none⟩ = some (.bool b3) ∧ W.cell? ⟨xb, 4, none⟩ = some (.bool b4) ∧ W.cell? ⟨xb, 5, none⟩ = some (.bool b5) ∧ W.cell? ⟨xb, 6, none⟩ = some (.bool c6) ∧ W.cell? ⟨xb, 7, none⟩ = some (.bool c7) ∧ W.cell? ⟨xb, 8, none⟩ = some (.bool b8) ∧ W.cell? ⟨xb, 9, none⟩ = some (.bool b9) ∧ W.cell? ⟨xb, 10, none⟩ = some (.bool c10) ∧ W.cell? ⟨xb, 11, none⟩ = some (.bool b11) ∧ W.cell? ⟨xb, 12, none⟩ = some (.int .u64 F2) ∧ W.frozen? ⟨xb, 6, none⟩ = false ∧ W.frozen? ⟨xb, 7, none⟩ = false ∧ W.frozen? ⟨xb, 10, none⟩ = false ∧ W.cell? ⟨wy.heap.size, 0, none⟩ = some (.bool b0) ∧ W.cell? ⟨wy.heap.size, 1, none⟩ = some (.bool b1) ∧ W.cell? ⟨wy.heap.size, 2, none⟩ = some (.bool b2) ∧ W.cell? ⟨wy.heap.size, 3, none⟩ = some (.bool b3) ∧ W.cell? ⟨wy.heap.size, 4, none⟩ = some (.bool b4) ∧ W.cell? ⟨wy.heap.size, 5, none⟩ = some (.bool b5) ∧ W.cell? ⟨wy.heap.size, 6, none⟩ = some (.bool d6) ∧ W.cell? ⟨wy.heap.size, 7, none⟩ = some (.bool d7) ∧ W.cell? ⟨wy.heap.size, 8, none⟩ = some (.bool b8) ∧ W.cell? ⟨wy.heap.size, 9, none⟩ = some (.bool b9) ∧ W.cell? ⟨wy.heap.size, 10, none⟩ = some (.bool d10) ∧ W.cell? ⟨wy.heap.size, 11, none⟩ = some (.bool b11) ∧ W.cell? ⟨wy.heap.size, 12, none⟩ = some (.int .u64 F2) ∧ wy.heap.size < W.heap.size) ?_ ?_
        · refine ⟨?_, ?_, ?_, ?_, ?_, ?_, ?_, ?_, ?_, ?_, ?_, ?_, ?_, ?_, ?_, ?_, ?_, ?_, ?_, ?_, ?_, ?_, ?_, ?_, ?_, ?_, ?_, ?_, ?_, ?_, ?_, ?_, ?_, ?_, ?_⟩
          · repeat (first | with_reducible assumption | with_reducible refine mw_dr _ ?_ | with_reducible refine mw_d1 ?_ | with_reducible refine mw_al _ ?_ | (with_reducible apply mw_be; with_reducible assumption))
          · repeat (first | with_reducible assumption | with_reducible refine un_dr _ ?_ | with_reducible refine un_d1 ?_ | with_reducible refine un_al _ ?_ | (with_reducible refine un_set ?_ ?_; focus (dsimp only; omega)) | (with_reducible apply un_be; with_reducible assumption) | (with_reducible refine un_sc _ _ ?_ ?_; focus (dsimp only; omega)))
          · repeat (first | with_reducible assumption | with_reducible exact Below.refl _ _ | with_reducible refine Below.drew ?_ | with_reducible refine below_drewN ?_ _ | with_reducible refine bw_alloc ?_ _ | (with_reducible refine bw_set ?_ ?_ _; focus (dsimp only; omega)) | (with_reducible apply bw_behind; with_reducible assumption))
          iterate 2 (refine c_al _ (c_be hby ?_); focus (exact c_al _ (hXt.reads (by dsimp only; omega) (by dsimp only; omega) (by with_reducible assumption))))
          iterate 13 (refine c_al _ (c_be hby ?_); focus (exact c_al _ (hXt.reads (by dsimp only; omega) (by dsimp only; omega) (by with_reducible assumption))))
          iterate 3 (refine fr_al ⟨?_, fr_be hby ?_ (fr_al (fr_out2 hXt (by omega) (by omega) lx3 (by with_reducible assumption)))⟩; (focus (have := hby.size; simp at this ⊢; omega)); (focus (simp; omega)))
          iterate 13 (focus (simp [go_sem]))
          · simp
        rintro w7 ⟨hM7, hU7, hB7, l7_0, l7_1, c7_0, c7_1, c7_2, c7_3, c7_4, c7_5, c7_6, c7_7, c7_8, c7_9, c7_10, c7_11, c7_12, f7_6, f7_7, f7_10, y7_0, y7_1, y7_2, y7_3, y7_4, y7_5, y7_6, y7_7, y7_8, y7_9, y7_10, y7_11, y7_12, hly⟩
        have hlo_y : xb < wy.heap.size ∧ N < wy.heap.size := by
          have := hby.size
          simp at this
          omega
        clear hMt hUt hXt hBt hTt hby hzt hM3 hU3 hB3 l3_0 l3_1 c3_0 c3_1 c3_2 c3_3 c3_4 c3_5 c3_6 c3_7 c3_8 c3_9 c3_10 c3_11 c3_12 f3_6 f3_7 f3_10 hT3 hN3 hK3 hR3 lL3 CcT
        generalize wy.heap.size = yb at *
        have lb7 : ltB xb w7.heap.size = true := decide_eq_true (World.block_lt_of_cell? w7 _ c7_0)
        have ly7 : ltB yb w7.heap.size = true := decide_eq_true hly
        have hnx : (xb == yb) = false := by simp; omega
        have hny : (yb == xb) = false := by simp; omega
        have NE : ∀ W, (binOp .neq 32 (.agg #[.bool b0, .bool b1, .bool b2, .bool b3, .bool b4, .bool b5, .bool d6, .bool d7, .bool b8, .bool b9, .bool d10, .bool b11, .int .u64 F2]) (.agg #[.bool b0, .bool b1, .bool b2, .bool b3, .bool b4, .bool b5, .bool d6, .bool d7, .bool b8, .bool b9, .bool d10, .bool b11, .int .u64 F2])).run Tryd.prog W = .ok (.bool false) W := fun W => by rw [ne_e, decide_eq_true rfl]; rfl
        rcases HW.out with ⟨hQ, rfl, rfl, rfl⟩ | ⟨rfl, rfl, hd7, hd10⟩
        · have q0 : (Q == 0) = false := by simpa using hQ
          clear HW hQ
          go_wp2_with fail
          go_roundw
          case rel => exact ⟨1 + 1, _, _, _, _, by omega, rfl, HP', hM7, hU7, hB7, l7_0, l7_1, c7_0, c7_1, c7_2, c7_3, c7_4, c7_5, c7_6, c7_7, c7_8, c7_9, c7_10, c7_11, c7_12, f7_6, f7_7, f7_10⟩
          case measure => simp [intOf]
        · clear HW
          go_upto_region 15 with fail
          go_cut [] (fun wx => wx = (w7.setCell ⟨xb, 6, none⟩ (.bool true)).setCell ⟨xb, 7, none⟩ (.bool d7))
          case first =>
            cases q2 : (k1 == 2) <;> cases q4 : (k1 == 4) <;> cases c7
            all_goals
              unfold markD at hd7
              rw [q2, q4] at hd7
              subst hd7
              go_wp2_with fail
              go_meet
              rfl
          case rest =>
            obtain rfl := hcut
            go_upto_region 16 with fail
            go_cut [] (fun wx => wx = ((w7.setCell ⟨xb, 6, none⟩ (.bool true)).setCell ⟨xb, 7, none⟩ (.bool d7)).setCell ⟨xb, 10, none⟩ (.bool d10))
            case first =>
              clear hd7
              cases q4 : (k1 == 4) <;> cases c10 <;> cases t
              all_goals
                unfold markC at hd10
                rw [q4] at hd10
                subst hd10
                go_wp2_with fail
                go_meet
                rfl
            case rest =>
              obtain rfl := hcut
              clear hd7 hd10
              go_wp2_with fail
              go_roundw
              case rel =>
                refine ⟨1 + 1, true, d7, d10, _, by omega, rfl, HP', ?_, ?_, ?_, ?_, ?_, ?_, ?_, ?_, ?_, ?_, ?_, ?_, ?_, ?_, ?_, ?_, ?_, ?_, ?_, ?_, ?_⟩
                · exact mw_set (by dsimp only; omega) (by dsimp only; omega) (mw_set (by dsimp only; omega) (by dsimp only; omega) (mw_set (by dsimp only; omega) (by dsimp only; omega) hM7))
                · exact un_set (by dsimp only; omega) (un_set (by dsimp only; omega) (un_set (by dsimp only; omega) hU7))
                · exact bw_set (by dsimp only; omega) (bw_set (by dsimp only; omega) (bw_set (by dsimp only; omega) hB7 _) _) _
                all_goals (first | (simp [go_sem, *]; done) | (repeat (first | with_reducible assumption | (refine c_set (by dsimp only; omega) ?_) | rw [World.frozen?_setCell])))
              case measure => simp [intOf]

    · obtain rfl : k = 2 := by omega
      have hT3 := hT.behind hB3
      go_wp2_with (go_at_call 25; (with_reducible refine (CcO.out _ ?_).mono ?_); (focus ((first | with_reducible assumption | (refine Tab.behind (by with_reducible assumption) ?_; repeat (first | with_reducible assumption | with_reducible exact Below.refl _ _ | with_reducible refine Below.drew ?_ | with_reducible refine below_drewN ?_ _ | with_reducible refine bw_alloc ?_ _ | (with_reducible refine bw_set ?_ ?_ _; focus (dsimp only; omega)) | (with_reducible apply bw_behind; with_reducible assumption)))))); rintro e wz ⟨rfl, hbz⟩; have hrz := below_reads hbz; have hhz := below_holds hbz; obtain ⟨mz, hsz⟩ := below_grew hbz)
      refine bodyPost_ret (v := .bool true) (by simp (maxDischargeDepth := 4) [results, Tryd.results4, go_sem, *]) rfl ?_
      refine ⟨rfl, ?_⟩
      repeat (first | with_reducible assumption | with_reducible exact Below.refl _ _ | with_reducible refine Below.drew ?_ | with_reducible refine below_drewN ?_ _ | with_reducible refine bw_alloc ?_ _ | (with_reducible refine bw_set ?_ ?_ _; focus (dsimp only; omega)) | (with_reducible apply bw_behind; with_reducible assumption))
end Go.Proofs.YtkajndonefkegaaDoor.MmuMarks
