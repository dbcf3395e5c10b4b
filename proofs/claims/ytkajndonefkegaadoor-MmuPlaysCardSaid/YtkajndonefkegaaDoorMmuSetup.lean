/-
  What setup makes: a memory of eight frames in which frame 0 leads to frame 1, and that to frame 2, and the document's.
-/
import Derived.Test.YtkajndonefkegaaDoorWalkLaid
import Derived.Test.YtkajndonefkegaaDoorGSet
import Derived.Test.YtkajndonefkegaaDoorGRef
import Derived.Test.YtkajndonefkegaaDoorPteRef2
import Derived.Deep.DeepCutAuto
import Derived.Deep.RegionHeld3
import Derived.Deep.QuietTactic
import Derived.BigQuiet
set_option maxRecDepth 100000
set_option maxHeartbeats 64000000
namespace Go.Proofs.YtkajndonefkegaaDoor
open Go.RowKit Words FieldMath PteMath

theorem sl_al {W : World} {s : Option Addr} {n c : Nat} {l : List Value} (ob : Obj) (h : Sl W s n c l) : Sl (W.alloc ob) s n c l := sl_be (below_alloc (Below.refl _ _) (Nat.le_refl _) ob) h
def setD (k : Nat) : LayD := ⟨(k : Int), 0, true, false, false, false, false, false, false, false, false, false, false, false, BitVec.ofNat 64 (k + 1)⟩
def setupL : Nat -> List LayD
  | 0 => []
  | k + 1 => setupL k ++ [setD k]
theorem setupL_length : ∀ k, (setupL k).length = k
  | 0 => rfl
  | k + 1 => by rw [setupL, List.length_append, setupL_length k]; rfl
theorem setD_page (k : Nat) (h : k < 2) : (setD k).page = k := by
  show (((k : Int)) % 8).toNat = k
  omega
theorem setD_idx (k : Nat) : (setD k).idx = 0 := rfl
def OutM (w : World) (W' : World) (R K : Nat) (sa : Option Addr) (na ca : Nat) (sb : Option Addr) (nb cb : Nat) (l : List LayD) : Prop := MemW W' R K 8 (laidM l) /\ Sl W' sa na ca (numA (laidR l)) /\ Sl W' sb nb cb (numV (laidR l)) /\ Below w.heap.size w W' /\ w.heap.size ≤ R /\ w.heap.size ≤ K /\ From w.heap.size sa /\ From w.heap.size sb

theorem setup_away (w : World) (hT : Tab w) : Calls Tryd.prog 6 #[] w (fun e W' => ∃ R K sa na ca sb nb cb, e = .returned (.tuple #[.pointer (some ⟨R, 0, none⟩), .agg #[.int .i64 8, .slice sa na ca, .slice sb nb cb, .slice none 0 0]]) /\ OutM w W' R K sa na ca sb nb cb (setupL 2) /\ Away K sa /\ Away K sb) := by
  have c1 : ∀ W : World, Calls Tryd.prog 27 #[.int .i64 8] W fun e w' => e = .returned (.tuple #[.pointer (some ⟨W.heap.size + 1, 0, none⟩), .int .i64 0]) /\ MemW w' (W.heap.size + 1) W.heap.size 8 (fun _ _ => 0#64) /\ Below W.heap.size W w' /\ w'.heap.size = W.heap.size + 2 := fun W => new_w 8 (by omega) (by omega) W
  have c2 := fun W => rnew_any W
  have C1 := hide c1
  have C2 := hide c2
  clear c1 c2
  obtain ⟨SS, LB', LS, LA', LH⟩ := rules5
  go_enter Tryd.func6, Tryd.ntmps6
  go_wp2_with (first | (go_at_call 27; (with_reducible refine (C1.out _).mono ?_); rintro e w1 ⟨rfl, hm1, hb1, hs1⟩; have hr1 := below_reads hb1; have hh1 := below_holds hb1) | (go_at_call 28; (with_reducible refine (C2.out _).mono ?_); rintro e w2 ⟨rfl, hb2⟩; obtain ⟨hr2, hh2, m2, hs2⟩ := bl_all hb2))
  refine wp_abs (fun W => MemW W (w.heap.size + 1 + 1) (w.heap.size + 1) 8 (fun _ _ => 0#64) /\ W.cell? ⟨w.heap.size + 1 + 2 + m2, 0, none⟩ = some (.int .i64 8) /\ W.cell? ⟨w.heap.size + 1 + 2 + m2, 1, none⟩ = some (.slice none 0 0) /\ W.cell? ⟨w.heap.size + 1 + 2 + m2, 2, none⟩ = some (.slice none 0 0) /\ W.cell? ⟨w.heap.size + 1 + 2 + m2, 3, none⟩ = some (.slice none 0 0) /\ Own W (w.heap.size + 1 + 2 + m2) 4 /\ Own W w.heap.size 4 /\ Below w.heap.size w W /\ w.heap.size + 1 + 2 + m2 < W.heap.size) ?_ ?_
  · have hm2 : MemW w1 (w.heap.size + 1 + 1) (w.heap.size + 1) 8 (fun _ _ => 0#64) := by simpa using hm1
    have hn2 : w.heap.size + 1 + 2 + m2 = w2.heap.size := by rw [hs2, hs1]; simp
    refine ⟨?_, ?_, ?_, ?_, ?_, ?_, ?_, ?_, ?_⟩
    all_goals first | ((repeat (with_reducible first | assumption | refine mw_dr _ ?_ | refine mw_d1 ?_ | refine mw_al _ ?_ | (apply mw_be; assumption))); done) | (rw [hn2]; first | exact o_new rfl (by simp) | (simp [go_sem]; done)) | (first | with_reducible assumption | ((repeat (with_reducible first | assumption | refine c_dr _ ?_ | refine c_d1 ?_ | refine c_al _ ?_ | (refine c_set ?_ ?_; focus (dsimp only; omega)) | (apply c_be; assumption))); done) | ((repeat (first | (with_reducible first | assumption | refine o_dr _ ?_ | refine o_d1 ?_ | refine o_set ?_) | (with_reducible refine o_new ?_ ?_; (focus (simp)); (focus (simp))) | (with_reducible first | refine o_al _ ?_ | (apply o_be; assumption)))); done) | ((repeat (with_reducible first | assumption | exact Below.refl _ _ | refine Below.drew ?_ | refine below_drewN ?_ _ | refine bw_alloc ?_ _ | (refine bw_set ?_ ?_ _; focus (dsimp only; omega)) | (apply bw_behind; assumption))); done) | (simp [go_sem, *]; omega) | (simp (maxDischargeDepth := 4) [go_sem, *]; done))
  rintro w3 ⟨hM3, q0, q1, q2, q3, oB, oR, hB3, hx3⟩
  clear hm1 hb1 hs1 hr1 hh1 hb2 hs2 hr2 hh2
  have hx0 : w.heap.size + 3 ≤ w.heap.size + 1 + 2 + m2 := by omega
  generalize w.heap.size + 1 + 2 + m2 = bx at *
  clear m2 w1 w2
  have HM3 := hide hM3
  clear hM3
  go_loopw [6] (fun i wr => ∃ (k : Nat) (sa : Option Addr) (na ca : Nat) (sb : Option Addr) (nb cb : Nat), k ≤ 2 /\ i = .int .i64 (k : Int) /\ Hid (MemW wr (w.heap.size + 1 + 1) (w.heap.size + 1) 8 (laidM (setupL k))) /\ wr.cell? ⟨bx, 0, none⟩ = some (.int .i64 8) /\ wr.cell? ⟨bx, 1, none⟩ = some (.slice sa na ca) /\ wr.cell? ⟨bx, 2, none⟩ = some (.slice sb nb cb) /\ wr.cell? ⟨bx, 3, none⟩ = some (.slice none 0 0) /\ Own wr bx 4 /\ Own wr w.heap.size 4 /\ Hid (Sl wr sa na ca (numA (laidR (setupL k)))) /\ Hid (Sl wr sb nb cb (numV (laidR (setupL k)))) /\ Hid (Away bx sa /\ Away w.heap.size sa /\ Away (w.heap.size + 1) sa /\ Away bx sb /\ Away w.heap.size sb /\ Away (w.heap.size + 1) sb) /\ Hid (From w.heap.size sa /\ From w.heap.size sb) /\ Below w.heap.size w wr /\ bx < wr.heap.size) (fun i _ => 2 - (intOf i).toNat)
  case atStart =>
    refine ⟨0, none, 0, 0, none, 0, 0, by omega, rfl, HM3, q0, q1, q2, q3, oB, oR, ⟨rfl, .inl ⟨rfl, rfl, rfl⟩⟩, ⟨rfl, .inl ⟨rfl, rfl, rfl⟩⟩, ⟨?_, ?_, ?_, ?_, ?_, ?_⟩, ⟨?_, ?_⟩, hB3, hx3⟩
    all_goals (intro g hg; cases hg)
  case round =>
    clear HM3 q0 q1 q2 q3 oB oR hB3 hx3
    obtain ⟨k, sa, na, ca, sb, nb, cb, hk, rfl, HM, q0, q1, q2, q3, oB, oR, SA, SB, HAW, HFR, hB, hx⟩ := hrel
    by_cases hlt : k < 2
    · have g2 : (k : Int) < 2 := by omega
      have g3 : (0 : Int) ≤ (k : Int) := by omega
      have hF : (BitVec.ofNat 64 (k + 1)).toNat = k + 1 := by rw [BitVec.toNat_ofNat]; omega
      have CW := hide (fun W (h : Tab W) => word_any true false false false false false false false false false false false (BitVec.ofNat 64 (k + 1)) W h)
      have CR := hide (fun W => rword_any true false false false false false false false false false false false (BitVec.ofNat 64 (k + 1)) W)
      have CS := hide (fun W h => store_w (by omega : k < 8) (by omega : 0 < 512) (by omega : 8 ≤ 64) (setD k).word (w.heap.size + 1 + 1) (w.heap.size + 1) (laidM (setupL k)) W h)
      have CQ := hide (fun W x y => rstore_any sa na ca sb nb cb (laidR (setupL k)) (k * 4096 + 8 * 0) (setD k).word (by omega) (by omega) (by rw [laidR_length, setupL_length]; omega) W x y)
      have ME := laidM_add (setupL k) (setD k)
      have RE := laidR_add (setupL k) (setD k)
      rw [setD_page k hlt, setD_idx] at ME RE
      have HME := hide ME
      have HRE := hide RE
      clear ME RE
      rw [← word_is, show (wk (bs true false false false false false false false false false false false) (BitVec.ofNat 64 (k + 1)) 12) = (setD k).word from rfl] at CR
      rw [show (wk (bs true false false false false false false false false false false false) (BitVec.ofNat 64 (k + 1)) 12) = (setD k).word from rfl] at CW
      have p3 : IntKind.u64.wrap (k : Int) = (k : Int) := by rw [IntKind.wrap_u64]; omega
      have p5 : IntKind.u64.wrap ((k : Int) * 4096) = ((k * 4096 + 8 * 0 : Nat) : Int) := by rw [IntKind.wrap_u64]; omega
      have p6 : IntKind.i64.wrap ((k : Int) + 1) = ((BitVec.ofNat 64 (k + 1)).toNat : Int) := by rw [hF, IntKind.wrap_i64]; omega
      have p8 : RowKit.wrap64 ((k : Int) + 1) = ((BitVec.ofNat 64 (k + 1)).toNat : Int) := by rw [hF]; unfold RowKit.wrap64; omega
      have p7 : IntKind.u64.wrap ((BitVec.ofNat 64 (k + 1)).toNat : Int) = ((BitVec.ofNat 64 (k + 1)).toNat : Int) := by rw [hF, IntKind.wrap_u64]; omega
      have hK1 : ((BitVec.ofNat 64 (k + 1)).toNat : Int) = ((k + 1 : Nat) : Int) := by rw [hF]
      have HK1 := hide hK1
      clear hF hK1
      generalize ((BitVec.ofNat 64 (k + 1)).toNat : Int) = K1 at *
      generalize ((k * 4096 + 8 * 0 : Nat) : Int) = A at *
      generalize ((setD k).word.toNat : Int) = V at *
      go_upto_region 8 with (first | (go_at_call 12; (with_reducible refine (CW.out _ ?_).mono ?_); (refine hT.behind ?_; repeat (with_reducible first | assumption | exact Below.refl _ _ | refine Below.drew ?_ | refine below_drewN ?_ _ | refine bw_alloc ?_ _ | (refine bw_set ?_ ?_ _; focus (dsimp only; omega)) | (apply bw_behind; assumption))); rintro e w4 ⟨rfl, hb4⟩; obtain ⟨hr4, hh4, m4, hs4⟩ := bl_all hb4) | (go_at_call 11; (with_reducible refine (CS.out _ ?_).mono ?_); (focus (have hMw := HM.out; repeat (with_reducible first | assumption | refine mw_dr _ ?_ | refine mw_d1 ?_ | refine mw_al _ ?_ | (apply mw_be; assumption)))); rintro e w5 ⟨rfl, hM5, ho5⟩))
      refine wp_abs (fun W => MemW W (w.heap.size + 1 + 1) (w.heap.size + 1) 8 (putM (laidM (setupL k)) k 0 (setD k).word) /\ Sl W sa na ca (numA (laidR (setupL k))) /\ Sl W sb nb cb (numV (laidR (setupL k))) /\ Own W bx 4 /\ Own W w.heap.size 4 /\ Below w.heap.size w W /\ W.cell? ⟨bx, 0, none⟩ = some (.int .i64 8) /\ W.cell? ⟨bx, 1, none⟩ = some (.slice sa na ca) /\ W.cell? ⟨bx, 2, none⟩ = some (.slice sb nb cb) /\ W.cell? ⟨bx, 3, none⟩ = some (.slice none 0 0) /\ W.frozen? ⟨bx, 0, none⟩ = false /\ W.frozen? ⟨bx, 1, none⟩ = false /\ W.frozen? ⟨bx, 2, none⟩ = false /\ W.frozen? ⟨bx, 3, none⟩ = false /\ W.cell? ⟨wr.heap.size, 0, none⟩ = some (.bool true) /\ W.cell? ⟨wr.heap.size, 1, none⟩ = some (.bool false) /\ W.cell? ⟨wr.heap.size, 2, none⟩ = some (.bool false) /\ W.cell? ⟨wr.heap.size, 3, none⟩ = some (.bool false) /\ W.cell? ⟨wr.heap.size, 4, none⟩ = some (.bool false) /\ W.cell? ⟨wr.heap.size, 5, none⟩ = some (.bool false) /\ W.cell? ⟨wr.heap.size, 6, none⟩ = some (.bool false) /\ W.cell? ⟨wr.heap.size, 7, none⟩ = some (.bool false) /\ W.cell? ⟨wr.heap.size, 8, none⟩ = some (.bool false) /\ W.cell? ⟨wr.heap.size, 9, none⟩ = some (.bool false) /\ W.cell? ⟨wr.heap.size, 10, none⟩ = some (.bool false) /\ W.cell? ⟨wr.heap.size, 11, none⟩ = some (.bool false) /\ W.cell? ⟨wr.heap.size, 12, none⟩ = some (.int .u64 K1)) ?_ ?_
      · obtain ⟨_, _, v3, _, _, v6⟩ := HAW.out
        have hzr : w.heap.size + 2 < wr.heap.size := by omega
        refine ⟨?_, ?_, ?_, ?_, ?_, ?_, ?_, ?_, ?_, ?_, ?_, ?_, ?_, ?_, ?_, ?_, ?_, ?_, ?_, ?_, ?_, ?_, ?_, ?_, ?_, ?_, ?_⟩
        · exact hM5
        · refine sl_out ho5 v3 ?_
          have s4 := SA.out
          repeat (with_reducible first | assumption | (apply sl_be; assumption) | refine sl_dr _ ?_ | refine sl_d1 ?_ | refine sl_al _ ?_)
        · refine sl_out ho5 v6 ?_
          have s4 := SB.out
          repeat (with_reducible first | assumption | (apply sl_be; assumption) | refine sl_dr _ ?_ | refine sl_d1 ?_ | refine sl_al _ ?_)
        · refine own_out ho5 (by omega) ?_
          repeat (first | (with_reducible first | assumption | refine o_dr _ ?_ | refine o_d1 ?_ | refine o_set ?_) | (with_reducible refine o_new ?_ ?_; (focus (simp)); (focus (simp))) | (with_reducible first | refine o_al _ ?_ | (apply o_be; assumption)))
        · refine own_out ho5 (by omega) ?_
          repeat (first | (with_reducible first | assumption | refine o_dr _ ?_ | refine o_d1 ?_ | refine o_set ?_) | (with_reducible refine o_new ?_ ?_; (focus (simp)); (focus (simp))) | (with_reducible first | refine o_al _ ?_ | (apply o_be; assumption)))
        · have f4 : Below w.heap.size w w4 := by
            repeat (with_reducible first | assumption | exact Below.refl _ _ | refine Below.drew ?_ | refine below_drewN ?_ _ | refine bw_alloc ?_ _ | (refine bw_set ?_ ?_ _; focus (dsimp only; omega)) | (apply bw_behind; assumption))
          exact f4.trans (ho5.below (by omega) (by have := f4.size; omega))
        iterate 4 (refine ho5.reads (by dsimp only; omega) ?_; focus (repeat (with_reducible first | assumption | refine c_dr _ ?_ | refine c_d1 ?_ | refine c_al _ ?_ | (refine c_set ?_ ?_; focus (dsimp only; omega)) | (apply c_be; assumption))))
        iterate 4 (refine Own.free (k := 4) (own_out ho5 (by omega) ?_) _ (by omega); focus (repeat (first | (with_reducible first | assumption | refine o_dr _ ?_ | refine o_d1 ?_ | refine o_set ?_) | (with_reducible refine o_new ?_ ?_; (focus (simp)); (focus (simp))) | (with_reducible first | refine o_al _ ?_ | (apply o_be; assumption)))))
        all_goals refine ho5.reads (by dsimp only; omega) ?_
        all_goals (first | ((repeat (with_reducible first | assumption | refine c_dr _ ?_ | refine c_d1 ?_ | refine c_al _ ?_ | (refine c_set ?_ ?_; focus (dsimp only; omega)) | (apply c_be; assumption))); done) | (simp [go_sem, *]; done))
      rintro w6 ⟨hM6, sA6, sB6, oB6, oR6, hB6, q0, q1, q2, q3, z0, z1, z2, z3, a0, a1, a2, a3, a4, a5, a6, a7, a8, a9, a10, a11, a12⟩
      clear hM5 ho5 hb4 hr4 hh4 hs4 m4 w5 w4
      have t6 : ltB bx w6.heap.size = true := decide_eq_true (World.block_lt_of_cell? w6 _ q0)
      have t7 : ltB wr.heap.size w6.heap.size = true := decide_eq_true (World.block_lt_of_cell? w6 _ a0)
      have heb : bx < wr.heap.size := hx
      clear oB oR hB
      generalize wr.heap.size = eb at *
      go_region_with (first | (go_at_call 14; (with_reducible refine (CR.out _).mono ?_); rintro e w7 ⟨rfl, hb7⟩; have hr7 := below_reads hb7; have hh7 := below_holds hb7; have hq7 := ltB_be (b := bx) hb7 (by first | assumption | (simp; assumption))) | (go_at_call 13; (with_reducible refine (CQ.out _ (by repeat (with_reducible first | assumption | (apply sl_be; assumption) | refine sl_dr _ ?_ | refine sl_d1 ?_)) (by repeat (with_reducible first | assumption | (apply sl_be; assumption) | refine sl_dr _ ?_ | refine sl_d1 ?_))).mono ?_); rintro e w8 ⟨sa', na', ca', sb', nb', cb', rfl, nA, nB, hb8, nF, nG⟩; have hr8 := below_reads hb8; have hh8 := below_holds hb8; have hq8 := ltB_be (b := bx) hb8 (by first | assumption | (simp; assumption))))
      all_goals
        have hq9 : bx < w7.heap.size := of_decide_eq_true hq7
        try simp only [s_d1, s_dr] at nF nG
        have v1 : ∀ m, m ≤ bx -> Away m sa' := fun m hm g hg => by have := nF g hg; omega
        have v2 : ∀ m, m ≤ bx -> Away m sb' := fun m hm g hg => by have := nG g hg; omega
        have fr1 : From w.heap.size sa' := fun g hg => by have := nF g hg; omega
        have fr2 : From w.heap.size sb' := fun g hg => by have := nG g hg; omega
        go_wp2
        go_roundw
        case rel =>
          refine ⟨k + 1, sa', na', ca', sb', nb', cb', by omega, by rw [HK1.out], ?_, ?_, ?_, ?_, ?_, ?_, ?_, ?_, ?_, ⟨v1 _ (by omega), v1 _ (by omega), v1 _ (by omega), v2 _ (by omega), v2 _ (by omega), v2 _ (by omega)⟩, ⟨fr1, fr2⟩, ?_, ?_⟩
          · rw [setupL, HME.out]
            refine hide ?_
            repeat (with_reducible first | assumption | refine mw_dr _ ?_ | refine mw_d1 ?_ | refine mw_al _ ?_ | (apply mw_be; assumption) | (refine mw_set ?_ ?_ ?_; (focus (dsimp only; omega)); (focus (dsimp only; omega))))
          · iterate 4 (first | (refine set_at (k := 4) ?_ (by omega) ?_; (focus (repeat (first | (with_reducible first | assumption | refine o_dr _ ?_ | refine o_d1 ?_ | refine o_set ?_) | (with_reducible refine o_new ?_ ?_; (focus (simp)); (focus (simp))) | (with_reducible first | refine o_al _ ?_ | (apply o_be; assumption))))); (first | (rw [if_pos rfl]; done) | rw [if_neg (by omega)])) | skip)
          · iterate 4 (first | (refine set_at (k := 4) ?_ (by omega) ?_; (focus (repeat (first | (with_reducible first | assumption | refine o_dr _ ?_ | refine o_d1 ?_ | refine o_set ?_) | (with_reducible refine o_new ?_ ?_; (focus (simp)); (focus (simp))) | (with_reducible first | refine o_al _ ?_ | (apply o_be; assumption))))); (first | (rw [if_pos rfl]; done) | rw [if_neg (by omega)])) | skip)
          · iterate 4 (first | (refine set_at (k := 4) ?_ (by omega) ?_; (focus (repeat (first | (with_reducible first | assumption | refine o_dr _ ?_ | refine o_d1 ?_ | refine o_set ?_) | (with_reducible refine o_new ?_ ?_; (focus (simp)); (focus (simp))) | (with_reducible first | refine o_al _ ?_ | (apply o_be; assumption))))); (first | (rw [if_pos rfl]; done) | rw [if_neg (by omega)])) | skip)
          · iterate 4 (first | (refine set_at (k := 4) ?_ (by omega) ?_; (focus (repeat (first | (with_reducible first | assumption | refine o_dr _ ?_ | refine o_d1 ?_ | refine o_set ?_) | (with_reducible refine o_new ?_ ?_; (focus (simp)); (focus (simp))) | (with_reducible first | refine o_al _ ?_ | (apply o_be; assumption))))); (first | (rw [if_pos rfl]; done) | rw [if_neg (by omega)])) | skip)
          · repeat (first | (with_reducible first | assumption | refine o_dr _ ?_ | refine o_d1 ?_ | refine o_set ?_) | (with_reducible refine o_new ?_ ?_; (focus (simp)); (focus (simp))) | (with_reducible first | refine o_al _ ?_ | (apply o_be; assumption)))
          · repeat (first | (with_reducible first | assumption | refine o_dr _ ?_ | refine o_d1 ?_ | refine o_set ?_) | (with_reducible refine o_new ?_ ?_; (focus (simp)); (focus (simp))) | (with_reducible first | refine o_al _ ?_ | (apply o_be; assumption)))
          · rw [setupL, HRE.out]
            exact hide (sl_set (sl_set (sl_set (sl_set nA (v1 bx (by omega))) (v1 bx (by omega))) (v1 bx (by omega))) (v1 bx (by omega)))
          · rw [setupL, HRE.out]
            exact hide (sl_set (sl_set (sl_set (sl_set nB (v2 bx (by omega))) (v2 bx (by omega))) (v2 bx (by omega))) (v2 bx (by omega)))
          · repeat (with_reducible first | assumption | exact Below.refl _ _ | refine Below.drew ?_ | refine below_drewN ?_ _ | refine bw_alloc ?_ _ | (refine bw_set ?_ ?_ _; focus (dsimp only; omega)) | (apply bw_behind; assumption))
          · simp only [s_set]
            exact of_decide_eq_true hq8
        case measure => (have hK := HK1.out); simp [intOf]; omega
    · obtain rfl : k = 2 := by omega
      have f0 := oR.free 0 (by omega)
      have f1 := oR.free 1 (by omega)
      have f2 := oR.free 2 (by omega)
      have f3 := oR.free 3 (by omega)
      obtain ⟨u0, v0⟩ := oR.val 0 (by omega)
      obtain ⟨u1, v1⟩ := oR.val 1 (by omega)
      obtain ⟨u2, v2⟩ := oR.val 2 (by omega)
      obtain ⟨u3, v3⟩ := oR.val 3 (by omega)
      have hne : (bx == w.heap.size) = false := by simp; omega
      go_wp2
      go_region
      go_wp2
      refine bodyPost_ret (v := .tuple #[.pointer (some ⟨w.heap.size + 1 + 1, 0, none⟩), .agg #[.int .i64 8, .slice sa na ca, .slice sb nb cb, .slice none 0 0]]) (by simp (maxDischargeDepth := 4) [results, Tryd.results6, go_sem, *]) rfl ?_
      refine ⟨w.heap.size + 1 + 1, w.heap.size + 1, sa, na, ca, sb, nb, cb, rfl, ⟨?_, ?_, ?_, ?_, by omega, by omega, HFR.out.1, HFR.out.2⟩, HAW.out.2.2.1, HAW.out.2.2.2.2.2⟩
      · have hMw := HM.out
        repeat (with_reducible first | assumption | refine mw_dr _ ?_ | refine mw_d1 ?_ | refine mw_al _ ?_ | (apply mw_be; assumption) | (refine mw_set ?_ ?_ ?_; (focus (dsimp only; omega)); (focus (dsimp only; omega))))
      · exact sl_set (sl_set (sl_set (sl_set SA.out HAW.out.2.1) HAW.out.2.1) HAW.out.2.1) HAW.out.2.1
      · exact sl_set (sl_set (sl_set (sl_set SB.out HAW.out.2.2.2.2.1) HAW.out.2.2.2.2.1) HAW.out.2.2.2.2.1) HAW.out.2.2.2.2.1
      · repeat (with_reducible first | assumption | exact Below.refl _ _ | refine Below.drew ?_ | refine below_drewN ?_ _ | refine bw_alloc ?_ _ | (refine bw_set ?_ ?_ _; focus (dsimp only; omega)) | (apply bw_behind; assumption))
theorem setup_any (w : World) (hT : Tab w) : Calls Tryd.prog 6 #[] w (fun e W' => ∃ R K sa na ca sb nb cb, e = .returned (.tuple #[.pointer (some ⟨R, 0, none⟩), .agg #[.int .i64 8, .slice sa na ca, .slice sb nb cb, .slice none 0 0]]) /\ OutM w W' R K sa na ca sb nb cb (setupL 2)) := by
  refine (setup_away w hT).mono ?_
  rintro e W' ⟨R, K, sa, na, ca, sb, nb, cb, h1, h2, _⟩
  exact ⟨R, K, sa, na, ca, sb, nb, cb, h1, h2⟩
end Go.Proofs.YtkajndonefkegaaDoor
