/-
  MmuPlays holds: for every l the law returns true, and turns nothing that was there, where the table of places holds what the program's text lays.
-/
import Derived.Test.YtkajndonefkegaaDoorMmuWayA
import Derived.Test.YtkajndonefkegaaDoorMmuWayB
import Derived.Test.YtkajndonefkegaaDoorMmuWayC
import Derived.Test.YtkajndonefkegaaDoorMmuWayD
import Derived.Deep.CutBlock
import Derived.Deep.DeepCutAuto
import Derived.BigQuiet
set_option maxRecDepth 100000
set_option maxHeartbeats 64000000
namespace Go.Proofs.YtkajndonefkegaaDoor.MmuPlays
open Go.RowKit Words FieldMath PteMath

theorem ways (s : Ltr) (hi : In s) : WayGoal s := by
  by_cases k0 : s.DK = 0
  · exact way0 s hi k0
  by_cases k1 : s.DK = 1
  · exact way1 s hi k1
  by_cases k2 : s.DK = 2
  · exact way2 s hi k2
  by_cases k3 : s.DK = 3
  · exact way3 s hi k3
  by_cases k4 : s.DK = 4
  · exact way4 s hi k4
  by_cases k5 : s.DK = 5
  · exact way5 s hi k5
  by_cases k6 : s.DK = 6
  · exact way6 s hi k6
  by_cases k7 : s.DK = 7
  · exact way7 s hi k7
  by_cases k8 : s.DK = 8
  · exact way8 s hi k8
  exact wayx s hi ⟨by simpa using k0, by simpa using k1, by simpa using k2, by simpa using k3, by simpa using k4, by simpa using k5, by simpa using k6, by simpa using k7, by simpa using k8⟩

theorem walk (v : Value) (l : List ActD) (w : World) (hT : Tab w) (hl : IsActs w l v) : Calls Tryd.prog 3 #[v] w (Makes (.bool true) w) := by
  obtain ⟨SS, LB', LS, LA', LH⟩ := rules5
  obtain ⟨s, cap, rfl, hcell⟩ := acts_form hl
  obtain ⟨Z0, hz0, hl0⟩ := unit_zero
  have hZ0s : Z0.size = 135 := by rw [← Array.length_toList, hl0, unitC_length]
  have hZu : ∀ (W : World) (t : TypeId), UnitAt W.heap.size (fun _ => []) 0 0 false (W.alloc (.cells Z0 t)) := fun W t => unit_of_row (row_all hl0) (o_new rfl (by omega))
  have CSE := hide (fun W h => setup_away W h)
  have CO := hide (fun W h => one_any W h)
  have HCL := hide hcell
  clear hcell hl
  go_enter Tryd.func3, Tryd.ntmps3
  go_upto_region 4 with (first | (go_at_call 6; (with_reducible refine (CSE.out _ ?_).mono ?_); (focus (refine hT.behind ?_; repeat (with_reducible first | assumption | exact Below.refl _ _ | refine Below.drew ?_ | refine below_drewN ?_ _ | refine bw_alloc ?_ _ | (refine bw_set ?_ ?_ _; focus (dsimp only; omega)) | (apply bw_behind; assumption)))); rintro e ws ⟨R, KB, sa, na, ca, sb, nb, cb, rfl, ⟨hMs, hSa, hSb, hbs, hRw, hKw, hFa, hFb⟩, hA1, hA2⟩; obtain ⟨hrs, hhs, ms, hss⟩ := bl_all hbs))
  have hsz : ws.heap.size = w.heap.size + ms := hss
  have hKs := hMs.herek (by omega)
  have hRs := hMs.hereR
  refine wp_abs (fun W => MemW W R KB 8 (laidM (setupL 2)) /\ UnitAt (w.heap.size + ms + 1) (keptM (gE ([])) (fun _ => [])) 0 0 false W /\ DocAt W (w.heap.size + ms + 1 + 1 + 1) (Blk KB (w.heap.size + ms + 1) (w.heap.size + ms) (w.heap.size + ms + 1 + 1)) none 0 0 none 0 0 sa na ca sb nb cb (setupL 2) (fun _ => []) [] /\ W.cell? ⟨w.heap.size + ms + 1 + 1, 0, none⟩ = some (.slice none 0 0) /\ W.cell? ⟨w.heap.size + ms + 1 + 1, 1, none⟩ = some (.slice none 0 0) /\ W.cell? ⟨w.heap.size + ms + 1 + 1, 2, none⟩ = some (.int .u64 0) /\ W.cell? ⟨w.heap.size + ms + 1 + 1, 3, none⟩ = some (.int .u64 0) /\ W.cell? ⟨w.heap.size + ms + 1 + 1, 4, none⟩ = some (.bool false) /\ W.cell? ⟨w.heap.size + ms, 0, none⟩ = some (.int .i64 8) /\ W.cell? ⟨w.heap.size + ms, 1, none⟩ = some (.slice sa na ca) /\ W.cell? ⟨w.heap.size + ms, 2, none⟩ = some (.slice sb nb cb) /\ W.cell? ⟨w.heap.size + ms, 3, none⟩ = some (.slice none 0 0) /\ Own W (w.heap.size + ms + 1 + 1) 5 /\ Own W (w.heap.size + ms) 4 /\ Below w.heap.size w W /\ (w.heap.size + ms + 1 + 1) < W.heap.size) ?_ ?_
  · refine ⟨?_, ?_, ?_, ?_, ?_, ?_, ?_, ?_, ?_, ?_, ?_, ?_, ?_, ?_, ?_, ?_⟩
    · refine mw_be (W := ws) ?_ hMs; repeat (with_reducible first | assumption | exact Below.refl _ _ | refine Below.drew ?_ | refine below_drewN ?_ _ | refine bw_alloc ?_ _ | (refine bw_set ?_ ?_ _; focus (dsimp only; omega)) | (apply bw_behind; assumption) | (refine bw_sc _ ?_ ?_; focus omega))
    · (refine un_al _ ?_; generalize hW1 : ws.alloc _ = W1; have e1 : w.heap.size + ms + 1 = W1.heap.size := by rw [← hW1, size_al, hsz]); rw [e1]; exact hZu W1 _
    · exact ⟨rb_nil _ _, ez_rb_nil _ _, sl_be (W := ws) (by repeat (with_reducible first | assumption | exact Below.refl _ _ | refine Below.drew ?_ | refine below_drewN ?_ _ | refine bw_alloc ?_ _ | (refine bw_set ?_ ?_ _; focus (dsimp only; omega)) | (apply bw_behind; assumption) | (refine bw_sc _ ?_ ?_; focus omega))) hSa, sl_be (W := ws) (by repeat (with_reducible first | assumption | exact Below.refl _ _ | refine Below.drew ?_ | refine below_drewN ?_ _ | refine bw_alloc ?_ _ | (refine bw_set ?_ ?_ _; focus (dsimp only; omega)) | (apply bw_behind; assumption) | (refine bw_sc _ ?_ ?_; focus omega))) hSb, fun g hg => ⟨hA1 g hg, hSa.old (m := w.heap.size + ms + 1) (by omega) g hg, hSa.old (m := w.heap.size + ms) (by omega) g hg, hSa.old (m := w.heap.size + ms + 1 + 1) (by omega) g hg⟩, fun g hg => ⟨hA2 g hg, hSb.old (m := w.heap.size + ms + 1) (by omega) g hg, hSb.old (m := w.heap.size + ms) (by omega) g hg, hSb.old (m := w.heap.size + ms + 1 + 1) (by omega) g hg⟩⟩
    · first | ((repeat (with_reducible first | assumption | refine c_dr _ ?_ | refine c_d1 ?_ | refine c_al _ ?_ | (refine c_set ?_ ?_; focus (dsimp only; omega)) | (apply c_be; assumption) | (refine c_sc ?_ ?_; focus (dsimp only; omega)))); done) | (simp [go_sem, *]; done)
    · first | ((repeat (with_reducible first | assumption | refine c_dr _ ?_ | refine c_d1 ?_ | refine c_al _ ?_ | (refine c_set ?_ ?_; focus (dsimp only; omega)) | (apply c_be; assumption) | (refine c_sc ?_ ?_; focus (dsimp only; omega)))); done) | (simp [go_sem, *]; done)
    · first | ((repeat (with_reducible first | assumption | refine c_dr _ ?_ | refine c_d1 ?_ | refine c_al _ ?_ | (refine c_set ?_ ?_; focus (dsimp only; omega)) | (apply c_be; assumption) | (refine c_sc ?_ ?_; focus (dsimp only; omega)))); done) | (simp [go_sem, *]; done)
    · first | ((repeat (with_reducible first | assumption | refine c_dr _ ?_ | refine c_d1 ?_ | refine c_al _ ?_ | (refine c_set ?_ ?_; focus (dsimp only; omega)) | (apply c_be; assumption) | (refine c_sc ?_ ?_; focus (dsimp only; omega)))); done) | (simp [go_sem, *]; done)
    · first | ((repeat (with_reducible first | assumption | refine c_dr _ ?_ | refine c_d1 ?_ | refine c_al _ ?_ | (refine c_set ?_ ?_; focus (dsimp only; omega)) | (apply c_be; assumption) | (refine c_sc ?_ ?_; focus (dsimp only; omega)))); done) | (simp [go_sem, *]; done)
    · first | ((repeat (with_reducible first | assumption | refine c_dr _ ?_ | refine c_d1 ?_ | refine c_al _ ?_ | (refine c_set ?_ ?_; focus (dsimp only; omega)) | (apply c_be; assumption) | (refine c_sc ?_ ?_; focus (dsimp only; omega)))); done) | (simp [go_sem, *]; done)
    · first | ((repeat (with_reducible first | assumption | refine c_dr _ ?_ | refine c_d1 ?_ | refine c_al _ ?_ | (refine c_set ?_ ?_; focus (dsimp only; omega)) | (apply c_be; assumption) | (refine c_sc ?_ ?_; focus (dsimp only; omega)))); done) | (simp [go_sem, *]; done)
    · first | ((repeat (with_reducible first | assumption | refine c_dr _ ?_ | refine c_d1 ?_ | refine c_al _ ?_ | (refine c_set ?_ ?_; focus (dsimp only; omega)) | (apply c_be; assumption) | (refine c_sc ?_ ?_; focus (dsimp only; omega)))); done) | (simp [go_sem, *]; done)
    · first | ((repeat (with_reducible first | assumption | refine c_dr _ ?_ | refine c_d1 ?_ | refine c_al _ ?_ | (refine c_set ?_ ?_; focus (dsimp only; omega)) | (apply c_be; assumption) | (refine c_sc ?_ ?_; focus (dsimp only; omega)))); done) | (simp [go_sem, *]; done)
    · repeat (first | (with_reducible first | assumption | refine o_dr _ ?_ | refine o_d1 ?_ | refine o_set ?_) | (with_reducible refine o_new ?_ ?_; (focus (simp)); (focus (simp))) | (with_reducible refine o_new ?_ ?_; (focus (simp [*]; done)); (focus (simp))) | (with_reducible refine o_new ?_ ?_; (focus (simp [*]; omega)); (focus (simp))) | (with_reducible first | refine o_sc ?_ | refine o_al _ ?_ | (apply o_be; assumption)))
    · repeat (first | (with_reducible first | assumption | refine o_dr _ ?_ | refine o_d1 ?_ | refine o_set ?_) | (with_reducible refine o_new ?_ ?_; (focus (simp)); (focus (simp))) | (with_reducible refine o_new ?_ ?_; (focus (simp [*]; done)); (focus (simp))) | (with_reducible refine o_new ?_ ?_; (focus (simp [*]; omega)); (focus (simp))) | (with_reducible first | refine o_sc ?_ | refine o_al _ ?_ | (apply o_be; assumption)))
    · repeat (with_reducible first | assumption | exact Below.refl _ _ | refine Below.drew ?_ | refine below_drewN ?_ _ | refine bw_alloc ?_ _ | (refine bw_set ?_ ?_ _; focus (dsimp only; omega)) | (apply bw_behind; assumption) | (refine bw_sc _ ?_ ?_; focus omega))
    · first | (simp [go_sem, *]; done) | (simp [go_sem, *]; omega)
  rintro w0 ⟨hM0, hU0, hD0, x0_0, x0_1, x0_2, x0_3, x0_4, m0_0, m0_1, m0_2, m0_3, ox0, om0, hB0, hs0⟩
  have hm0 : KB < w.heap.size + ms /\ R < w.heap.size + ms := ⟨by omega, by omega⟩
  have hw0 : w.heap.size ≤ w.heap.size + ms := by omega
  clear hMs hSa hSb hbs hrs hhs hss hsz hKs hRs hFa hFb hA1 hA2
  generalize w.heap.size + ms = mb at *
  have hlt1 : mb < mb + 1 := by omega
  have hlt2 : mb + 1 < mb + 1 + 1 := by omega
  have hlt3 : mb + 1 + 1 < mb + 1 + 1 + 1 := by omega
  have hlt4 : mb + 1 + 1 + 1 < mb + 1 + 1 + 2 := by omega
  generalize mb + 1 + 1 + 1 = bq at *
  generalize mb + 1 + 1 = xb at *
  generalize mb + 1 = N at *
  have nNK : N ≠ KB := by omega
  have nNR : N ≠ R := by omega
  have CGA := hide (fun (M : Nat -> List Ln) W h => lines_any N M W h)
  go_wp2_with fail
  go_loopw [7] (fun i wr => ∃ (k : Nat) (ls : List LayD) (K : Nat -> List (LnX Int)) (E : List Fd) (A : Int) (G : Bool) (s1 : Option Addr) (n1 q1 : Nat) (s2 : Option Addr) (n2 q2 : Nat) (sa : Option Addr) (na ca : Nat) (sb : Option Addr) (nb cb : Nat), k ≤ l.length /\ k ≤ 60 /\ i = .int .i64 (k : Int) /\ MemW wr R KB 8 (laidM ls) /\ UnitAt N (keptM (gE E) K) 0 A G wr /\ Hid (Kept ls K E k) /\ Hid (Wf A) /\ DocAt wr bq (Blk KB N mb xb) s1 n1 q1 s2 n2 q2 sa na ca sb nb cb ls K E /\ wr.cell? ⟨xb, 0, none⟩ = some (.slice s1 n1 q1) /\ wr.cell? ⟨xb, 1, none⟩ = some (.slice s2 n2 q2) /\ wr.cell? ⟨xb, 2, none⟩ = some (.int .u64 0) /\ wr.cell? ⟨xb, 3, none⟩ = some (.int .u64 A) /\ wr.cell? ⟨xb, 4, none⟩ = some (.bool G) /\ wr.cell? ⟨mb, 0, none⟩ = some (.int .i64 8) /\ wr.cell? ⟨mb, 1, none⟩ = some (.slice sa na ca) /\ wr.cell? ⟨mb, 2, none⟩ = some (.slice sb nb cb) /\ wr.cell? ⟨mb, 3, none⟩ = some (.slice none 0 0) /\ Own wr xb 5 /\ Own wr mb 4 /\ Below w.heap.size w wr /\ xb < wr.heap.size) (fun i _ => 60 - (intOf i).toNat)
  case atStart =>
    exact ⟨0, setupL 2, fun _ => [], [], 0, false, none, 0, 0, none, 0, 0, sa, na, ca, sb, nb, cb, by omega, by omega, rfl, hM0, hU0, hide kept_start, hide ⟨by omega, by omega⟩, hD0, x0_0, x0_1, x0_2, x0_3, x0_4, m0_0, m0_1, m0_2, m0_3, ox0, om0, hB0, hs0⟩
  case round =>
    clear hM0 hU0 hD0 x0_0 x0_1 x0_2 x0_3 x0_4 m0_0 m0_1 m0_2 m0_3 ox0 om0 hB0 hs0
    obtain ⟨k, ls, K, E, A, G, s1, n1, q1, s2, n2, q2, sa, na, ca, sb, nb, cb, hk, hk60, rfl, hM, hU, HK, HA, hD, x_0, x_1, x_2, x_3, x_4, m_0, m_1, m_2, m_3, ox, om, hB, hs⟩ := hrel
    by_cases hlt : k < l.length /\ k < 60
    · obtain ⟨hk1, hk2⟩ := hlt
      obtain ⟨d, hd⟩ : ∃ d, l[k]? = some d := ⟨_, List.getElem?_eq_getElem hk1⟩
      obtain ⟨b, off, rfl, hc⟩ := HCL.out k d hd
      obtain ⟨DK, DW, DN, v, DT, b0, b1, b2, b3, b4, b5, b6, b7, b8, b9, b10, b11, Fb⟩ := d
      have HC0 : wr.rangeAt b (off + k * 18) [.int .i64 DK, .int .i64 DW, .int .i64 DN, .int .u64 (v.toNat : Int), .bool DT, .bool b0, .bool b1, .bool b2, .bool b3, .bool b4, .bool b5, .bool b6, .bool b7, .bool b8, .bool b9, .bool b10, .bool b11, .int .u64 (Fb.toNat : Int)] := fun j u hu => c_be hB (hc j u hu)
      have g1 : (k : Int) < (l.length : Int) := by omega
      have g2 : (k : Int) < 60 := by omega
      have g3 : (0 : Int) ≤ (k : Int) := by omega
      clear hc hd
      obtain ⟨VN, hVN⟩ : ∃ VN : Int, ((v.toNat / 4096 : Nat) : Int) = VN := ⟨_, rfl⟩
      obtain ⟨DV, hDV⟩ : ∃ DV : Int, (v.toNat : Int) = DV := ⟨_, rfl⟩
      obtain ⟨DF, hDF⟩ : ∃ DF : Int, (Fb.toNat : Int) = DF := ⟨_, rfl⟩
      have vn1 : DV.tdiv 4096 = VN := by rw [Int.tdiv_eq_ediv_of_nonneg (by omega)]; omega
      have vn2 : DV / 4096 = VN := by omega
      have vn3 : IntKind.u64.wrap VN = VN := by rw [IntKind.wrap_u64]; have := v.isLt; omega
      have HV := hide hDV
      have HF := hide hDF
      rw [hDV, hDF] at HC0
      have HC := hide HC0
      clear hVN hDV hDF HC0
      go_upto_region 8 with (first | ((refine wpList_load_mid rfl 50 _ rfl b (off + k * 18) rfl [.int .i64 DK, .int .i64 DW, .int .i64 DN, .int .u64 DV, .bool DT, .bool b0, .bool b1, .bool b2, .bool b3, .bool b4, .bool b5, .bool b6, .bool b7, .bool b8, .bool b9, .bool b10, .bool b11, .int .u64 DF] _ HC.out struct_act rfl infoAct ?_)) | ((refine wpList_store_row rfl 50 _ _ rfl (wr.heap.size) 18 _ rfl rfl rfl ?_ infoAct ?_ ?_); (focus (exact o_new rfl (by decide))); (focus (simp [Value.oneCell'])); intro wu hru hbu _ _ _))
      have hzu : Below wr.heap.size wr wu := (below_alloc (Below.refl _ _) (Nat.le_refl _) _).trans hbu
      refine wp_abs (fun W => Below wr.heap.size wr W /\ W.cell? ⟨wr.heap.size, 0, none⟩ = some (.int .i64 DK) /\ W.cell? ⟨wr.heap.size, 1, none⟩ = some (.int .i64 DW) /\ W.cell? ⟨wr.heap.size, 2, none⟩ = some (.int .i64 DN) /\ W.cell? ⟨wr.heap.size, 3, none⟩ = some (.int .u64 DV) /\ W.cell? ⟨wr.heap.size, 4, none⟩ = some (.bool DT) /\ W.cell? ⟨wr.heap.size, 5, none⟩ = some (.bool b0) /\ W.cell? ⟨wr.heap.size, 6, none⟩ = some (.bool b1) /\ W.cell? ⟨wr.heap.size, 7, none⟩ = some (.bool b2) /\ W.cell? ⟨wr.heap.size, 8, none⟩ = some (.bool b3) /\ W.cell? ⟨wr.heap.size, 9, none⟩ = some (.bool b4) /\ W.cell? ⟨wr.heap.size, 10, none⟩ = some (.bool b5) /\ W.cell? ⟨wr.heap.size, 11, none⟩ = some (.bool b6) /\ W.cell? ⟨wr.heap.size, 12, none⟩ = some (.bool b7) /\ W.cell? ⟨wr.heap.size, 13, none⟩ = some (.bool b8) /\ W.cell? ⟨wr.heap.size, 14, none⟩ = some (.bool b9) /\ W.cell? ⟨wr.heap.size, 15, none⟩ = some (.bool b10) /\ W.cell? ⟨wr.heap.size, 16, none⟩ = some (.bool b11) /\ W.cell? ⟨wr.heap.size, 17, none⟩ = some (.int .u64 DF)) ?_ ?_
      · refine ⟨?_, ?_, ?_, ?_, ?_, ?_, ?_, ?_, ?_, ?_, ?_, ?_, ?_, ?_, ?_, ?_, ?_, ?_, ?_⟩
        · repeat (with_reducible first | assumption | exact Below.refl _ _ | refine Below.drew ?_ | refine below_drewN ?_ _ | refine bw_alloc ?_ _ | (refine bw_set ?_ ?_ _; focus (dsimp only; omega)) | (apply bw_behind; assumption) | (refine bw_sc _ ?_ ?_; focus omega))
        · exact hru 0 _ rfl
        · exact hru 1 _ rfl
        · exact hru 2 _ rfl
        · exact hru 3 _ rfl
        · exact hru 4 _ rfl
        · exact hru 5 _ rfl
        · exact hru 6 _ rfl
        · exact hru 7 _ rfl
        · exact hru 8 _ rfl
        · exact hru 9 _ rfl
        · exact hru 10 _ rfl
        · exact hru 11 _ rfl
        · exact hru 12 _ rfl
        · exact hru 13 _ rfl
        · exact hru 14 _ rfl
        · exact hru 15 _ rfl
        · exact hru 16 _ rfl
        · exact hru 17 _ rfl
      rintro w1 ⟨hbz, a1_0, a1_1, a1_2, a1_3, a1_4, a1_5, a1_6, a1_7, a1_8, a1_9, a1_10, a1_11, a1_12, a1_13, a1_14, a1_15, a1_16, a1_17⟩
      have hM1 := mw_be hbz (hM)
      have hU1 := un_be hbz (hU)
      have hD1 := da_be hbz (hD)
      have x1_0 := c_be hbz (x_0)
      have x1_1 := c_be hbz (x_1)
      have x1_2 := c_be hbz (x_2)
      have x1_3 := c_be hbz (x_3)
      have x1_4 := c_be hbz (x_4)
      have m1_0 := c_be hbz (m_0)
      have m1_1 := c_be hbz (m_1)
      have m1_2 := c_be hbz (m_2)
      have m1_3 := c_be hbz (m_3)
      have ox1 := o_be hbz (ox)
      have om1 := o_be hbz (om)
      have hB1 := Below.trans (hB) (Below.mono hbz (Below.size (hB)))
      have hs1 := lt_be (hs) hbz
      clear hbz
      have hxa : xb < wr.heap.size := hs
      clear hM hU hD x_0 x_1 x_2 x_3 x_4 m_0 m_1 m_2 m_3 ox om hB hs HC hru hbu hzu
      generalize wr.heap.size = ab at *
      have lN1 : ltB N w1.heap.size = true := decide_eq_true (by omega)
      have lm1 : ltB mb w1.heap.size = true := decide_eq_true (by omega)
      have lx1 : ltB xb w1.heap.size = true := decide_eq_true (by omega)
      have hba1 : ab < w1.heap.size := World.block_lt_of_cell? w1 _ a1_0
      have lba1 : ltB (ab) w1.heap.size = true := decide_eq_true hba1
      have hT1 := hT.behind hB1
      go_upto_block 2 with fail
      refine ways ⟨w, w1, R, KB, mb, bq, xb, N, ab, k, ls, K, E, A, G, s1, n1, q1, s2, n2, q2, sa, na, ca, sb, nb, cb, DK, DW, DN, v, DT, b0, b1, b2, b3, b4, b5, b6, b7, b8, b9, b10, b11, Fb, VN, DV, DF⟩ ⟨hm0, hw0, hRw, hKw, hlt1, hlt2, hlt3, hlt4, nNK, nNR, hk2, HK, HA, vn1, vn2, vn3, HV, HF, hM1, hU1, hD1, x1_0, x1_1, x1_2, x1_3, x1_4, m1_0, m1_1, m1_2, m1_3, ox1, om1, hB1, hs1, a1_0, a1_1, a1_2, a1_3, a1_4, a1_5, a1_6, a1_7, a1_8, a1_9, a1_10, a1_11, a1_12, a1_13, a1_14, a1_15, a1_16, a1_17, hxa, lN1, lm1, lx1, hba1, lba1, hT1⟩ _ _ _ _ _ _ _ _ _ _ _ _ _ _ _ _ _ _ _ _ _ _ _ _ _ _ _ _ _ _ _ _ _ _ _ _ _ _ _ _ _ _ _ _ _ _ _ _ _ _ _ _ _ _ _ _ _ _ _ _ _ _ _ _ _ _ _ _ _ _ _ _ _ _ _ _ _ _ _ _ _ _ _ _ _ _ _ _ _ _ _ _ _ _ _ _ _ _ _ _ _ _ _ _ _ _ _ _ _ _ _ _ _ _ _ _ _ _ _ _ _ _ _ _ _ _ _ _ _ _ _ _ _ _ _ _ _ _ _ _ _ _ _ _ _ _ _ _ _ _ _ _ _ _ _ _ _ _ _ _ _ _ _ _ _ _ _ _ _ _ _ _ _ _ _ _ _ _ _ _ _ _ _ _ _ _ _ _ _ _ _ _ _ _ _ _ _ _ _ _ _ _ _ _ _ _ _ _ _ _ _ _ _ _ _ _ _ _ _ _ _ _ _ _ _ _ _ _ _ _ _ _ _ _ _ _ _ _ _ _ _ (hide (fun z2 z9 z10 z11 z12 z13 z14 z15 z16 z17 z18 z19 z45 z46 z47 z48 z49 z50 z51 z52 z53 z54 z55 z56 z57 z58 z59 z60 z61 z62 z63 z64 z65 z66 z67 z68 z69 z70 z71 z72 z73 z74 z75 z76 z77 z78 z79 z80 z81 z82 z83 z84 z85 z86 z87 z88 z89 z90 z91 z92 z93 z94 z95 z96 z97 z98 z99 z100 z101 z102 z103 z104 z105 z106 z107 z108 z109 z110 z111 z112 z113 z114 z115 z116 z117 z118 z119 z120 z121 z122 z123 z124 z125 z126 z127 z128 z129 z130 z131 z132 z133 z134 z135 z136 z137 z138 z139 z140 z141 z142 z143 z144 z145 z146 z147 z148 z149 z150 z151 z152 z153 z154 z155 z156 z157 z158 z159 z160 z161 z162 z163 z164 z165 z166 z167 z168 z169 z170 z171 z172 z173 z174 z175 z176 z177 z178 z179 z180 z181 z182 z183 z184 z185 z186 z187 z188 z189 z190 z191 z192 z193 z194 z195 z196 z197 z198 z199 z200 z201 z202 z203 z204 z205 z206 z207 z208 W hcut => ?_))
      clear HK HA hM1 hU1 hD1 x1_0 x1_1 x1_2 x1_3 x1_4 m1_0 m1_1 m1_2 m1_3 ox1 om1 hB1 hs1 a1_0 a1_1 a1_2 a1_3 a1_4 a1_5 a1_6 a1_7 a1_8 a1_9 a1_10 a1_11 a1_12 a1_13 a1_14 a1_15 a1_16 a1_17 lN1 lm1 lx1 hba1 lba1 hT1
      obtain ⟨ls, K, E, A, G, s1, n1, q1, s2, n2, q2, sa, na, ca, sb, nb, cb, HK2, HA2, hlim⟩ := hcut
      go_upto_region 40 with fail
      refine wp_abs (fun W => MemW W R KB 8 (laidM ls) /\ UnitAt N (keptM (gE E) K) 0 A G W /\ DocAt W bq (Blk KB N mb xb) s1 n1 q1 s2 n2 q2 sa na ca sb nb cb ls K E /\ W.cell? ⟨xb, 0, none⟩ = some (.slice s1 n1 q1) /\ W.cell? ⟨xb, 1, none⟩ = some (.slice s2 n2 q2) /\ W.cell? ⟨xb, 2, none⟩ = some (.int .u64 0) /\ W.cell? ⟨xb, 3, none⟩ = some (.int .u64 A) /\ W.cell? ⟨xb, 4, none⟩ = some (.bool G) /\ W.cell? ⟨mb, 0, none⟩ = some (.int .i64 8) /\ W.cell? ⟨mb, 1, none⟩ = some (.slice sa na ca) /\ W.cell? ⟨mb, 2, none⟩ = some (.slice sb nb cb) /\ W.cell? ⟨mb, 3, none⟩ = some (.slice none 0 0) /\ Own W xb 5 /\ Own W mb 4 /\ Below w.heap.size w W /\ xb < W.heap.size) hlim ?_
      clear hlim
      rintro w4 ⟨hM4, hU4, hD4, x4_0, x4_1, x4_2, x4_3, x4_4, m4_0, m4_1, m4_2, m4_3, ox4, om4, hB4, hs4⟩
      have lN4 : ltB N w4.heap.size = true := decide_eq_true (by omega)
      have lm4 : ltB mb w4.heap.size = true := decide_eq_true (by omega)
      have lx4 : ltB xb w4.heap.size = true := decide_eq_true (by omega)
      have hm8 := upF_length (keptM (gE E) K) 4 (fun r hr => by
        show ((K r).map _).length ≤ 2
        rw [List.length_map]
        exact HK2.out.inv.inv.len r hr)
      have hn8 := rb_len hD4.lines
      have CGx := fun W h => CGA.out (keptM (gE E) K) W h
      rw [upF_map, List.length_map, ← hn8] at CGx hm8
      have CG := hide CGx
      clear CGx hn8
      go_cut [215] (fun s215 wx => s215 = .bool false /\ Below w4.heap.size w4 wx)
      case first =>
        go_region_with (first | (go_at_call 22; (with_reducible refine (CG.out _ ?_).mono ?_); (focus (refine tm_be (W := w4) ?_ hU4.tlb; repeat (with_reducible first | assumption | exact Below.refl _ _ | refine Below.drew ?_ | refine below_drewN ?_ _ | refine bw_alloc ?_ _ | (refine bw_set ?_ ?_ _; focus (dsimp only; omega)) | (apply bw_behind; assumption) | (refine bw_sc _ ?_ ?_; focus omega)))); rintro e wg ⟨AL, rfl, hrA, hAL, hbg⟩; obtain ⟨hrg, hhg, mg, hsg⟩ := bl_all hbg))
        all_goals
          go_wp2_with fail
          go_meet
          refine ⟨by simp, ?_⟩
          repeat (with_reducible first | assumption | exact Below.refl _ _ | refine Below.drew ?_ | refine below_drewN ?_ _ | refine bw_alloc ?_ _ | (refine bw_set ?_ ?_ _; focus (dsimp only; omega)) | (apply bw_behind; assumption) | (refine bw_sc _ ?_ ?_; focus omega))
      case rest =>
        obtain ⟨rfl, hb8⟩ := hcut
        go_wp2
        go_roundw
        case rel =>
          refine via_be (a := w4) ?_ (fun hb9 => ⟨k + 1, ls, K, E, A, G, s1, n1, q1, s2, n2, q2, sa, na, ca, sb, nb, cb, by omega, by omega, by go_num, mw_be hb9 (hM4), un_be hb9 (hU4), HK2, HA2, da_be hb9 (hD4), c_be hb9 (x4_0), c_be hb9 (x4_1), c_be hb9 (x4_2), c_be hb9 (x4_3), c_be hb9 (x4_4), c_be hb9 (m4_0), c_be hb9 (m4_1), c_be hb9 (m4_2), c_be hb9 (m4_3), o_be hb9 (ox4), o_be hb9 (om4), Below.trans (hB4) (Below.mono hb9 (Below.size (hB4))), lt_be (hs4) hb9⟩)
          repeat (with_reducible first | assumption | exact Below.refl _ _ | refine Below.drew ?_ | refine below_drewN ?_ _ | refine bw_alloc ?_ _ | (refine bw_set ?_ ?_ _; focus (dsimp only; omega)) | (apply bw_behind; assumption) | (refine bw_sc _ ?_ ?_; focus omega))
        case measure => simp [intOf]; omega
    · have ex : (¬ ((k : Int) < (l.length : Int))) ∨ ((k : Int) < (l.length : Int) /\ ¬ ((k : Int) < 60)) := by omega
      clear HCL CSE CGA
      rcases ex with g1 | ⟨g1, g2⟩
      · go_wp2_with fail
        refine wp_abs (fun W => MemW W R KB 8 (laidM ls) /\ Sl W sa na ca (numA (laidR ls)) /\ Sl W sb nb cb (numV (laidR ls)) /\ W.cell? ⟨mb, 0, none⟩ = some (.int .i64 8) /\ W.cell? ⟨mb, 1, none⟩ = some (.slice sa na ca) /\ W.cell? ⟨mb, 2, none⟩ = some (.slice sb nb cb) /\ W.cell? ⟨mb, 3, none⟩ = some (.slice none 0 0) /\ Below w.heap.size w W /\ mb < W.heap.size) ?_ ?_
        · refine via_be (a := wr) ?_ (fun hb9 => ⟨mw_be hb9 hM, sl_be hb9 hD.mem.1, sl_be hb9 hD.mem.2.1, c_be hb9 m_0, c_be hb9 m_1, c_be hb9 m_2, c_be hb9 m_3, Below.trans hB (Below.mono hb9 hB.size), lt_be (Nat.lt_of_le_of_lt (Nat.le_of_lt (Nat.lt_trans hlt1 hlt2)) hs) hb9⟩)
          repeat (with_reducible first | assumption | exact Below.refl _ _ | refine Below.drew ?_ | refine below_drewN ?_ _ | refine bw_alloc ?_ _ | (refine bw_set ?_ ?_ _; focus (dsimp only; omega)) | (apply bw_behind; assumption) | (refine bw_sc _ ?_ ?_; focus omega))
        rintro w8 ⟨hM8, hA8, hC8, m8_0, m8_1, m8_2, m8_3, hB8, hs8⟩
        have hl8 : ls.length ≤ 62 := by have := HK.out.ll; omega
        clear HK HA hM hU hD x_0 x_1 x_2 x_3 x_4 m_0 m_1 m_2 m_3 ox om hB hs
        have CLD := hide (fun (j : Nat) (hj : j < 16) W h => load_w (p := 2) (k := j) (by omega) (by omega) (by omega : 8 ≤ 64) R KB (laidM ls) W h)
        have CRL := hide (fun (j : Nat) (hj : j < 16) W (h1 : Sl W sa na ca (numA (laidR ls))) (h2 : Sl W sb nb cb (numV (laidR ls))) => (by
          have := rload_any sa na ca sb nb cb (laidR ls) (2 * 4096 + 8 * j) (by omega) (by omega) (by rw [laidR_length]; omega) W h1 h2
          rw [laid_word ls 2 j (by omega) (by omega)] at this
          exact this : Calls Tryd.prog 24 #[.agg #[.int .i64 8, .slice sa na ca, .slice sb nb cb, .slice none 0 0], .int .u64 ((2 * 4096 + 8 * j : Nat) : Int), .int .i64 8] W (Makes (.tuple #[.int .u64 ((laidM ls 2 j).toNat : Int), .int .i64 0]) W)))
        go_wp2_with fail
        go_loopw [20] (fun i wr => ∃ j : Nat, j ≤ 16 /\ i = .int .i64 (j : Int) /\ MemW wr R KB 8 (laidM ls) /\ Sl wr sa na ca (numA (laidR ls)) /\ Sl wr sb nb cb (numV (laidR ls)) /\ wr.cell? ⟨mb, 0, none⟩ = some (.int .i64 8) /\ wr.cell? ⟨mb, 1, none⟩ = some (.slice sa na ca) /\ wr.cell? ⟨mb, 2, none⟩ = some (.slice sb nb cb) /\ wr.cell? ⟨mb, 3, none⟩ = some (.slice none 0 0) /\ Below w.heap.size w wr /\ mb < wr.heap.size) (fun i _ => 16 - (intOf i).toNat)
        case atStart => exact ⟨0, by omega, rfl, hM8, hA8, hC8, m8_0, m8_1, m8_2, m8_3, hB8, hs8⟩
        case round =>
          clear hM8 hA8 hC8 m8_0 m8_1 m8_2 m8_3 hB8 hs8
          obtain ⟨j, hj, rfl, hM, hSa, hSb, m_0, m_1, m_2, m_3, hB, hs⟩ := hrel
          have lm : ltB mb wr.heap.size = true := decide_eq_true hs
          by_cases h16 : j < 16
          · have j1 : (j : Int) < 16 := by omega
            have j2 : (0 : Int) ≤ (j : Int) := by omega
            have j3 : IntKind.u64.wrap (j : Int) = (j : Int) := by rw [IntKind.wrap_u64]; omega
            have j4 : IntKind.u64.wrap (8 * (j : Int)) = ((8 * j : Nat) : Int) := by rw [IntKind.wrap_u64]; omega
            have j5 : IntKind.u64.wrap (8192 + ((8 * j : Nat) : Int)) = ((2 * 4096 + 8 * j : Nat) : Int) := by rw [IntKind.wrap_u64]; omega
            have CL2 := hide (CLD.out j h16)
            have CR2 := hide (CRL.out j h16)
            clear CLD CRL
            generalize ((laidM ls 2 j).toNat : Int) = VV at *
            generalize ((2 * 4096 + 8 * j : Nat) : Int) = AT at *
            generalize ((8 * j : Nat) : Int) = I8 at *
            go_wp2_with (first | (go_at_call 23; (with_reducible refine (CL2.out _ ?_).mono ?_); (focus (refine mw_be (W := wr) ?_ hM; repeat (with_reducible first | assumption | exact Below.refl _ _ | refine Below.drew ?_ | refine below_drewN ?_ _ | refine bw_alloc ?_ _ | (refine bw_set ?_ ?_ _; focus (dsimp only; omega)) | (apply bw_behind; assumption) | (refine bw_sc _ ?_ ?_; focus omega)))); rintro e w' ⟨rfl, n1, rfl⟩) | (go_at_call 24; (with_reducible refine (CR2.out _ ?_ ?_).mono ?_); (focus (refine sl_be (W := wr) ?_ hSa; repeat (with_reducible first | assumption | exact Below.refl _ _ | refine Below.drew ?_ | refine below_drewN ?_ _ | refine bw_alloc ?_ _ | (refine bw_set ?_ ?_ _; focus (dsimp only; omega)) | (apply bw_behind; assumption) | (refine bw_sc _ ?_ ?_; focus omega)))); (focus (refine sl_be (W := wr) ?_ hSb; repeat (with_reducible first | assumption | exact Below.refl _ _ | refine Below.drew ?_ | refine below_drewN ?_ _ | refine bw_alloc ?_ _ | (refine bw_set ?_ ?_ _; focus (dsimp only; omega)) | (apply bw_behind; assumption) | (refine bw_sc _ ?_ ?_; focus omega)))); rintro e wq ⟨rfl, hbq⟩; obtain ⟨hrq, hhq, mq, hsq⟩ := bl_all hbq))
            go_roundw
            case rel =>
              refine via_be (a := wr) ?_ (fun hb9 => ⟨j + 1, by omega, by go_num, mw_be hb9 hM, sl_be hb9 hSa, sl_be hb9 hSb, c_be hb9 m_0, c_be hb9 m_1, c_be hb9 m_2, c_be hb9 m_3, Below.trans hB (Below.mono hb9 hB.size), lt_be hs hb9⟩)
              repeat (with_reducible first | assumption | exact Below.refl _ _ | refine Below.drew ?_ | refine below_drewN ?_ _ | refine bw_alloc ?_ _ | (refine bw_set ?_ ?_ _; focus (dsimp only; omega)) | (apply bw_behind; assumption) | (refine bw_sc _ ?_ ?_; focus omega))
            case measure => simp [intOf]; omega
          · have j1 : ¬ ((j : Int) < 16) := by omega
            go_wp2_with (go_at_call 25; (with_reducible refine (CO.out _ ?_).mono ?_); (focus (refine hT.behind ?_; repeat (with_reducible first | assumption | exact Below.refl _ _ | refine Below.drew ?_ | refine below_drewN ?_ _ | refine bw_alloc ?_ _ | (refine bw_set ?_ ?_ _; focus (dsimp only; omega)) | (apply bw_behind; assumption) | (refine bw_sc _ ?_ ?_; focus omega)))); rintro e wo ⟨rfl, hbo⟩; have hzo := hbo.size)
            go_ret
            refine ⟨rfl, ?_⟩
            repeat (with_reducible first | assumption | exact Below.refl _ _ | refine Below.drew ?_ | refine below_drewN ?_ _ | refine bw_alloc ?_ _ | (refine bw_set ?_ ?_ _; focus (dsimp only; omega)) | (apply bw_behind; assumption) | (refine bw_sc _ ?_ ?_; focus omega))
      · go_wp2_with fail
        refine wp_abs (fun W => MemW W R KB 8 (laidM ls) /\ Sl W sa na ca (numA (laidR ls)) /\ Sl W sb nb cb (numV (laidR ls)) /\ W.cell? ⟨mb, 0, none⟩ = some (.int .i64 8) /\ W.cell? ⟨mb, 1, none⟩ = some (.slice sa na ca) /\ W.cell? ⟨mb, 2, none⟩ = some (.slice sb nb cb) /\ W.cell? ⟨mb, 3, none⟩ = some (.slice none 0 0) /\ Below w.heap.size w W /\ mb < W.heap.size) ?_ ?_
        · refine via_be (a := wr) ?_ (fun hb9 => ⟨mw_be hb9 hM, sl_be hb9 hD.mem.1, sl_be hb9 hD.mem.2.1, c_be hb9 m_0, c_be hb9 m_1, c_be hb9 m_2, c_be hb9 m_3, Below.trans hB (Below.mono hb9 hB.size), lt_be (Nat.lt_of_le_of_lt (Nat.le_of_lt (Nat.lt_trans hlt1 hlt2)) hs) hb9⟩)
          repeat (with_reducible first | assumption | exact Below.refl _ _ | refine Below.drew ?_ | refine below_drewN ?_ _ | refine bw_alloc ?_ _ | (refine bw_set ?_ ?_ _; focus (dsimp only; omega)) | (apply bw_behind; assumption) | (refine bw_sc _ ?_ ?_; focus omega))
        rintro w8 ⟨hM8, hA8, hC8, m8_0, m8_1, m8_2, m8_3, hB8, hs8⟩
        have hl8 : ls.length ≤ 62 := by have := HK.out.ll; omega
        clear HK HA hM hU hD x_0 x_1 x_2 x_3 x_4 m_0 m_1 m_2 m_3 ox om hB hs
        have CLD := hide (fun (j : Nat) (hj : j < 16) W h => load_w (p := 2) (k := j) (by omega) (by omega) (by omega : 8 ≤ 64) R KB (laidM ls) W h)
        have CRL := hide (fun (j : Nat) (hj : j < 16) W (h1 : Sl W sa na ca (numA (laidR ls))) (h2 : Sl W sb nb cb (numV (laidR ls))) => (by
          have := rload_any sa na ca sb nb cb (laidR ls) (2 * 4096 + 8 * j) (by omega) (by omega) (by rw [laidR_length]; omega) W h1 h2
          rw [laid_word ls 2 j (by omega) (by omega)] at this
          exact this : Calls Tryd.prog 24 #[.agg #[.int .i64 8, .slice sa na ca, .slice sb nb cb, .slice none 0 0], .int .u64 ((2 * 4096 + 8 * j : Nat) : Int), .int .i64 8] W (Makes (.tuple #[.int .u64 ((laidM ls 2 j).toNat : Int), .int .i64 0]) W)))
        go_wp2_with fail
        go_loopw [20] (fun i wr => ∃ j : Nat, j ≤ 16 /\ i = .int .i64 (j : Int) /\ MemW wr R KB 8 (laidM ls) /\ Sl wr sa na ca (numA (laidR ls)) /\ Sl wr sb nb cb (numV (laidR ls)) /\ wr.cell? ⟨mb, 0, none⟩ = some (.int .i64 8) /\ wr.cell? ⟨mb, 1, none⟩ = some (.slice sa na ca) /\ wr.cell? ⟨mb, 2, none⟩ = some (.slice sb nb cb) /\ wr.cell? ⟨mb, 3, none⟩ = some (.slice none 0 0) /\ Below w.heap.size w wr /\ mb < wr.heap.size) (fun i _ => 16 - (intOf i).toNat)
        case atStart => exact ⟨0, by omega, rfl, hM8, hA8, hC8, m8_0, m8_1, m8_2, m8_3, hB8, hs8⟩
        case round =>
          clear hM8 hA8 hC8 m8_0 m8_1 m8_2 m8_3 hB8 hs8
          obtain ⟨j, hj, rfl, hM, hSa, hSb, m_0, m_1, m_2, m_3, hB, hs⟩ := hrel
          have lm : ltB mb wr.heap.size = true := decide_eq_true hs
          by_cases h16 : j < 16
          · have j1 : (j : Int) < 16 := by omega
            have j2 : (0 : Int) ≤ (j : Int) := by omega
            have j3 : IntKind.u64.wrap (j : Int) = (j : Int) := by rw [IntKind.wrap_u64]; omega
            have j4 : IntKind.u64.wrap (8 * (j : Int)) = ((8 * j : Nat) : Int) := by rw [IntKind.wrap_u64]; omega
            have j5 : IntKind.u64.wrap (8192 + ((8 * j : Nat) : Int)) = ((2 * 4096 + 8 * j : Nat) : Int) := by rw [IntKind.wrap_u64]; omega
            have CL2 := hide (CLD.out j h16)
            have CR2 := hide (CRL.out j h16)
            clear CLD CRL
            generalize ((laidM ls 2 j).toNat : Int) = VV at *
            generalize ((2 * 4096 + 8 * j : Nat) : Int) = AT at *
            generalize ((8 * j : Nat) : Int) = I8 at *
            go_wp2_with (first | (go_at_call 23; (with_reducible refine (CL2.out _ ?_).mono ?_); (focus (refine mw_be (W := wr) ?_ hM; repeat (with_reducible first | assumption | exact Below.refl _ _ | refine Below.drew ?_ | refine below_drewN ?_ _ | refine bw_alloc ?_ _ | (refine bw_set ?_ ?_ _; focus (dsimp only; omega)) | (apply bw_behind; assumption) | (refine bw_sc _ ?_ ?_; focus omega)))); rintro e w' ⟨rfl, n1, rfl⟩) | (go_at_call 24; (with_reducible refine (CR2.out _ ?_ ?_).mono ?_); (focus (refine sl_be (W := wr) ?_ hSa; repeat (with_reducible first | assumption | exact Below.refl _ _ | refine Below.drew ?_ | refine below_drewN ?_ _ | refine bw_alloc ?_ _ | (refine bw_set ?_ ?_ _; focus (dsimp only; omega)) | (apply bw_behind; assumption) | (refine bw_sc _ ?_ ?_; focus omega)))); (focus (refine sl_be (W := wr) ?_ hSb; repeat (with_reducible first | assumption | exact Below.refl _ _ | refine Below.drew ?_ | refine below_drewN ?_ _ | refine bw_alloc ?_ _ | (refine bw_set ?_ ?_ _; focus (dsimp only; omega)) | (apply bw_behind; assumption) | (refine bw_sc _ ?_ ?_; focus omega)))); rintro e wq ⟨rfl, hbq⟩; obtain ⟨hrq, hhq, mq, hsq⟩ := bl_all hbq))
            go_roundw
            case rel =>
              refine via_be (a := wr) ?_ (fun hb9 => ⟨j + 1, by omega, by go_num, mw_be hb9 hM, sl_be hb9 hSa, sl_be hb9 hSb, c_be hb9 m_0, c_be hb9 m_1, c_be hb9 m_2, c_be hb9 m_3, Below.trans hB (Below.mono hb9 hB.size), lt_be hs hb9⟩)
              repeat (with_reducible first | assumption | exact Below.refl _ _ | refine Below.drew ?_ | refine below_drewN ?_ _ | refine bw_alloc ?_ _ | (refine bw_set ?_ ?_ _; focus (dsimp only; omega)) | (apply bw_behind; assumption) | (refine bw_sc _ ?_ ?_; focus omega))
            case measure => simp [intOf]; omega
          · have j1 : ¬ ((j : Int) < 16) := by omega
            go_wp2_with (go_at_call 25; (with_reducible refine (CO.out _ ?_).mono ?_); (focus (refine hT.behind ?_; repeat (with_reducible first | assumption | exact Below.refl _ _ | refine Below.drew ?_ | refine below_drewN ?_ _ | refine bw_alloc ?_ _ | (refine bw_set ?_ ?_ _; focus (dsimp only; omega)) | (apply bw_behind; assumption) | (refine bw_sc _ ?_ ?_; focus omega)))); rintro e wo ⟨rfl, hbo⟩; have hzo := hbo.size)
            go_ret
            refine ⟨rfl, ?_⟩
            repeat (with_reducible first | assumption | exact Below.refl _ _ | refine Below.drew ?_ | refine below_drewN ?_ _ | refine bw_alloc ?_ _ | (refine bw_set ?_ ?_ _; focus (dsimp only; omega)) | (apply bw_behind; assumption) | (refine bw_sc _ ?_ ?_; focus omega))
end Go.Proofs.YtkajndonefkegaaDoor.MmuPlays
