/-
  MmuPlays: ways of a round.
-/
import Derived.Test.YtkajndonefkegaaDoorMmuWayIn
import Derived.Test.YtkajndonefkegaaDoorMmuRefD
import Derived.Deep.CutBlock
import Derived.Deep.DeepCutAuto
import Derived.BigQuiet
set_option maxRecDepth 100000
set_option maxHeartbeats 64000000
namespace Go.Proofs.YtkajndonefkegaaDoor.MmuPlays
open Go.RowKit Words FieldMath PteMath

theorem way0 (s : Ltr) (hi : In s) (hd : s.DK = 0) : WayGoal s := by
  obtain ⟨w, w1, R, KB, mb, bq, xb, N, ab, k, ls, K, E, A, G, s1, n1, q1, s2, n2, q2, sa, na, ca, sb, nb, cb, DK, DW, DN, v, DT, b0, b1, b2, b3, b4, b5, b6, b7, b8, b9, b10, b11, Fb, VN, DV, DF⟩ := s
  obtain ⟨hm0, hw0, hRw, hKw, hlt1, hlt2, hlt3, hlt4, nNK, nNR, hk2, HK, HA, vn1, vn2, vn3, HV, HF, hM1, hU1, hD1, x1_0, x1_1, x1_2, x1_3, x1_4, m1_0, m1_1, m1_2, m1_3, ox1, om1, hB1, hs1, a1_0, a1_1, a1_2, a1_3, a1_4, a1_5, a1_6, a1_7, a1_8, a1_9, a1_10, a1_11, a1_12, a1_13, a1_14, a1_15, a1_16, a1_17, hxa, lN1, lm1, lx1, hba1, lba1, hT1⟩ := hi
  dsimp only at hd
  subst hd
  intro y0 y1 y2 y7 y9 y10 y11 y12 y13 y14 y15 y16 y17 y18 y19 y20 y21 y22 y23 y24 y25 y26 y27 y28 y29 y30 y31 y32 y33 y34 y35 y36 y37 y38 y39 y40 y41 y42 y43 y45 y46 y47 y48 y49 y50 y51 y52 y53 y54 y55 y56 y57 y58 y59 y60 y61 y62 y63 y64 y65 y66 y67 y68 y69 y70 y71 y72 y73 y74 y75 y76 y77 y78 y79 y80 y81 y82 y83 y84 y85 y86 y87 y88 y89 y90 y91 y92 y93 y94 y95 y96 y97 y98 y99 y100 y101 y102 y103 y104 y105 y106 y107 y108 y109 y110 y111 y112 y113 y114 y115 y116 y117 y118 y119 y120 y121 y122 y123 y124 y125 y126 y127 y128 y129 y130 y131 y132 y133 y134 y135 y136 y137 y138 y139 y140 y141 y142 y143 y144 y145 y146 y147 y148 y149 y150 y151 y152 y153 y154 y155 y156 y157 y158 y159 y160 y161 y162 y163 y164 y165 y166 y167 y168 y169 y170 y171 y172 y173 y174 y175 y176 y177 y178 y179 y180 y181 y182 y183 y184 y185 y186 y187 y188 y189 y190 y191 y192 y193 y194 y195 y196 y197 y198 y199 y200 y201 y202 y203 y204 y205 y206 y207 y208 y209 y210 y211 y212 y213 y214 y215 y216 y217 y218 y219 y220 y221 y222 y223 y224 y225 y226 y227 y228 y229 y230 y231 y232 y233 y234 y235 y236 y237 y238 y239 y240 y241 KK KL KM KN RR HK9
  obtain ⟨SS, LB', LS, LA', LH⟩ := rules5
  conv => arg 2; whnf
  go_cut [] from 45 to 208 (fun wx => OutW w R KB mb bq xb N k wx)
  case first =>
    clear HK9
    rcases hr : transD ls K E A v.toNat DW DT G with ⟨⟨Z, S, Q⟩, ls', K', E'⟩
    have HK2 : Hid (Kept ls' K' E' (k + 1)) := hide (by
      have := Kept.trans (by omega) HK.out HA.out v.toNat v.isLt DW DT G
      rw [hr] at this
      exact this)
    have HA2 := HA
    have CP0 := hide (fun W (h1 : Tab W) (h2 : MemW W R KB 8 (laidM ls)) (h3 : UnitAt N (keptM (gE E) K) 0 A G W) => (by
      have := trans_any N R KB 8 (by omega) (by omega) (keptM (gE E) K) HK.out.wfl (laidM ls) 0#64 v A DW DT G W h1 h2 h3
      unfold Leaves at this
      rw [show (0#64).toNat = 0 from rfl, trans_same ls K E A v.toNat DW DT G HK.out.idx, hr, HV.out] at this
      exact this : Calls Tryd.prog 7 #[.pointer (some ⟨N, 0, none⟩), .pointer (some ⟨R, 0, none⟩), .int .u64 DV, .int .i64 DW, .bool DT] W (fun e w' => e = .returned (.tuple #[.agg #[.int .u64 Z, .bool S], .int .i64 Q]) /\ MemW w' R KB 8 (laidM ls') /\ UnitAt N (keptM (gE E') K') 0 A G w' /\ Out2 N KB W w')))
    have CR0 := hide (fun W (h1 : DocAt W bq (Blk KB N mb xb) s1 n1 q1 s2 n2 q2 sa na ca sb nb cb ls K E) (h2 : xb < W.heap.size) => (by
      have := rtrans_any W bq (by omega) (Blk KB N mb xb) (fun g hg => by unfold Blk; omega) s1 n1 q1 s2 n2 q2 sa na ca sb nb cb ls K E k HK.out (by omega) h1 A HA.out DW DT G v
      rw [hr, HV.out] at this
      exact this : Calls Tryd.prog 8 #[.agg #[.slice s1 n1 q1, .slice s2 n2 q2, .int .u64 0, .int .u64 A, .bool G], .agg #[.int .i64 8, .slice sa na ca, .slice sb nb cb, .slice none 0 0], .int .u64 DV, .int .i64 DW, .bool DT] W (OutD W bq (Blk KB N mb xb) A G ((Z, S, Q), ls', K', E'))))
    clear hr
    have NEP : ∀ W, (binOp .neq 55 (.agg #[.int .u64 Z, .bool S]) (.agg #[.int .u64 Z, .bool S])).run Tryd.prog W = .ok (.bool false) W := fun W => by
      simp [go_sem]
    have nQ : (Q != Q) = false := by simp
    go_upto_region 11 with (first | (go_at_call 7; (with_reducible refine (CP0.out _ ?_ ?_ ?_).mono ?_); (focus (refine hT1.behind ?_; repeat (with_reducible first | assumption | exact Below.refl _ _ | refine Below.drew ?_ | refine below_drewN ?_ _ | refine bw_alloc ?_ _ | (refine bw_set ?_ ?_ _; focus (dsimp only; omega)) | (apply bw_behind; assumption) | (refine bw_sc _ ?_ ?_; focus omega)))); (focus (refine mw_be (W := w1) ?_ hM1; repeat (with_reducible first | assumption | exact Below.refl _ _ | refine Below.drew ?_ | refine below_drewN ?_ _ | refine bw_alloc ?_ _ | (refine bw_set ?_ ?_ _; focus (dsimp only; omega)) | (apply bw_behind; assumption) | (refine bw_sc _ ?_ ?_; focus omega)))); (focus (refine un_be (W := w1) ?_ hU1; repeat (with_reducible first | assumption | exact Below.refl _ _ | refine Below.drew ?_ | refine below_drewN ?_ _ | refine bw_alloc ?_ _ | (refine bw_set ?_ ?_ _; focus (dsimp only; omega)) | (apply bw_behind; assumption) | (refine bw_sc _ ?_ ?_; focus omega)))); rintro e wt ⟨rfl, hMt, hUt, hXt⟩))
    refine wp_abs (fun W => Below wt.heap.size wt W /\ W.cell? ⟨wt.heap.size, 0, none⟩ = some (.int .u64 Z) /\ W.cell? ⟨wt.heap.size, 1, none⟩ = some (.bool S)) ?_ ?_
    · refine ⟨?_, ?_, ?_⟩
      · repeat (with_reducible first | assumption | exact Below.refl _ _ | refine Below.drew ?_ | refine below_drewN ?_ _ | refine bw_alloc ?_ _ | (refine bw_set ?_ ?_ _; focus (dsimp only; omega)) | (apply bw_behind; assumption) | (refine bw_sc _ ?_ ?_; focus omega))
      iterate 2 (focus (first | ((repeat (with_reducible first | assumption | refine c_dr _ ?_ | refine c_d1 ?_ | refine c_al _ ?_ | (refine c_set ?_ ?_; focus (dsimp only; omega)) | (apply c_be; assumption) | (refine c_sc ?_ ?_; focus (dsimp only; omega)))); done) | (simp [go_sem, *]; done)))
    rintro w2 ⟨hbz, p2_0, p2_1⟩
    have hM2 := mw_be hbz (hMt)
    have hU2 := un_be hbz (hUt)
    have hD2 := da_be hbz (da_out2 hXt (by omega) (by omega) blk_N blk_K hD1)
    have x2_0 := c_be hbz (hXt.reads (by dsimp only; omega) (by dsimp only; omega) x1_0)
    have x2_1 := c_be hbz (hXt.reads (by dsimp only; omega) (by dsimp only; omega) x1_1)
    have x2_2 := c_be hbz (hXt.reads (by dsimp only; omega) (by dsimp only; omega) x1_2)
    have x2_3 := c_be hbz (hXt.reads (by dsimp only; omega) (by dsimp only; omega) x1_3)
    have x2_4 := c_be hbz (hXt.reads (by dsimp only; omega) (by dsimp only; omega) x1_4)
    have m2_0 := c_be hbz (hXt.reads (by dsimp only; omega) (by dsimp only; omega) m1_0)
    have m2_1 := c_be hbz (hXt.reads (by dsimp only; omega) (by dsimp only; omega) m1_1)
    have m2_2 := c_be hbz (hXt.reads (by dsimp only; omega) (by dsimp only; omega) m1_2)
    have m2_3 := c_be hbz (hXt.reads (by dsimp only; omega) (by dsimp only; omega) m1_3)
    have ox2 := o_be hbz (hXt.own (by omega) (by omega) ox1)
    have om2 := o_be hbz (hXt.own (by omega) (by omega) om1)
    have hB2 := Below.trans (Below.trans hB1 (hXt.below (by omega) (by omega) hB1.size)) (Below.mono hbz (Below.size (Below.trans hB1 (hXt.below (by omega) (by omega) hB1.size))))
    have hs2 := lt_be (Nat.lt_of_lt_of_le hs1 hXt.size) hbz
    have a2_0 := c_be hbz (hXt.reads (by dsimp only; omega) (by dsimp only; omega) a1_0)
    have a2_1 := c_be hbz (hXt.reads (by dsimp only; omega) (by dsimp only; omega) a1_1)
    have a2_2 := c_be hbz (hXt.reads (by dsimp only; omega) (by dsimp only; omega) a1_2)
    have a2_3 := c_be hbz (hXt.reads (by dsimp only; omega) (by dsimp only; omega) a1_3)
    have a2_4 := c_be hbz (hXt.reads (by dsimp only; omega) (by dsimp only; omega) a1_4)
    clear hbz
    have hpw : ab < wt.heap.size := Nat.lt_of_lt_of_le hba1 hXt.size
    clear hMt hUt hXt hM1 hU1 hD1 x1_0 x1_1 x1_2 x1_3 x1_4 m1_0 m1_1 m1_2 m1_3 ox1 om1 hB1 hs1 a1_0 a1_1 a1_2 a1_3 a1_4 a1_5 a1_6 a1_7 a1_8 a1_9 a1_10 a1_11 a1_12 a1_13 a1_14 a1_15 a1_16 a1_17 lN1 lm1 lx1 hba1 lba1
    generalize wt.heap.size = pb at *
    have lN2 : ltB N w2.heap.size = true := decide_eq_true (by omega)
    have lm2 : ltB mb w2.heap.size = true := decide_eq_true (by omega)
    have lx2 : ltB xb w2.heap.size = true := decide_eq_true (by omega)
    have hba2 : ab < w2.heap.size := World.block_lt_of_cell? w2 _ a2_0
    have lba2 : ltB (ab) w2.heap.size = true := decide_eq_true hba2
    have hbp2 : pb < w2.heap.size := World.block_lt_of_cell? w2 _ p2_0
    have lbp2 : ltB (pb) w2.heap.size = true := decide_eq_true hbp2
    go_upto_region 14 with (first | (go_at_call 8; (with_reducible refine (CR0.out _ ?_ ?_).mono ?_); (focus (refine da_be (W := w2) ?_ hD2; repeat (with_reducible first | assumption | exact Below.refl _ _ | refine Below.drew ?_ | refine below_drewN ?_ _ | refine bw_alloc ?_ _ | (refine bw_set ?_ ?_ _; focus (dsimp only; omega)) | (apply bw_behind; assumption) | (refine bw_sc _ ?_ ?_; focus omega)))); (focus (refine lt_be (a := w2) (by omega) ?_; repeat (with_reducible first | assumption | exact Below.refl _ _ | refine Below.drew ?_ | refine below_drewN ?_ _ | refine bw_alloc ?_ _ | (refine bw_set ?_ ?_ _; focus (dsimp only; omega)) | (apply bw_behind; assumption) | (refine bw_sc _ ?_ ?_; focus omega)))); rintro e wq ⟨s1', n1', q1', s2', n2', q2', sa', na', ca', sb', nb', cb', rfl, hDq, hbq⟩; obtain ⟨hrq, hhq, mq, hsq⟩ := bl_all hbq))
    refine wp_abs (fun W => Below w2.heap.size w2 W /\ DocAt W bq (Blk KB N mb xb) s1' n1' q1' s2' n2' q2' sa' na' ca' sb' nb' cb' ls' K' E' /\ W.cell? ⟨w2.heap.size + mq, 0, none⟩ = some (.slice s1' n1' q1') /\ W.cell? ⟨w2.heap.size + mq, 1, none⟩ = some (.slice s2' n2' q2') /\ W.cell? ⟨w2.heap.size + mq, 2, none⟩ = some (.int .u64 0) /\ W.cell? ⟨w2.heap.size + mq, 3, none⟩ = some (.int .u64 A) /\ W.cell? ⟨w2.heap.size + mq, 4, none⟩ = some (.bool G) /\ W.cell? ⟨w2.heap.size + mq + 1, 0, none⟩ = some (.int .i64 8) /\ W.cell? ⟨w2.heap.size + mq + 1, 1, none⟩ = some (.slice sa' na' ca') /\ W.cell? ⟨w2.heap.size + mq + 1, 2, none⟩ = some (.slice sb' nb' cb') /\ W.cell? ⟨w2.heap.size + mq + 1, 3, none⟩ = some (.slice none 0 0)) ?_ ?_
    · refine ⟨?_, ?_, ?_, ?_, ?_, ?_, ?_, ?_, ?_, ?_, ?_⟩
      · repeat (with_reducible first | assumption | exact Below.refl _ _ | refine Below.drew ?_ | refine below_drewN ?_ _ | refine bw_alloc ?_ _ | (refine bw_set ?_ ?_ _; focus (dsimp only; omega)) | (apply bw_behind; assumption) | (refine bw_sc _ ?_ ?_; focus omega))
      · refine da_be (W := wq) ?_ hDq; repeat (with_reducible first | assumption | exact Below.refl _ _ | refine Below.drew ?_ | refine below_drewN ?_ _ | refine bw_alloc ?_ _ | (refine bw_set ?_ ?_ _; focus (dsimp only; omega)) | (apply bw_behind; assumption) | (refine bw_sc _ ?_ ?_; focus omega))
      iterate 9 (focus (first | ((repeat (with_reducible first | assumption | refine c_dr _ ?_ | refine c_d1 ?_ | refine c_al _ ?_ | (refine c_set ?_ ?_; focus (dsimp only; omega)) | (apply c_be; assumption) | (refine c_sc ?_ ?_; focus (dsimp only; omega)))); done) | (simp [go_sem, *]; done)))
    rintro w3 ⟨hbz, hD3, y3_0, y3_1, y3_2, y3_3, y3_4, n3_0, n3_1, n3_2, n3_3⟩
    have hM3 := mw_be hbz (hM2)
    have hU3 := un_be hbz (hU2)
    have x3_0 := c_be hbz (x2_0)
    have x3_1 := c_be hbz (x2_1)
    have x3_2 := c_be hbz (x2_2)
    have x3_3 := c_be hbz (x2_3)
    have x3_4 := c_be hbz (x2_4)
    have m3_0 := c_be hbz (m2_0)
    have m3_1 := c_be hbz (m2_1)
    have m3_2 := c_be hbz (m2_2)
    have m3_3 := c_be hbz (m2_3)
    have ox3 := o_be hbz (ox2)
    have om3 := o_be hbz (om2)
    have hB3 := Below.trans (hB2) (Below.mono hbz (Below.size (hB2)))
    have hs3 := lt_be (hs2) hbz
    clear hbz
    have hyb : xb < w2.heap.size + mq := by omega
    clear hDq hbq hrq hhq hsq NEP nQ hM2 hU2 hD2 x2_0 x2_1 x2_2 x2_3 x2_4 m2_0 m2_1 m2_2 m2_3 ox2 om2 hB2 hs2 a2_0 a2_1 a2_2 a2_3 a2_4 p2_0 p2_1 lN2 lm2 lx2 hba2 lba2 hbp2 lbp2
    have hnb : xb < w2.heap.size + mq + 1 /\ w2.heap.size + mq < w2.heap.size + mq + 1 := ⟨by omega, by omega⟩
    generalize w2.heap.size + mq + 1 = nb at *
    generalize w2.heap.size + mq = yb at *
    have lN3 : ltB N w3.heap.size = true := decide_eq_true (by omega)
    have lm3 : ltB mb w3.heap.size = true := decide_eq_true (by omega)
    have lx3 : ltB xb w3.heap.size = true := decide_eq_true (by omega)
    have hby3 : yb < w3.heap.size := World.block_lt_of_cell? w3 _ y3_0
    have lby3 : ltB (yb) w3.heap.size = true := decide_eq_true hby3
    have hbn3 : nb < w3.heap.size := World.block_lt_of_cell? w3 _ n3_0
    have lbn3 : ltB (nb) w3.heap.size = true := decide_eq_true hbn3
    have fx0 := ox3.free 0 (by omega)
    have fx1 := ox3.free 1 (by omega)
    have fx2 := ox3.free 2 (by omega)
    have fx3 := ox3.free 3 (by omega)
    have fx4 := ox3.free 4 (by omega)
    have fm0 := om3.free 0 (by omega)
    have fm1 := om3.free 1 (by omega)
    have fm2 := om3.free 2 (by omega)
    have fm3 := om3.free 3 (by omega)
    have ne0 : (yb == xb) = false := by simp; omega
    have ne1 : (xb == yb) = false := by simp; omega
    have ne2 : (yb == mb) = false := by simp; omega
    have ne3 : (mb == yb) = false := by simp; omega
    have ne4 : (nb == xb) = false := by simp; omega
    have ne5 : (xb == nb) = false := by simp; omega
    have ne6 : (nb == mb) = false := by simp; omega
    have ne7 : (mb == nb) = false := by simp; omega
    have ne8 : (xb == mb) = false := by simp; omega
    have ne9 : (mb == xb) = false := by simp; omega
    have ne10 : (nb == yb) = false := by simp; omega
    have ne11 : (yb == nb) = false := by simp; omega
    go_region_held3 (fun W' => W'.cell? ⟨yb, 0, none⟩ = some (.slice s1' n1' q1') /\ W'.cell? ⟨yb, 1, none⟩ = some (.slice s2' n2' q2') /\ W'.cell? ⟨yb, 2, none⟩ = some (.int .u64 0) /\ W'.cell? ⟨yb, 3, none⟩ = some (.int .u64 A) /\ W'.cell? ⟨yb, 4, none⟩ = some (.bool G) /\ W'.cell? ⟨nb, 0, none⟩ = some (.int .i64 8) /\ W'.cell? ⟨nb, 1, none⟩ = some (.slice sa' na' ca') /\ W'.cell? ⟨nb, 2, none⟩ = some (.slice sb' nb' cb') /\ W'.cell? ⟨nb, 3, none⟩ = some (.slice none 0 0) /\ Own W' xb 5 /\ Own W' mb 4)
      (first | with_reducible assumption | (refine ⟨?_, ?_, ?_, ?_, ?_, ?_, ?_, ?_, ?_, ?_, ?_⟩ <;> first | ((repeat (with_reducible first | assumption | refine c_dr _ ?_ | refine c_d1 ?_ | refine c_al _ ?_ | (refine c_set ?_ ?_; focus (dsimp only; omega)) | (apply c_be; assumption) | (refine c_sc ?_ ?_; focus (dsimp only; omega)))); done) | ((repeat (first | (with_reducible first | assumption | refine o_dr _ ?_ | refine o_d1 ?_ | refine o_set ?_) | (with_reducible refine o_new ?_ ?_; (focus (simp)); (focus (simp))) | (with_reducible refine o_new ?_ ?_; (focus (simp [*]; done)); (focus (simp))) | (with_reducible refine o_new ?_ ?_; (focus (simp [*]; omega)); (focus (simp))) | (with_reducible first | refine o_sc ?_ | refine o_al _ ?_ | (apply o_be; assumption)))); done)))
      (fail)
    all_goals
      have hmx : mb ≠ xb := by omega
      have hxm : xb ≠ mb := by omega
      go_wp2_with fail
      go_meet
      refine via_x (a := w3) (N := xb) (K := mb) ?hX (fun hX => ⟨ls', (K'), (E'), A, G, s1', n1', q1', s2', n2', q2', sa', na', ca', sb', nb', cb', HK2, HA2, mw_x2 hX (by omega) (by omega) (by omega) (by omega) (by omega) hM3, un_x2 hX (by omega) (by omega) hU3, da_out2 hX (by omega) (by omega) blk_x blk_m hD3, ?_, ?_, ?_, ?_, ?_, ?_, ?_, ?_, ?_, ?_, ?_, Below.trans hB3 (hX.below (by omega) (by omega) hB3.size), Nat.lt_of_lt_of_le hs3 hX.size⟩)
      · repeat (first | (with_reducible first | exact Out2.refl _ _ _ | refine x2_d1 ?_ | refine x2_dr _ ?_ | refine x2_al _ ?_) | (with_reducible refine x2_set _ ?_ ?_; focus (dsimp only; first | exact .inl rfl | exact .inr rfl)))
      iterate 5 (focus (repeat (first | (with_reducible first | assumption | refine c_d1 ?_ | refine c_dr _ ?_) | (with_reducible refine c_set ?_ ?_; focus (dsimp only; first | with_reducible exact hxm | with_reducible exact hmx)) | (with_reducible refine c_off ?_ ?_; focus (dsimp only; (try decide); done)) | (with_reducible refine cell_same _ _ _ (own_some (n := 5) ?_ (by decide)); repeat (first | (with_reducible first | assumption | refine o_dr _ ?_ | refine o_d1 ?_ | refine o_set ?_) | (with_reducible refine o_new ?_ ?_; (focus (simp)); (focus (simp))) | (with_reducible refine o_new ?_ ?_; (focus (simp [*]; done)); (focus (simp))) | (with_reducible refine o_new ?_ ?_; (focus (simp [*]; omega)); (focus (simp))) | (with_reducible first | refine o_sc ?_ | refine o_al _ ?_ | (apply o_be; assumption)))))))
      iterate 4 (focus (repeat (first | (with_reducible first | assumption | refine c_d1 ?_ | refine c_dr _ ?_) | (with_reducible refine c_set ?_ ?_; focus (dsimp only; first | with_reducible exact hxm | with_reducible exact hmx)) | (with_reducible refine c_off ?_ ?_; focus (dsimp only; (try decide); done)) | (with_reducible refine cell_same _ _ _ (own_some (n := 4) ?_ (by decide)); repeat (first | (with_reducible first | assumption | refine o_dr _ ?_ | refine o_d1 ?_ | refine o_set ?_) | (with_reducible refine o_new ?_ ?_; (focus (simp)); (focus (simp))) | (with_reducible refine o_new ?_ ?_; (focus (simp [*]; done)); (focus (simp))) | (with_reducible refine o_new ?_ ?_; (focus (simp [*]; omega)); (focus (simp))) | (with_reducible first | refine o_sc ?_ | refine o_al _ ?_ | (apply o_be; assumption)))))))
      · repeat (first | (with_reducible first | assumption | refine o_dr _ ?_ | refine o_d1 ?_ | refine o_set ?_) | (with_reducible refine o_new ?_ ?_; (focus (simp)); (focus (simp))) | (with_reducible refine o_new ?_ ?_; (focus (simp [*]; done)); (focus (simp))) | (with_reducible refine o_new ?_ ?_; (focus (simp [*]; omega)); (focus (simp))) | (with_reducible first | refine o_sc ?_ | refine o_al _ ?_ | (apply o_be; assumption)))
      · repeat (first | (with_reducible first | assumption | refine o_dr _ ?_ | refine o_d1 ?_ | refine o_set ?_) | (with_reducible refine o_new ?_ ?_; (focus (simp)); (focus (simp))) | (with_reducible refine o_new ?_ ?_; (focus (simp [*]; done)); (focus (simp))) | (with_reducible refine o_new ?_ ?_; (focus (simp [*]; omega)); (focus (simp))) | (with_reducible first | refine o_sc ?_ | refine o_al _ ?_ | (apply o_be; assumption)))
  case rest =>
    exact HK9.out _ _ _ _ _ _ _ _ _ _ _ _ _ _ _ _ _ _ _ _ _ _ _ _ _ _ _ _ _ _ _ _ _ _ _ _ _ _ _ _ _ _ _ _ _ _ _ _ _ _ _ _ _ _ _ _ _ _ _ _ _ _ _ _ _ _ _ _ _ _ _ _ _ _ _ _ _ _ _ _ _ _ _ _ _ _ _ _ _ _ _ _ _ _ _ _ _ _ _ _ _ _ _ _ _ _ _ _ _ _ _ _ _ _ _ _ _ _ _ _ _ _ _ _ _ _ _ _ _ _ _ _ _ _ _ _ _ _ _ _ _ _ _ _ _ _ _ _ _ _ _ _ _ _ _ _ _ _ _ _ _ _ _ _ _ _ _ _ _ _ _ _ _ _ _ _ _ hcut
end Go.Proofs.YtkajndonefkegaaDoor.MmuPlays
