/-
  MmuPlays: ways of a round.
-/
import Derived.Test.YtkajndonefkegaaDoorMmuWayIn
import Derived.Deep.CutBlock
import Derived.Deep.DeepCutAuto
import Derived.BigQuiet
set_option maxRecDepth 100000
set_option maxHeartbeats 64000000
namespace Go.Proofs.YtkajndonefkegaaDoor.MmuPlays
open Go.RowKit Words FieldMath PteMath

theorem way1 (s : Ltr) (hi : In s) (hd : s.DK = 1) : WayGoal s := by
  obtain ⟨w, w1, R, KB, mb, bq, xb, N, ab, k, ls, K, E, A, G, s1, n1, q1, s2, n2, q2, sa, na, ca, sb, nb, cb, DK, DW, DN, v, DT, b0, b1, b2, b3, b4, b5, b6, b7, b8, b9, b10, b11, Fb, VN, DV, DF⟩ := s
  obtain ⟨hm0, hw0, hRw, hKw, hlt1, hlt2, hlt3, hlt4, nNK, nNR, hk2, HK, HA, vn1, vn2, vn3, HV, HF, hM1, hU1, hD1, x1_0, x1_1, x1_2, x1_3, x1_4, m1_0, m1_1, m1_2, m1_3, ox1, om1, hB1, hs1, a1_0, a1_1, a1_2, a1_3, a1_4, a1_5, a1_6, a1_7, a1_8, a1_9, a1_10, a1_11, a1_12, a1_13, a1_14, a1_15, a1_16, a1_17, hxa, lN1, lm1, lx1, hba1, lba1, hT1⟩ := hi
  dsimp only at hd
  subst hd
  intro y0 y1 y2 y7 y9 y10 y11 y12 y13 y14 y15 y16 y17 y18 y19 y20 y21 y22 y23 y24 y25 y26 y27 y28 y29 y30 y31 y32 y33 y34 y35 y36 y37 y38 y39 y40 y41 y42 y43 y45 y46 y47 y48 y49 y50 y51 y52 y53 y54 y55 y56 y57 y58 y59 y60 y61 y62 y63 y64 y65 y66 y67 y68 y69 y70 y71 y72 y73 y74 y75 y76 y77 y78 y79 y80 y81 y82 y83 y84 y85 y86 y87 y88 y89 y90 y91 y92 y93 y94 y95 y96 y97 y98 y99 y100 y101 y102 y103 y104 y105 y106 y107 y108 y109 y110 y111 y112 y113 y114 y115 y116 y117 y118 y119 y120 y121 y122 y123 y124 y125 y126 y127 y128 y129 y130 y131 y132 y133 y134 y135 y136 y137 y138 y139 y140 y141 y142 y143 y144 y145 y146 y147 y148 y149 y150 y151 y152 y153 y154 y155 y156 y157 y158 y159 y160 y161 y162 y163 y164 y165 y166 y167 y168 y169 y170 y171 y172 y173 y174 y175 y176 y177 y178 y179 y180 y181 y182 y183 y184 y185 y186 y187 y188 y189 y190 y191 y192 y193 y194 y195 y196 y197 y198 y199 y200 y201 y202 y203 y204 y205 y206 y207 y208 y209 y210 y211 y212 y213 y214 y215 y216 y217 y218 y219 y220 y221 y222 y223 y224 y225 y226 y227 y228 y229 y230 y231 y232 y233 y234 y235 y236 y237 y238 y239 y240 y241 KK KL KM KN RR HK9
  obtain ⟨SS, LB', LS, LA', LH⟩ := rules5
  conv => arg 2; whnf
  go_cut [] from 45 to 208 (fun wx => OutW w R KB mb bq xb N k wx)
  case first =>
    clear HK9
    rcases hr : plainR (laidM ls) 8 0 v.toNat DW DT G with ⟨Z, S, Q⟩
    have HK2 : Hid (Kept ls K E (k + 1)) := hide HK.out.more
    have HA2 := HA
    have CP0 := hide (fun W (h1 : Tab W) (h2 : MemW W R KB 8 (laidM ls)) (h3 : UnitAt N (keptM (gE E) K) 0 A G W) => (by
      have := plain_any N R KB 8 (by omega) (keptM (gE E) K) (laidM ls) 0#64 v A DW DT G W h1 h2 h3
      rw [show (0#64).toNat = 0 from rfl, hr, HV.out] at this
      exact this : Calls Tryd.prog 9 #[.pointer (some ⟨N, 0, none⟩), .pointer (some ⟨R, 0, none⟩), .int .u64 DV, .int .i64 DW, .bool DT] W (Makes (.tuple #[.agg #[.int .u64 Z, .bool S], .int .i64 Q]) W)))
    have CR0 := hide (fun W (h1 : DocAt W bq (Blk KB N mb xb) s1 n1 q1 s2 n2 q2 sa na ca sb nb cb ls K E) => (by
      have := rplain_any ls (by have := HK.out.ll; omega) sa sb s1 s2 na ca nb cb n1 q1 n2 q2 v A DW DT G W h1.mem.1 h1.mem.2.1
      rw [hr, HV.out] at this
      exact this : Calls Tryd.prog 10 #[.agg #[.slice s1 n1 q1, .slice s2 n2 q2, .int .u64 0, .int .u64 A, .bool G], .agg #[.int .i64 8, .slice sa na ca, .slice sb nb cb, .slice none 0 0], .int .u64 DV, .int .i64 DW, .bool DT] W (Makes (.tuple #[.agg #[.int .u64 Z, .bool S], .int .i64 Q]) W)))
    clear hr
    have NEP : ∀ W, (binOp .neq 55 (.agg #[.int .u64 Z, .bool S]) (.agg #[.int .u64 Z, .bool S])).run Tryd.prog W = .ok (.bool false) W := fun W => by
      simp [go_sem]
    have nQ : (Q != Q) = false := by simp
    go_wp2_with (first | (go_at_call 9; (with_reducible refine (CP0.out _ ?_ ?_ ?_).mono ?_); (focus (refine hT1.behind ?_; repeat (with_reducible first | assumption | exact Below.refl _ _ | refine Below.drew ?_ | refine below_drewN ?_ _ | refine bw_alloc ?_ _ | (refine bw_set ?_ ?_ _; focus (dsimp only; omega)) | (apply bw_behind; assumption) | (refine bw_sc _ ?_ ?_; focus omega)))); (focus (refine mw_be (W := w1) ?_ hM1; repeat (with_reducible first | assumption | exact Below.refl _ _ | refine Below.drew ?_ | refine below_drewN ?_ _ | refine bw_alloc ?_ _ | (refine bw_set ?_ ?_ _; focus (dsimp only; omega)) | (apply bw_behind; assumption) | (refine bw_sc _ ?_ ?_; focus omega)))); (focus (refine un_be (W := w1) ?_ hU1; repeat (with_reducible first | assumption | exact Below.refl _ _ | refine Below.drew ?_ | refine below_drewN ?_ _ | refine bw_alloc ?_ _ | (refine bw_set ?_ ?_ _; focus (dsimp only; omega)) | (apply bw_behind; assumption) | (refine bw_sc _ ?_ ?_; focus omega)))); rintro e wp ⟨rfl, hbp⟩; obtain ⟨hrp, hhp, mp, hsp⟩ := bl_all hbp) | (go_at_call 10; (with_reducible refine (CR0.out _ ?_).mono ?_); (focus (refine da_be (W := w1) ?_ hD1; repeat (with_reducible first | assumption | exact Below.refl _ _ | refine Below.drew ?_ | refine below_drewN ?_ _ | refine bw_alloc ?_ _ | (refine bw_set ?_ ?_ _; focus (dsimp only; omega)) | (apply bw_behind; assumption) | (refine bw_sc _ ?_ ?_; focus omega)))); rintro e wq ⟨rfl, hbq⟩; obtain ⟨hrq, hhq, mq, hsq⟩ := bl_all hbq))
    go_meet
    refine via_be (a := w1) ?_ (fun hb9 => ⟨ls, K, E, A, G, s1, n1, q1, s2, n2, q2, sa, na, ca, sb, nb, cb, HK2, HA2, mw_be hb9 (hM1), un_be hb9 (hU1), da_be hb9 (hD1), c_be hb9 (x1_0), c_be hb9 (x1_1), c_be hb9 (x1_2), c_be hb9 (x1_3), c_be hb9 (x1_4), c_be hb9 (m1_0), c_be hb9 (m1_1), c_be hb9 (m1_2), c_be hb9 (m1_3), o_be hb9 (ox1), o_be hb9 (om1), Below.trans (hB1) (Below.mono hb9 (Below.size (hB1))), lt_be (hs1) hb9⟩)
    repeat (with_reducible first | assumption | exact Below.refl _ _ | refine Below.drew ?_ | refine below_drewN ?_ _ | refine bw_alloc ?_ _ | (refine bw_set ?_ ?_ _; focus (dsimp only; omega)) | (apply bw_behind; assumption) | (refine bw_sc _ ?_ ?_; focus omega))
  case rest =>
    exact HK9.out _ _ _ _ _ _ _ _ _ _ _ _ _ _ _ _ _ _ _ _ _ _ _ _ _ _ _ _ _ _ _ _ _ _ _ _ _ _ _ _ _ _ _ _ _ _ _ _ _ _ _ _ _ _ _ _ _ _ _ _ _ _ _ _ _ _ _ _ _ _ _ _ _ _ _ _ _ _ _ _ _ _ _ _ _ _ _ _ _ _ _ _ _ _ _ _ _ _ _ _ _ _ _ _ _ _ _ _ _ _ _ _ _ _ _ _ _ _ _ _ _ _ _ _ _ _ _ _ _ _ _ _ _ _ _ _ _ _ _ _ _ _ _ _ _ _ _ _ _ _ _ _ _ _ _ _ _ _ _ _ _ _ _ _ _ _ _ _ _ _ _ _ _ _ _ _ _ hcut

theorem way2 (s : Ltr) (hi : In s) (hd : s.DK = 2) : WayGoal s := by
  obtain ⟨w, w1, R, KB, mb, bq, xb, N, ab, k, ls, K, E, A, G, s1, n1, q1, s2, n2, q2, sa, na, ca, sb, nb, cb, DK, DW, DN, v, DT, b0, b1, b2, b3, b4, b5, b6, b7, b8, b9, b10, b11, Fb, VN, DV, DF⟩ := s
  obtain ⟨hm0, hw0, hRw, hKw, hlt1, hlt2, hlt3, hlt4, nNK, nNR, hk2, HK, HA, vn1, vn2, vn3, HV, HF, hM1, hU1, hD1, x1_0, x1_1, x1_2, x1_3, x1_4, m1_0, m1_1, m1_2, m1_3, ox1, om1, hB1, hs1, a1_0, a1_1, a1_2, a1_3, a1_4, a1_5, a1_6, a1_7, a1_8, a1_9, a1_10, a1_11, a1_12, a1_13, a1_14, a1_15, a1_16, a1_17, hxa, lN1, lm1, lx1, hba1, lba1, hT1⟩ := hi
  dsimp only at hd
  subst hd
  intro y0 y1 y2 y7 y9 y10 y11 y12 y13 y14 y15 y16 y17 y18 y19 y20 y21 y22 y23 y24 y25 y26 y27 y28 y29 y30 y31 y32 y33 y34 y35 y36 y37 y38 y39 y40 y41 y42 y43 y45 y46 y47 y48 y49 y50 y51 y52 y53 y54 y55 y56 y57 y58 y59 y60 y61 y62 y63 y64 y65 y66 y67 y68 y69 y70 y71 y72 y73 y74 y75 y76 y77 y78 y79 y80 y81 y82 y83 y84 y85 y86 y87 y88 y89 y90 y91 y92 y93 y94 y95 y96 y97 y98 y99 y100 y101 y102 y103 y104 y105 y106 y107 y108 y109 y110 y111 y112 y113 y114 y115 y116 y117 y118 y119 y120 y121 y122 y123 y124 y125 y126 y127 y128 y129 y130 y131 y132 y133 y134 y135 y136 y137 y138 y139 y140 y141 y142 y143 y144 y145 y146 y147 y148 y149 y150 y151 y152 y153 y154 y155 y156 y157 y158 y159 y160 y161 y162 y163 y164 y165 y166 y167 y168 y169 y170 y171 y172 y173 y174 y175 y176 y177 y178 y179 y180 y181 y182 y183 y184 y185 y186 y187 y188 y189 y190 y191 y192 y193 y194 y195 y196 y197 y198 y199 y200 y201 y202 y203 y204 y205 y206 y207 y208 y209 y210 y211 y212 y213 y214 y215 y216 y217 y218 y219 y220 y221 y222 y223 y224 y225 y226 y227 y228 y229 y230 y231 y232 y233 y234 y235 y236 y237 y238 y239 y240 y241 KK KL KM KN RR HK9
  obtain ⟨SS, LB', LS, LA', LH⟩ := rules5
  conv => arg 2; whnf
  go_cut [] from 45 to 208 (fun wx => OutW w R KB mb bq xb N k wx)
  case first =>
    clear HK9
    obtain ⟨ix, hix, hix2⟩ : ∃ ix : Nat, bits .and .i64 DN 15 = (ix : Int) /\ ix < 16 := by
      refine ⟨(DN % 16).toNat, ?_, by omega⟩
      show bits .and .i64 DN ((15 : Nat) : Int) = _
      rw [iand_low DN 15 4 rfl (by omega)]
      omega
    have hw1 : IntKind.u64.wrap (ix : Int) = (ix : Int) := by rw [IntKind.wrap_u64]; omega
    have hw2 : IntKind.u64.wrap (8 * (ix : Int)) = ((8 * ix : Nat) : Int) := by rw [IntKind.wrap_u64]; omega
    have hw3 : IntKind.u64.wrap (8192 + ((8 * ix : Nat) : Int)) = ((2 * 4096 + 8 * ix : Nat) : Int) := by rw [IntKind.wrap_u64]; omega
    obtain ⟨d, hd⟩ : ∃ d : LayD, d = ⟨2, (ix : Int), b0, b1, b2, b3, b4, b5, b6, b7, b8, b9, b10, b11, Fb⟩ := ⟨_, rfl⟩
    have hdp : d.page = 2 := by rw [hd]; rfl
    have hdi : d.idx = ix := by rw [hd]; show (((ix : Int)) % 512).toNat = ix; omega
    have hdw : d.word = wk (bs b0 b1 b2 b3 b4 b5 b6 b7 b8 b9 b10 b11) Fb 12 := by rw [hd]; rfl
    have HK2 : Hid (Kept (ls ++ [d]) K E (k + 1)) := hide (HK.out.lay d)
    have HA2 := HA
    have CW0 := hide (fun W (h : Tab W) => (by
      have := word_any b0 b1 b2 b3 b4 b5 b6 b7 b8 b9 b10 b11 Fb W h
      rw [← hdw, HF.out] at this
      exact this : Calls Tryd.prog 12 #[.agg #[.bool b0, .bool b1, .bool b2, .bool b3, .bool b4, .bool b5, .bool b6, .bool b7, .bool b8, .bool b9, .bool b10, .bool b11, .int .u64 DF]] W (Makes (.int .u64 (d.word.toNat : Int)) W)))
    have CS0 := hide (fun W (h : MemW W R KB 8 (laidM ls)) => (by
      have := store_w (p := 2) (k := ix) (by omega) (by omega) (by omega : 8 ≤ 64) d.word R KB (laidM ls) W h
      rw [show putM (laidM ls) 2 ix d.word = laidM (ls ++ [d]) by rw [laidM_add, hdp, hdi]] at this
      exact this : Calls Tryd.prog 11 #[.pointer (some ⟨R, 0, none⟩), .int .u64 ((2 * 4096 + 8 * ix : Nat) : Int), .int .i64 8, .int .u64 (d.word.toNat : Int)] W (fun e w' => e = .returned (.int .i64 0) /\ MemW w' R KB 8 (laidM (ls ++ [d])) /\ Out KB (2 * 4100) W w')))
    have CV0 := hide (fun W => (by
      have := rword_any b0 b1 b2 b3 b4 b5 b6 b7 b8 b9 b10 b11 Fb W
      rw [← word_is, ← hdw, HF.out] at this
      exact this : Calls Tryd.prog 14 #[.agg #[.bool b0, .bool b1, .bool b2, .bool b3, .bool b4, .bool b5, .bool b6, .bool b7, .bool b8, .bool b9, .bool b10, .bool b11, .int .u64 DF]] W (Makes (.int .u64 (d.word.toNat : Int)) W)))
    have CR0 := hide (fun W (h1 : MemR W (Blk KB N mb xb) sa na ca sb nb cb (laidR ls)) (h2 : xb < W.heap.size) => (by
      refine (rstore_any sa na ca sb nb cb (laidR ls) (2 * 4096 + 8 * ix) d.word (by omega) (by omega) (by rw [laidR_length]; have := HK.out.ll; omega) W h1.1 h1.2.1).mono ?_
      rintro e w' ⟨sa', na', ca', sb', nb', cb', rfl, h3, h4, h5, h6, h7⟩
      refine ⟨sa', na', ca', sb', nb', cb', rfl, ?_, h5⟩
      rw [laidR_add, hdp, hdi]
      exact ⟨h3, h4, fun g hg => by have := h6 g hg; unfold Blk; omega, fun g hg => by have := h7 g hg; unfold Blk; omega⟩ : Calls Tryd.prog 13 #[.agg #[.int .i64 8, .slice sa na ca, .slice sb nb cb, .slice none 0 0], .int .u64 ((2 * 4096 + 8 * ix : Nat) : Int), .int .i64 8, .int .u64 (d.word.toNat : Int)] W (fun e w' => ∃ sa' na' ca' sb' nb' cb', e = .returned (.tuple #[.agg #[.int .i64 8, .slice sa' na' ca', .slice sb' nb' cb', .slice none 0 0], .int .i64 0]) /\ MemR w' (Blk KB N mb xb) sa' na' ca' sb' nb' cb' (laidR (ls ++ [d])) /\ Below W.heap.size W w')))
    clear hd hdp hdi hdw
    generalize (d.word.toNat : Int) = Y at *
    generalize ((2 * 4096 + 8 * ix : Nat) : Int) = AT at *
    generalize ((8 * ix : Nat) : Int) = I8 at *
    generalize (ix : Int) = IX at *
    go_upto_region 23 with (first | (go_at_call 12; (with_reducible refine (CW0.out _ ?_).mono ?_); (focus (refine hT1.behind ?_; repeat (with_reducible first | assumption | exact Below.refl _ _ | refine Below.drew ?_ | refine below_drewN ?_ _ | refine bw_alloc ?_ _ | (refine bw_set ?_ ?_ _; focus (dsimp only; omega)) | (apply bw_behind; assumption) | (refine bw_sc _ ?_ ?_; focus omega)))); rintro e wv ⟨rfl, hbv⟩; obtain ⟨hrv, hhv, mv, hsv⟩ := bl_all hbv) | (go_at_call 11; (with_reducible refine (CS0.out _ ?_).mono ?_); (focus (refine mw_be (W := w1) ?_ hM1; repeat (with_reducible first | assumption | exact Below.refl _ _ | refine Below.drew ?_ | refine below_drewN ?_ _ | refine bw_alloc ?_ _ | (refine bw_set ?_ ?_ _; focus (dsimp only; omega)) | (apply bw_behind; assumption) | (refine bw_sc _ ?_ ?_; focus omega)))); rintro e wt ⟨rfl, hMt, hXt⟩))
    have hvw : Below w1.heap.size w1 wv := by
      repeat (with_reducible first | assumption | exact Below.refl _ _ | refine Below.drew ?_ | refine below_drewN ?_ _ | refine bw_alloc ?_ _ | (refine bw_set ?_ ?_ _; focus (dsimp only; omega)) | (apply bw_behind; assumption) | (refine bw_sc _ ?_ ?_; focus omega))
    refine wp_abs (fun W => Below wt.heap.size wt W) ?_ ?_
    · repeat (with_reducible first | assumption | exact Below.refl _ _ | refine Below.drew ?_ | refine below_drewN ?_ _ | refine bw_alloc ?_ _ | (refine bw_set ?_ ?_ _; focus (dsimp only; omega)) | (apply bw_behind; assumption) | (refine bw_sc _ ?_ ?_; focus omega))
    rintro w2 hbz
    have hM2 := mw_be hbz (hMt)
    have hU2 := un_be hbz (un_out hXt nNK (un_be hvw hU1))
    have hD2 := da_be hbz (da_out hXt (by omega) blk_K (da_be hvw hD1))
    have x2_0 := c_be hbz (hXt.reads (by dsimp only; omega) (c_be hvw x1_0))
    have x2_1 := c_be hbz (hXt.reads (by dsimp only; omega) (c_be hvw x1_1))
    have x2_2 := c_be hbz (hXt.reads (by dsimp only; omega) (c_be hvw x1_2))
    have x2_3 := c_be hbz (hXt.reads (by dsimp only; omega) (c_be hvw x1_3))
    have x2_4 := c_be hbz (hXt.reads (by dsimp only; omega) (c_be hvw x1_4))
    have m2_0 := c_be hbz (hXt.reads (by dsimp only; omega) (c_be hvw m1_0))
    have m2_1 := c_be hbz (hXt.reads (by dsimp only; omega) (c_be hvw m1_1))
    have m2_2 := c_be hbz (hXt.reads (by dsimp only; omega) (c_be hvw m1_2))
    have m2_3 := c_be hbz (hXt.reads (by dsimp only; omega) (c_be hvw m1_3))
    have ox2 := o_be hbz (own_out hXt (by omega) (o_be hvw ox1))
    have om2 := o_be hbz (own_out hXt (by omega) (o_be hvw om1))
    have hB2 := Below.trans ((hB1.trans (hvw.mono hB1.size)).trans (hXt.below (by omega) (Nat.le_trans hB1.size hvw.size))) (Below.mono hbz (Below.size ((hB1.trans (hvw.mono hB1.size)).trans (hXt.below (by omega) (Nat.le_trans hB1.size hvw.size)))))
    have hs2 := lt_be (Nat.lt_of_lt_of_le hs1 (Nat.le_trans hvw.size hXt.size)) hbz
    have a2_0 := c_be hbz (hXt.reads (by dsimp only; omega) (c_be hvw a1_0))
    have a2_1 := c_be hbz (hXt.reads (by dsimp only; omega) (c_be hvw a1_1))
    have a2_2 := c_be hbz (hXt.reads (by dsimp only; omega) (c_be hvw a1_2))
    have a2_3 := c_be hbz (hXt.reads (by dsimp only; omega) (c_be hvw a1_3))
    have a2_4 := c_be hbz (hXt.reads (by dsimp only; omega) (c_be hvw a1_4))
    have a2_5 := c_be hbz (hXt.reads (by dsimp only; omega) (c_be hvw a1_5))
    have a2_6 := c_be hbz (hXt.reads (by dsimp only; omega) (c_be hvw a1_6))
    have a2_7 := c_be hbz (hXt.reads (by dsimp only; omega) (c_be hvw a1_7))
    have a2_8 := c_be hbz (hXt.reads (by dsimp only; omega) (c_be hvw a1_8))
    have a2_9 := c_be hbz (hXt.reads (by dsimp only; omega) (c_be hvw a1_9))
    have a2_10 := c_be hbz (hXt.reads (by dsimp only; omega) (c_be hvw a1_10))
    have a2_11 := c_be hbz (hXt.reads (by dsimp only; omega) (c_be hvw a1_11))
    have a2_12 := c_be hbz (hXt.reads (by dsimp only; omega) (c_be hvw a1_12))
    have a2_13 := c_be hbz (hXt.reads (by dsimp only; omega) (c_be hvw a1_13))
    have a2_14 := c_be hbz (hXt.reads (by dsimp only; omega) (c_be hvw a1_14))
    have a2_15 := c_be hbz (hXt.reads (by dsimp only; omega) (c_be hvw a1_15))
    have a2_16 := c_be hbz (hXt.reads (by dsimp only; omega) (c_be hvw a1_16))
    have a2_17 := c_be hbz (hXt.reads (by dsimp only; omega) (c_be hvw a1_17))
    clear hbz
    clear hMt hXt hvw hbv hrv hhv hsv hM1 hU1 hD1 x1_0 x1_1 x1_2 x1_3 x1_4 m1_0 m1_1 m1_2 m1_3 ox1 om1 hB1 hs1 a1_0 a1_1 a1_2 a1_3 a1_4 a1_5 a1_6 a1_7 a1_8 a1_9 a1_10 a1_11 a1_12 a1_13 a1_14 a1_15 a1_16 a1_17 lN1 lm1 lx1 hba1 lba1
    have lN2 : ltB N w2.heap.size = true := decide_eq_true (by omega)
    have lm2 : ltB mb w2.heap.size = true := decide_eq_true (by omega)
    have lx2 : ltB xb w2.heap.size = true := decide_eq_true (by omega)
    have hba2 : ab < w2.heap.size := World.block_lt_of_cell? w2 _ a2_0
    have lba2 : ltB (ab) w2.heap.size = true := decide_eq_true hba2
    have fm0 := om2.free 0 (by omega)
    have fm1 := om2.free 1 (by omega)
    have fm2 := om2.free 2 (by omega)
    have fm3 := om2.free 3 (by omega)
    go_region_with (first | (go_at_call 14; (with_reducible refine (CV0.out _).mono ?_); rintro e wo ⟨rfl, hbo⟩; obtain ⟨hro, hho, mo, hso⟩ := bl_all hbo) | (go_at_call 13; (with_reducible refine (CR0.out _ ?_ ?_).mono ?_); (focus (refine mr_be (W := w2) ?_ hD2.mem; repeat (with_reducible first | assumption | exact Below.refl _ _ | refine Below.drew ?_ | refine below_drewN ?_ _ | refine bw_alloc ?_ _ | (refine bw_set ?_ ?_ _; focus (dsimp only; omega)) | (apply bw_behind; assumption) | (refine bw_sc _ ?_ ?_; focus omega)))); (focus (refine lt_be (a := w2) (by omega) ?_; repeat (with_reducible first | assumption | exact Below.refl _ _ | refine Below.drew ?_ | refine below_drewN ?_ _ | refine bw_alloc ?_ _ | (refine bw_set ?_ ?_ _; focus (dsimp only; omega)) | (apply bw_behind; assumption) | (refine bw_sc _ ?_ ?_; focus omega)))); rintro e wq ⟨sa', na', ca', sb', nb', cb', rfl, hRq, hbq⟩; obtain ⟨hrq, hhq, mq, hsq⟩ := bl_all hbq))
    all_goals
      go_wp2_with fail
      go_meet
      refine ⟨(ls ++ [d]), K, E, A, G, s1, n1, q1, s2, n2, q2, sa', na', ca', sb', nb', cb', HK2, HA2, ?_, ?_, ?_, ?_, ?_, ?_, ?_, ?_, ?_, ?_, ?_, ?_, ?_, ?_, ?_, ?_⟩
      · repeat (with_reducible first | assumption | refine mw_dr _ ?_ | refine mw_d1 ?_ | refine mw_al _ ?_ | (apply mw_be; assumption) | (refine mw_set ?_ ?_ ?_; (focus (dsimp only; omega)); (focus (dsimp only; omega))))
      · repeat (with_reducible first | assumption | refine un_dr _ ?_ | refine un_d1 ?_ | refine un_al _ ?_ | (refine un_set ?_ ?_; focus (dsimp only; omega)) | (apply un_be; assumption) | (refine un_sc _ _ ?_ ?_; focus (dsimp only; omega)))
      · refine da_mem (ls := ls) (sa := sa) (na := na) (ca := ca) (sb := sb) (nb := nb) (cb := cb) ?_ ?_; (focus (repeat (first | (with_reducible first | assumption | refine da_dr _ ?_ | refine da_d1 ?_ | refine da_al _ ?_) | (refine da_set (by dsimp only; omega) (by dsimp only; first | exact blk_x | exact blk_m) ?_) | (with_reducible apply da_be; with_reducible assumption)))); (repeat (first | (with_reducible first | assumption | refine mr_dr _ ?_ | refine mr_d1 ?_ | refine mr_al _ ?_) | (refine mr_set (by dsimp only; first | exact blk_x | exact blk_m) ?_) | (with_reducible apply mr_be; with_reducible assumption)))
      iterate 9 (focus (first | ((repeat (with_reducible first | assumption | refine c_dr _ ?_ | refine c_d1 ?_ | refine c_al _ ?_ | (refine c_set ?_ ?_; focus (dsimp only; omega)) | (apply c_be; assumption) | (refine c_sc ?_ ?_; focus (dsimp only; omega)))); done) | (simp [go_sem, *]; done)))
      iterate 2 (focus (repeat (first | (with_reducible first | assumption | refine o_dr _ ?_ | refine o_d1 ?_ | refine o_set ?_) | (with_reducible refine o_new ?_ ?_; (focus (simp)); (focus (simp))) | (with_reducible refine o_new ?_ ?_; (focus (simp [*]; done)); (focus (simp))) | (with_reducible refine o_new ?_ ?_; (focus (simp [*]; omega)); (focus (simp))) | (with_reducible first | refine o_sc ?_ | refine o_al _ ?_ | (apply o_be; assumption)))))
      · repeat (with_reducible first | assumption | exact Below.refl _ _ | refine Below.drew ?_ | refine below_drewN ?_ _ | refine bw_alloc ?_ _ | (refine bw_set ?_ ?_ _; focus (dsimp only; omega)) | (apply bw_behind; assumption) | (refine bw_sc _ ?_ ?_; focus omega))
      · first | (simp only [s_set]; with_reducible exact hs2) | (simp only [s_set]; exact lt_be (by with_reducible assumption) (by with_reducible assumption)) | (simp [go_sem]; omega) | (simp [go_sem, *]; omega)
  case rest =>
    exact HK9.out _ _ _ _ _ _ _ _ _ _ _ _ _ _ _ _ _ _ _ _ _ _ _ _ _ _ _ _ _ _ _ _ _ _ _ _ _ _ _ _ _ _ _ _ _ _ _ _ _ _ _ _ _ _ _ _ _ _ _ _ _ _ _ _ _ _ _ _ _ _ _ _ _ _ _ _ _ _ _ _ _ _ _ _ _ _ _ _ _ _ _ _ _ _ _ _ _ _ _ _ _ _ _ _ _ _ _ _ _ _ _ _ _ _ _ _ _ _ _ _ _ _ _ _ _ _ _ _ _ _ _ _ _ _ _ _ _ _ _ _ _ _ _ _ _ _ _ _ _ _ _ _ _ _ _ _ _ _ _ _ _ _ _ _ _ _ _ _ _ _ _ _ _ _ _ _ _ hcut
end Go.Proofs.YtkajndonefkegaaDoor.MmuPlays
