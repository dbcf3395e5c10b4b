/-
  MmuPlays: ways of a round.
-/
import Derived.Test.YtkajndonefkegaaDoorMmuWayIn
import Derived.Deep.CutBlock
import Derived.Deep.DeepCutAuto
import Derived.BigQuiet
set_option maxRecDepth 100000
set_option maxHeartbeats 64000000
namespace Go.Proofs.YtkajndonefkegaaDoor.MmuPlays
open Go.RowKit Words FieldMath PteMath

theorem way6 (s : Ltr) (hi : In s) (hd : s.DK = 6) : WayGoal s := by
  obtain ⟨w, w1, R, KB, mb, bq, xb, N, ab, k, ls, K, E, A, G, s1, n1, q1, s2, n2, q2, sa, na, ca, sb, nb, cb, DK, DW, DN, v, DT, b0, b1, b2, b3, b4, b5, b6, b7, b8, b9, b10, b11, Fb, VN, DV, DF⟩ := s
  obtain ⟨hm0, hw0, hRw, hKw, hlt1, hlt2, hlt3, hlt4, nNK, nNR, hk2, HK, HA, vn1, vn2, vn3, HV, HF, hM1, hU1, hD1, x1_0, x1_1, x1_2, x1_3, x1_4, m1_0, m1_1, m1_2, m1_3, ox1, om1, hB1, hs1, a1_0, a1_1, a1_2, a1_3, a1_4, a1_5, a1_6, a1_7, a1_8, a1_9, a1_10, a1_11, a1_12, a1_13, a1_14, a1_15, a1_16, a1_17, hxa, lN1, lm1, lx1, hba1, lba1, hT1⟩ := hi
  dsimp only at hd
  subst hd
  intro y0 y1 y2 y7 y9 y10 y11 y12 y13 y14 y15 y16 y17 y18 y19 y20 y21 y22 y23 y24 y25 y26 y27 y28 y29 y30 y31 y32 y33 y34 y35 y36 y37 y38 y39 y40 y41 y42 y43 y45 y46 y47 y48 y49 y50 y51 y52 y53 y54 y55 y56 y57 y58 y59 y60 y61 y62 y63 y64 y65 y66 y67 y68 y69 y70 y71 y72 y73 y74 y75 y76 y77 y78 y79 y80 y81 y82 y83 y84 y85 y86 y87 y88 y89 y90 y91 y92 y93 y94 y95 y96 y97 y98 y99 y100 y101 y102 y103 y104 y105 y106 y107 y108 y109 y110 y111 y112 y113 y114 y115 y116 y117 y118 y119 y120 y121 y122 y123 y124 y125 y126 y127 y128 y129 y130 y131 y132 y133 y134 y135 y136 y137 y138 y139 y140 y141 y142 y143 y144 y145 y146 y147 y148 y149 y150 y151 y152 y153 y154 y155 y156 y157 y158 y159 y160 y161 y162 y163 y164 y165 y166 y167 y168 y169 y170 y171 y172 y173 y174 y175 y176 y177 y178 y179 y180 y181 y182 y183 y184 y185 y186 y187 y188 y189 y190 y191 y192 y193 y194 y195 y196 y197 y198 y199 y200 y201 y202 y203 y204 y205 y206 y207 y208 y209 y210 y211 y212 y213 y214 y215 y216 y217 y218 y219 y220 y221 y222 y223 y224 y225 y226 y227 y228 y229 y230 y231 y232 y233 y234 y235 y236 y237 y238 y239 y240 y241 KK KL KM KN RR HK9
  obtain ⟨SS, LB', LS, LA', LH⟩ := rules5
  conv => arg 2; whnf
  go_cut [] from 45 to 208 (fun wx => OutW w R KB mb bq xb N k wx)
  case first =>
    clear HK9
    by_cases h0 : upF K 4 = []
    · have HK2 : Hid (Kept ls (evictM K DN) E (k + 1)) := hide (HK.out.evict DN)
      have HA2 := HA
      have CP0 := hide (fun W (h1 : TlbM W N (keptM (gE E) K)) => (by
        have := evict_any N (keptM (gE E) K) DN W h1
        rw [evict_map] at this
        exact this : Calls Tryd.prog 20 #[.pointer (some ⟨N, 0, none⟩), .int .i64 DN] W (fun e w' => e = .returned (.tuple #[]) /\ TlbM w' N (keptM (gE E) (evictM K DN)) /\ Out1 N W w')))
      have H0 := hide h0
      have CR0 := hide (fun W (h1 : RefT W (.slice s1 n1 q1) (upF K 4)) => (by
        rw [H0.out] at h1
        exact revict_none (.slice s1 n1 q1) DN W h1 : Calls Tryd.prog 21 #[.slice s1 n1 q1, .int .i64 DN] W (Makes (.slice s1 n1 q1) W)))
      clear h0
      go_upto_region 35 with (first | (go_at_call 20; (with_reducible refine (CP0.out _ ?_).mono ?_); (focus (refine tm_be (W := w1) ?_ hU1.tlb; repeat (with_reducible first | assumption | exact Below.refl _ _ | refine Below.drew ?_ | refine below_drewN ?_ _ | refine bw_alloc ?_ _ | (refine bw_set ?_ ?_ _; focus (dsimp only; omega)) | (apply bw_behind; assumption) | (refine bw_sc _ ?_ ?_; focus omega)))); rintro e wt ⟨rfl, hMt, hXt⟩))
      refine wp_abs (fun W => Below wt.heap.size wt W) ?_ ?_
      · repeat (with_reducible first | assumption | exact Below.refl _ _ | refine Below.drew ?_ | refine below_drewN ?_ _ | refine bw_alloc ?_ _ | (refine bw_set ?_ ?_ _; focus (dsimp only; omega)) | (apply bw_behind; assumption) | (refine bw_sc _ ?_ ?_; focus omega))
      rintro w2 hbz
      have hM2 := mw_be hbz (mw_o1 hXt nNK nNR (by omega) hM1)
      have hU2 := un_be hbz (un_tlb hXt hMt hU1)
      have hD2 := da_be hbz (da_out1 hXt (by omega) blk_N hD1)
      have x2_0 := c_be hbz (hXt.reads (by dsimp only; omega) x1_0)
      have x2_1 := c_be hbz (hXt.reads (by dsimp only; omega) x1_1)
      have x2_2 := c_be hbz (hXt.reads (by dsimp only; omega) x1_2)
      have x2_3 := c_be hbz (hXt.reads (by dsimp only; omega) x1_3)
      have x2_4 := c_be hbz (hXt.reads (by dsimp only; omega) x1_4)
      have m2_0 := c_be hbz (hXt.reads (by dsimp only; omega) m1_0)
      have m2_1 := c_be hbz (hXt.reads (by dsimp only; omega) m1_1)
      have m2_2 := c_be hbz (hXt.reads (by dsimp only; omega) m1_2)
      have m2_3 := c_be hbz (hXt.reads (by dsimp only; omega) m1_3)
      have ox2 := o_be hbz (u_own hXt (by omega) ox1)
      have om2 := o_be hbz (u_own hXt (by omega) om1)
      have hB2 := Below.trans (Below.trans hB1 (hXt.below (by omega) hB1.size)) (Below.mono hbz (Below.size (Below.trans hB1 (hXt.below (by omega) hB1.size))))
      have hs2 := lt_be (Nat.lt_of_lt_of_le hs1 hXt.size) hbz
      have a2_0 := c_be hbz (hXt.reads (by dsimp only; omega) a1_0)
      have a2_1 := c_be hbz (hXt.reads (by dsimp only; omega) a1_1)
      have a2_2 := c_be hbz (hXt.reads (by dsimp only; omega) a1_2)
      have a2_3 := c_be hbz (hXt.reads (by dsimp only; omega) a1_3)
      have a2_4 := c_be hbz (hXt.reads (by dsimp only; omega) a1_4)
      clear hbz
      clear hMt hXt hM1 hU1 hD1 x1_0 x1_1 x1_2 x1_3 x1_4 m1_0 m1_1 m1_2 m1_3 ox1 om1 hB1 hs1 a1_0 a1_1 a1_2 a1_3 a1_4 a1_5 a1_6 a1_7 a1_8 a1_9 a1_10 a1_11 a1_12 a1_13 a1_14 a1_15 a1_16 a1_17 lN1 lm1 lx1 hba1 lba1
      have lN2 : ltB N w2.heap.size = true := decide_eq_true (by omega)
      have lm2 : ltB mb w2.heap.size = true := decide_eq_true (by omega)
      have lx2 : ltB xb w2.heap.size = true := decide_eq_true (by omega)
      have hba2 : ab < w2.heap.size := World.block_lt_of_cell? w2 _ a2_0
      have lba2 : ltB (ab) w2.heap.size = true := decide_eq_true hba2
      have fx0 := ox2.free 0 (by omega)
      go_wp2_with (first | (go_at_call 21; (with_reducible refine (CR0.out _ ?_).mono ?_); (focus (refine rb_t (b := bq) (rb_be (W := w2) ?_ hD2.lines); repeat (with_reducible first | assumption | exact Below.refl _ _ | refine Below.drew ?_ | refine below_drewN ?_ _ | refine bw_alloc ?_ _ | (refine bw_set ?_ ?_ _; focus (dsimp only; omega)) | (apply bw_behind; assumption) | (refine bw_sc _ ?_ ?_; focus omega)))); rintro e wq ⟨rfl, hbq⟩; obtain ⟨hrq, hhq, mq, hsq⟩ := bl_all hbq))
      go_meet
      refine ⟨ls, (evictM K DN), E, A, G, s1, n1, q1, s2, n2, q2, sa, na, ca, sb, nb, cb, HK2, HA2, ?_, ?_, ?_, ?_, ?_, ?_, ?_, ?_, ?_, ?_, ?_, ?_, ?_, ?_, ?_, ?_⟩
      · repeat (with_reducible first | assumption | refine mw_dr _ ?_ | refine mw_d1 ?_ | refine mw_al _ ?_ | (apply mw_be; assumption) | (refine mw_set ?_ ?_ ?_; (focus (dsimp only; omega)); (focus (dsimp only; omega))))
      · repeat (with_reducible first | assumption | refine un_dr _ ?_ | refine un_d1 ?_ | refine un_al _ ?_ | (refine un_set ?_ ?_; focus (dsimp only; omega)) | (apply un_be; assumption) | (refine un_sc _ _ ?_ ?_; focus (dsimp only; omega)))
      · refine da_lines (K := K) (s1 := s1) (n1 := n1) (q1 := q1) ?_ ?_; (focus (repeat (first | (with_reducible first | assumption | refine da_dr _ ?_ | refine da_d1 ?_ | refine da_al _ ?_) | (refine da_set (by dsimp only; omega) (by dsimp only; first | exact blk_x | exact blk_m) ?_) | (with_reducible apply da_be; with_reducible assumption)))); (rw [ref_evict0 K DN H0.out, ← H0.out]; refine DocAt.lines (b := bq) (B := Blk KB N mb xb) (s2 := s2) (n2 := n2) (q2 := q2) (sa := sa) (na := na) (ca := ca) (sb := sb) (nb := nb) (cb := cb) (ls := ls) (E := E) ?_; repeat (first | (with_reducible first | assumption | refine da_dr _ ?_ | refine da_d1 ?_ | refine da_al _ ?_) | (refine da_set (by dsimp only; omega) (by dsimp only; first | exact blk_x | exact blk_m) ?_) | (with_reducible apply da_be; with_reducible assumption)))
      iterate 9 (focus (first | ((repeat (with_reducible first | assumption | refine c_dr _ ?_ | refine c_d1 ?_ | refine c_al _ ?_ | (refine c_set ?_ ?_; focus (dsimp only; omega)) | (apply c_be; assumption) | (refine c_sc ?_ ?_; focus (dsimp only; omega)))); done) | (simp [go_sem, *]; done)))
      iterate 2 (focus (repeat (first | (with_reducible first | assumption | refine o_dr _ ?_ | refine o_d1 ?_ | refine o_set ?_) | (with_reducible refine o_new ?_ ?_; (focus (simp)); (focus (simp))) | (with_reducible refine o_new ?_ ?_; (focus (simp [*]; done)); (focus (simp))) | (with_reducible refine o_new ?_ ?_; (focus (simp [*]; omega)); (focus (simp))) | (with_reducible first | refine o_sc ?_ | refine o_al _ ?_ | (apply o_be; assumption)))))
      · repeat (with_reducible first | assumption | exact Below.refl _ _ | refine Below.drew ?_ | refine below_drewN ?_ _ | refine bw_alloc ?_ _ | (refine bw_set ?_ ?_ _; focus (dsimp only; omega)) | (apply bw_behind; assumption) | (refine bw_sc _ ?_ ?_; focus omega))
      · first | (simp only [s_set]; with_reducible exact hs2) | (simp only [s_set]; exact lt_be (by with_reducible assumption) (by with_reducible assumption)) | (simp [go_sem]; omega) | (simp [go_sem, *]; omega)
    · have hpos : 0 < (upF K 4).length := List.length_pos_iff.2 h0
      obtain ⟨kk, hkk⟩ : ∃ kk : Nat, DN % ((upF K 4).length : Int) = (kk : Int) := ⟨(DN % ((upF K 4).length : Int)).toNat, by have := Int.emod_nonneg DN (show ((upF K 4).length : Int) ≠ 0 by omega); omega⟩
      have HK2 : Hid (Kept ls (evictM K DN) E (k + 1)) := hide (HK.out.evict DN)
      have HA2 := HA
      have CP0 := hide (fun W (h1 : TlbM W N (keptM (gE E) K)) => (by
        have := evict_any N (keptM (gE E) K) DN W h1
        rw [evict_map] at this
        exact this : Calls Tryd.prog 20 #[.pointer (some ⟨N, 0, none⟩), .int .i64 DN] W (fun e w' => e = .returned (.tuple #[]) /\ TlbM w' N (keptM (gE E) (evictM K DN)) /\ Out1 N W w')))
      have CR0 := hide (fun W (h1 : RefT W (.slice s1 n1 q1) (upF K 4)) (h2 : bq ≤ W.heap.size) => (by
        have h8 := upF_length K 4 (fun r hr => HK.out.inv.inv.len r hr)
        refine (revict_any (.slice s1 n1 q1) DN kk (upF K 4) (by omega) hpos hkk W h1).mono ?_
        rintro e w' ⟨u, rfl, hR, hB⟩
        obtain ⟨s, m, q, rfl⟩ := rb_slice hR
        rw [ref_evict HK.out.inv DN kk hpos hkk] at hR
        exact ⟨s, m, q, rfl, rb_less h2 hR, hB⟩ : Calls Tryd.prog 21 #[.slice s1 n1 q1, .int .i64 DN] W (fun e w' => ∃ s m q, e = .returned (.slice s m q) /\ RefB w' bq (.slice s m q) (upF (evictM K DN) 4) /\ Below W.heap.size W w')))
      clear h0 hpos hkk
      go_upto_region 35 with (first | (go_at_call 20; (with_reducible refine (CP0.out _ ?_).mono ?_); (focus (refine tm_be (W := w1) ?_ hU1.tlb; repeat (with_reducible first | assumption | exact Below.refl _ _ | refine Below.drew ?_ | refine below_drewN ?_ _ | refine bw_alloc ?_ _ | (refine bw_set ?_ ?_ _; focus (dsimp only; omega)) | (apply bw_behind; assumption) | (refine bw_sc _ ?_ ?_; focus omega)))); rintro e wt ⟨rfl, hMt, hXt⟩))
      refine wp_abs (fun W => Below wt.heap.size wt W) ?_ ?_
      · repeat (with_reducible first | assumption | exact Below.refl _ _ | refine Below.drew ?_ | refine below_drewN ?_ _ | refine bw_alloc ?_ _ | (refine bw_set ?_ ?_ _; focus (dsimp only; omega)) | (apply bw_behind; assumption) | (refine bw_sc _ ?_ ?_; focus omega))
      rintro w2 hbz
      have hM2 := mw_be hbz (mw_o1 hXt nNK nNR (by omega) hM1)
      have hU2 := un_be hbz (un_tlb hXt hMt hU1)
      have hD2 := da_be hbz (da_out1 hXt (by omega) blk_N hD1)
      have x2_0 := c_be hbz (hXt.reads (by dsimp only; omega) x1_0)
      have x2_1 := c_be hbz (hXt.reads (by dsimp only; omega) x1_1)
      have x2_2 := c_be hbz (hXt.reads (by dsimp only; omega) x1_2)
      have x2_3 := c_be hbz (hXt.reads (by dsimp only; omega) x1_3)
      have x2_4 := c_be hbz (hXt.reads (by dsimp only; omega) x1_4)
      have m2_0 := c_be hbz (hXt.reads (by dsimp only; omega) m1_0)
      have m2_1 := c_be hbz (hXt.reads (by dsimp only; omega) m1_1)
      have m2_2 := c_be hbz (hXt.reads (by dsimp only; omega) m1_2)
      have m2_3 := c_be hbz (hXt.reads (by dsimp only; omega) m1_3)
      have ox2 := o_be hbz (u_own hXt (by omega) ox1)
      have om2 := o_be hbz (u_own hXt (by omega) om1)
      have hB2 := Below.trans (Below.trans hB1 (hXt.below (by omega) hB1.size)) (Below.mono hbz (Below.size (Below.trans hB1 (hXt.below (by omega) hB1.size))))
      have hs2 := lt_be (Nat.lt_of_lt_of_le hs1 hXt.size) hbz
      have a2_0 := c_be hbz (hXt.reads (by dsimp only; omega) a1_0)
      have a2_1 := c_be hbz (hXt.reads (by dsimp only; omega) a1_1)
      have a2_2 := c_be hbz (hXt.reads (by dsimp only; omega) a1_2)
      have a2_3 := c_be hbz (hXt.reads (by dsimp only; omega) a1_3)
      have a2_4 := c_be hbz (hXt.reads (by dsimp only; omega) a1_4)
      clear hbz
      clear hMt hXt hM1 hU1 hD1 x1_0 x1_1 x1_2 x1_3 x1_4 m1_0 m1_1 m1_2 m1_3 ox1 om1 hB1 hs1 a1_0 a1_1 a1_2 a1_3 a1_4 a1_5 a1_6 a1_7 a1_8 a1_9 a1_10 a1_11 a1_12 a1_13 a1_14 a1_15 a1_16 a1_17 lN1 lm1 lx1 hba1 lba1
      have lN2 : ltB N w2.heap.size = true := decide_eq_true (by omega)
      have lm2 : ltB mb w2.heap.size = true := decide_eq_true (by omega)
      have lx2 : ltB xb w2.heap.size = true := decide_eq_true (by omega)
      have hba2 : ab < w2.heap.size := World.block_lt_of_cell? w2 _ a2_0
      have lba2 : ltB (ab) w2.heap.size = true := decide_eq_true hba2
      have fx0 := ox2.free 0 (by omega)
      go_wp2_with (first | (go_at_call 21; (with_reducible refine (CR0.out _ ?_ ?_).mono ?_); (focus (refine rb_t (b := bq) (rb_be (W := w2) ?_ hD2.lines); repeat (with_reducible first | assumption | exact Below.refl _ _ | refine Below.drew ?_ | refine below_drewN ?_ _ | refine bw_alloc ?_ _ | (refine bw_set ?_ ?_ _; focus (dsimp only; omega)) | (apply bw_behind; assumption) | (refine bw_sc _ ?_ ?_; focus omega)))); (focus (refine le_be (a := w2) hlt4 hs2 ?_; repeat (with_reducible first | assumption | exact Below.refl _ _ | refine Below.drew ?_ | refine below_drewN ?_ _ | refine bw_alloc ?_ _ | (refine bw_set ?_ ?_ _; focus (dsimp only; omega)) | (apply bw_behind; assumption) | (refine bw_sc _ ?_ ?_; focus omega)))); rintro e wq ⟨s1', n1', q1', rfl, hRq, hbq⟩; obtain ⟨hrq, hhq, mq, hsq⟩ := bl_all hbq))
      go_meet
      refine ⟨ls, (evictM K DN), E, A, G, s1', n1', q1', s2, n2, q2, sa, na, ca, sb, nb, cb, HK2, HA2, ?_, ?_, ?_, ?_, ?_, ?_, ?_, ?_, ?_, ?_, ?_, ?_, ?_, ?_, ?_, ?_⟩
      · repeat (with_reducible first | assumption | refine mw_dr _ ?_ | refine mw_d1 ?_ | refine mw_al _ ?_ | (apply mw_be; assumption) | (refine mw_set ?_ ?_ ?_; (focus (dsimp only; omega)); (focus (dsimp only; omega))))
      · repeat (with_reducible first | assumption | refine un_dr _ ?_ | refine un_d1 ?_ | refine un_al _ ?_ | (refine un_set ?_ ?_; focus (dsimp only; omega)) | (apply un_be; assumption) | (refine un_sc _ _ ?_ ?_; focus (dsimp only; omega)))
      · refine da_lines (K := K) (s1 := s1) (n1 := n1) (q1 := q1) ?_ ?_; (focus (repeat (first | (with_reducible first | assumption | refine da_dr _ ?_ | refine da_d1 ?_ | refine da_al _ ?_) | (refine da_set (by dsimp only; omega) (by dsimp only; first | exact blk_x | exact blk_m) ?_) | (with_reducible apply da_be; with_reducible assumption)))); (repeat (with_reducible first | assumption | refine rb_dr _ ?_ | refine rb_d1 ?_ | refine rb_al _ ?_ | (refine rb_set ?_ ?_; focus (dsimp only; omega))))
      iterate 9 (focus (first | ((repeat (with_reducible first | assumption | refine c_dr _ ?_ | refine c_d1 ?_ | refine c_al _ ?_ | (refine c_set ?_ ?_; focus (dsimp only; omega)) | (apply c_be; assumption) | (refine c_sc ?_ ?_; focus (dsimp only; omega)))); done) | (simp [go_sem, *]; done)))
      iterate 2 (focus (repeat (first | (with_reducible first | assumption | refine o_dr _ ?_ | refine o_d1 ?_ | refine o_set ?_) | (with_reducible refine o_new ?_ ?_; (focus (simp)); (focus (simp))) | (with_reducible refine o_new ?_ ?_; (focus (simp [*]; done)); (focus (simp))) | (with_reducible refine o_new ?_ ?_; (focus (simp [*]; omega)); (focus (simp))) | (with_reducible first | refine o_sc ?_ | refine o_al _ ?_ | (apply o_be; assumption)))))
      · repeat (with_reducible first | assumption | exact Below.refl _ _ | refine Below.drew ?_ | refine below_drewN ?_ _ | refine bw_alloc ?_ _ | (refine bw_set ?_ ?_ _; focus (dsimp only; omega)) | (apply bw_behind; assumption) | (refine bw_sc _ ?_ ?_; focus omega))
      · first | (simp only [s_set]; with_reducible exact hs2) | (simp only [s_set]; exact lt_be (by with_reducible assumption) (by with_reducible assumption)) | (simp [go_sem]; omega) | (simp [go_sem, *]; omega)
  case rest =>
    exact HK9.out _ _ _ _ _ _ _ _ _ _ _ _ _ _ _ _ _ _ _ _ _ _ _ _ _ _ _ _ _ _ _ _ _ _ _ _ _ _ _ _ _ _ _ _ _ _ _ _ _ _ _ _ _ _ _ _ _ _ _ _ _ _ _ _ _ _ _ _ _ _ _ _ _ _ _ _ _ _ _ _ _ _ _ _ _ _ _ _ _ _ _ _ _ _ _ _ _ _ _ _ _ _ _ _ _ _ _ _ _ _ _ _ _ _ _ _ _ _ _ _ _ _ _ _ _ _ _ _ _ _ _ _ _ _ _ _ _ _ _ _ _ _ _ _ _ _ _ _ _ _ _ _ _ _ _ _ _ _ _ _ _ _ _ _ _ _ _ _ _ _ _ _ _ _ _ _ _ hcut

theorem way7 (s : Ltr) (hi : In s) (hd : s.DK = 7) : WayGoal s := by
  obtain ⟨w, w1, R, KB, mb, bq, xb, N, ab, k, ls, K, E, A, G, s1, n1, q1, s2, n2, q2, sa, na, ca, sb, nb, cb, DK, DW, DN, v, DT, b0, b1, b2, b3, b4, b5, b6, b7, b8, b9, b10, b11, Fb, VN, DV, DF⟩ := s
  obtain ⟨hm0, hw0, hRw, hKw, hlt1, hlt2, hlt3, hlt4, nNK, nNR, hk2, HK, HA, vn1, vn2, vn3, HV, HF, hM1, hU1, hD1, x1_0, x1_1, x1_2, x1_3, x1_4, m1_0, m1_1, m1_2, m1_3, ox1, om1, hB1, hs1, a1_0, a1_1, a1_2, a1_3, a1_4, a1_5, a1_6, a1_7, a1_8, a1_9, a1_10, a1_11, a1_12, a1_13, a1_14, a1_15, a1_16, a1_17, hxa, lN1, lm1, lx1, hba1, lba1, hT1⟩ := hi
  dsimp only at hd
  subst hd
  intro y0 y1 y2 y7 y9 y10 y11 y12 y13 y14 y15 y16 y17 y18 y19 y20 y21 y22 y23 y24 y25 y26 y27 y28 y29 y30 y31 y32 y33 y34 y35 y36 y37 y38 y39 y40 y41 y42 y43 y45 y46 y47 y48 y49 y50 y51 y52 y53 y54 y55 y56 y57 y58 y59 y60 y61 y62 y63 y64 y65 y66 y67 y68 y69 y70 y71 y72 y73 y74 y75 y76 y77 y78 y79 y80 y81 y82 y83 y84 y85 y86 y87 y88 y89 y90 y91 y92 y93 y94 y95 y96 y97 y98 y99 y100 y101 y102 y103 y104 y105 y106 y107 y108 y109 y110 y111 y112 y113 y114 y115 y116 y117 y118 y119 y120 y121 y122 y123 y124 y125 y126 y127 y128 y129 y130 y131 y132 y133 y134 y135 y136 y137 y138 y139 y140 y141 y142 y143 y144 y145 y146 y147 y148 y149 y150 y151 y152 y153 y154 y155 y156 y157 y158 y159 y160 y161 y162 y163 y164 y165 y166 y167 y168 y169 y170 y171 y172 y173 y174 y175 y176 y177 y178 y179 y180 y181 y182 y183 y184 y185 y186 y187 y188 y189 y190 y191 y192 y193 y194 y195 y196 y197 y198 y199 y200 y201 y202 y203 y204 y205 y206 y207 y208 y209 y210 y211 y212 y213 y214 y215 y216 y217 y218 y219 y220 y221 y222 y223 y224 y225 y226 y227 y228 y229 y230 y231 y232 y233 y234 y235 y236 y237 y238 y239 y240 y241 KK KL KM KN RR HK9
  obtain ⟨SS, LB', LS, LA', LH⟩ := rules5
  conv => arg 2; whnf
  go_cut [] from 45 to 208 (fun wx => OutW w R KB mb bq xb N k wx)
  case first =>
    clear HK9
    have HK2 : Hid (Kept ls K E (k + 1)) := hide HK.out.more
    have HA2 := HA
    have gN := hU1.gen
    have fg := hU1.free 134 (by omega)
    have fx4 := ox1.free 4 (by omega)
    have nxN : (xb == N) = false := by simp; omega
    have nNx : (N == xb) = false := by simp; omega
    go_upto_region 37 with fail
    go_region
    go_wp2_with fail
    go_meet
    refine ⟨ls, K, E, A, (!G), s1, n1, q1, s2, n2, q2, sa, na, ca, sb, nb, cb, HK2, HA2, ?_, ?_, ?_, ?_, ?_, ?_, ?_, ?_, ?_, ?_, ?_, ?_, ?_, ?_, ?_, ?_⟩
    · repeat (with_reducible first | assumption | refine mw_dr _ ?_ | refine mw_d1 ?_ | refine mw_al _ ?_ | (apply mw_be; assumption) | (refine mw_set ?_ ?_ ?_; (focus (dsimp only; omega)); (focus (dsimp only; omega))))
    · repeat (with_reducible first | assumption | refine un_dr _ ?_ | refine un_d1 ?_ | refine un_gen (G := G) _ ?_ | (refine un_set ?_ ?_; focus (dsimp only; omega)))
    · repeat (first | (with_reducible first | assumption | refine da_dr _ ?_ | refine da_d1 ?_ | refine da_al _ ?_) | (refine da_set (by dsimp only; omega) (by dsimp only; first | exact blk_x | exact blk_m | exact blk_N) ?_) | (with_reducible apply da_be; with_reducible assumption))
    iterate 9 (focus (first | ((repeat (with_reducible first | assumption | refine c_dr _ ?_ | refine c_d1 ?_ | refine c_al _ ?_ | (refine c_set ?_ ?_; focus (dsimp only; omega)) | (apply c_be; assumption) | (refine c_sc ?_ ?_; focus (dsimp only; omega)))); done) | (simp [go_sem, *]; done)))
    iterate 2 (focus (repeat (first | (with_reducible first | assumption | refine o_dr _ ?_ | refine o_d1 ?_ | refine o_set ?_) | (with_reducible refine o_new ?_ ?_; (focus (simp)); (focus (simp))) | (with_reducible refine o_new ?_ ?_; (focus (simp [*]; done)); (focus (simp))) | (with_reducible refine o_new ?_ ?_; (focus (simp [*]; omega)); (focus (simp))) | (with_reducible first | refine o_sc ?_ | refine o_al _ ?_ | (apply o_be; assumption)))))
    · repeat (with_reducible first | assumption | exact Below.refl _ _ | refine Below.drew ?_ | refine below_drewN ?_ _ | refine bw_alloc ?_ _ | (refine bw_set ?_ ?_ _; focus (dsimp only; omega)) | (apply bw_behind; assumption) | (refine bw_sc _ ?_ ?_; focus omega))
    · first | (simp only [s_set]; with_reducible exact hs1) | (simp only [s_set]; exact lt_be (by with_reducible assumption) (by with_reducible assumption)) | (simp [go_sem]; omega) | (simp [go_sem, *]; omega)
  case rest =>
    exact HK9.out _ _ _ _ _ _ _ _ _ _ _ _ _ _ _ _ _ _ _ _ _ _ _ _ _ _ _ _ _ _ _ _ _ _ _ _ _ _ _ _ _ _ _ _ _ _ _ _ _ _ _ _ _ _ _ _ _ _ _ _ _ _ _ _ _ _ _ _ _ _ _ _ _ _ _ _ _ _ _ _ _ _ _ _ _ _ _ _ _ _ _ _ _ _ _ _ _ _ _ _ _ _ _ _ _ _ _ _ _ _ _ _ _ _ _ _ _ _ _ _ _ _ _ _ _ _ _ _ _ _ _ _ _ _ _ _ _ _ _ _ _ _ _ _ _ _ _ _ _ _ _ _ _ _ _ _ _ _ _ _ _ _ _ _ _ _ _ _ _ _ _ _ _ _ _ _ _ hcut

theorem way8 (s : Ltr) (hi : In s) (hd : s.DK = 8) : WayGoal s := by
  obtain ⟨w, w1, R, KB, mb, bq, xb, N, ab, k, ls, K, E, A, G, s1, n1, q1, s2, n2, q2, sa, na, ca, sb, nb, cb, DK, DW, DN, v, DT, b0, b1, b2, b3, b4, b5, b6, b7, b8, b9, b10, b11, Fb, VN, DV, DF⟩ := s
  obtain ⟨hm0, hw0, hRw, hKw, hlt1, hlt2, hlt3, hlt4, nNK, nNR, hk2, HK, HA, vn1, vn2, vn3, HV, HF, hM1, hU1, hD1, x1_0, x1_1, x1_2, x1_3, x1_4, m1_0, m1_1, m1_2, m1_3, ox1, om1, hB1, hs1, a1_0, a1_1, a1_2, a1_3, a1_4, a1_5, a1_6, a1_7, a1_8, a1_9, a1_10, a1_11, a1_12, a1_13, a1_14, a1_15, a1_16, a1_17, hxa, lN1, lm1, lx1, hba1, lba1, hT1⟩ := hi
  dsimp only at hd
  subst hd
  intro y0 y1 y2 y7 y9 y10 y11 y12 y13 y14 y15 y16 y17 y18 y19 y20 y21 y22 y23 y24 y25 y26 y27 y28 y29 y30 y31 y32 y33 y34 y35 y36 y37 y38 y39 y40 y41 y42 y43 y45 y46 y47 y48 y49 y50 y51 y52 y53 y54 y55 y56 y57 y58 y59 y60 y61 y62 y63 y64 y65 y66 y67 y68 y69 y70 y71 y72 y73 y74 y75 y76 y77 y78 y79 y80 y81 y82 y83 y84 y85 y86 y87 y88 y89 y90 y91 y92 y93 y94 y95 y96 y97 y98 y99 y100 y101 y102 y103 y104 y105 y106 y107 y108 y109 y110 y111 y112 y113 y114 y115 y116 y117 y118 y119 y120 y121 y122 y123 y124 y125 y126 y127 y128 y129 y130 y131 y132 y133 y134 y135 y136 y137 y138 y139 y140 y141 y142 y143 y144 y145 y146 y147 y148 y149 y150 y151 y152 y153 y154 y155 y156 y157 y158 y159 y160 y161 y162 y163 y164 y165 y166 y167 y168 y169 y170 y171 y172 y173 y174 y175 y176 y177 y178 y179 y180 y181 y182 y183 y184 y185 y186 y187 y188 y189 y190 y191 y192 y193 y194 y195 y196 y197 y198 y199 y200 y201 y202 y203 y204 y205 y206 y207 y208 y209 y210 y211 y212 y213 y214 y215 y216 y217 y218 y219 y220 y221 y222 y223 y224 y225 y226 y227 y228 y229 y230 y231 y232 y233 y234 y235 y236 y237 y238 y239 y240 y241 KK KL KM KN RR HK9
  obtain ⟨SS, LB', LS, LA', LH⟩ := rules5
  conv => arg 2; whnf
  go_cut [] from 45 to 208 (fun wx => OutW w R KB mb bq xb N k wx)
  case first =>
    clear HK9
    have HK2 : Hid (Kept ls K E (k + 1)) := hide HK.out.more
    obtain ⟨A9, hA9, hw9, hA9w⟩ : ∃ A9, bits .and .i64 DN 1 = A9 /\ IntKind.u64.wrap A9 = A9 /\ Wf A9 := by
      have h1 : bits .and .i64 DN 1 = DN % 2 := by
        show bits .and .i64 DN ((1 : Nat) : Int) = _
        rw [iand_low DN 1 1 rfl (by omega)]
        omega
      rw [h1]
      exact ⟨_, rfl, by rw [IntKind.wrap_u64]; omega, by omega, by omega⟩
    have HA2 := hide hA9w
    have fg := hU1.free 133 (by omega)
    have asN := hU1.asid
    have fx3 := ox1.free 3 (by omega)
    have nxN : (xb == N) = false := by simp; omega
    have nNx : (N == xb) = false := by simp; omega
    go_upto_region 39 with fail
    go_region
    go_wp2_with fail
    go_meet
    refine ⟨ls, K, E, A9, G, s1, n1, q1, s2, n2, q2, sa, na, ca, sb, nb, cb, HK2, HA2, ?_, ?_, ?_, ?_, ?_, ?_, ?_, ?_, ?_, ?_, ?_, ?_, ?_, ?_, ?_, ?_⟩
    · repeat (with_reducible first | assumption | refine mw_dr _ ?_ | refine mw_d1 ?_ | refine mw_al _ ?_ | (apply mw_be; assumption) | (refine mw_set ?_ ?_ ?_; (focus (dsimp only; omega)); (focus (dsimp only; omega))))
    · repeat (with_reducible first | assumption | refine un_dr _ ?_ | refine un_d1 ?_ | refine un_asid (A := A) _ ?_ | (refine un_set ?_ ?_; focus (dsimp only; omega)))
    · repeat (first | (with_reducible first | assumption | refine da_dr _ ?_ | refine da_d1 ?_ | refine da_al _ ?_) | (refine da_set (by dsimp only; omega) (by dsimp only; first | exact blk_x | exact blk_m | exact blk_N) ?_) | (with_reducible apply da_be; with_reducible assumption))
    iterate 9 (focus (first | ((repeat (with_reducible first | assumption | refine c_dr _ ?_ | refine c_d1 ?_ | refine c_al _ ?_ | (refine c_set ?_ ?_; focus (dsimp only; omega)) | (apply c_be; assumption) | (refine c_sc ?_ ?_; focus (dsimp only; omega)))); done) | (simp [go_sem, *]; done)))
    iterate 2 (focus (repeat (first | (with_reducible first | assumption | refine o_dr _ ?_ | refine o_d1 ?_ | refine o_set ?_) | (with_reducible refine o_new ?_ ?_; (focus (simp)); (focus (simp))) | (with_reducible refine o_new ?_ ?_; (focus (simp [*]; done)); (focus (simp))) | (with_reducible refine o_new ?_ ?_; (focus (simp [*]; omega)); (focus (simp))) | (with_reducible first | refine o_sc ?_ | refine o_al _ ?_ | (apply o_be; assumption)))))
    · repeat (with_reducible first | assumption | exact Below.refl _ _ | refine Below.drew ?_ | refine below_drewN ?_ _ | refine bw_alloc ?_ _ | (refine bw_set ?_ ?_ _; focus (dsimp only; omega)) | (apply bw_behind; assumption) | (refine bw_sc _ ?_ ?_; focus omega))
    · first | (simp only [s_set]; with_reducible exact hs1) | (simp only [s_set]; exact lt_be (by with_reducible assumption) (by with_reducible assumption)) | (simp [go_sem]; omega) | (simp [go_sem, *]; omega)
  case rest =>
    exact HK9.out _ _ _ _ _ _ _ _ _ _ _ _ _ _ _ _ _ _ _ _ _ _ _ _ _ _ _ _ _ _ _ _ _ _ _ _ _ _ _ _ _ _ _ _ _ _ _ _ _ _ _ _ _ _ _ _ _ _ _ _ _ _ _ _ _ _ _ _ _ _ _ _ _ _ _ _ _ _ _ _ _ _ _ _ _ _ _ _ _ _ _ _ _ _ _ _ _ _ _ _ _ _ _ _ _ _ _ _ _ _ _ _ _ _ _ _ _ _ _ _ _ _ _ _ _ _ _ _ _ _ _ _ _ _ _ _ _ _ _ _ _ _ _ _ _ _ _ _ _ _ _ _ _ _ _ _ _ _ _ _ _ _ _ _ _ _ _ _ _ _ _ _ _ _ _ _ _ hcut

theorem wayx (s : Ltr) (hi : In s) (hd : (s.DK == 0) = false /\ (s.DK == 1) = false /\ (s.DK == 2) = false /\ (s.DK == 3) = false /\ (s.DK == 4) = false /\ (s.DK == 5) = false /\ (s.DK == 6) = false /\ (s.DK == 7) = false /\ (s.DK == 8) = false) : WayGoal s := by
  obtain ⟨w, w1, R, KB, mb, bq, xb, N, ab, k, ls, K, E, A, G, s1, n1, q1, s2, n2, q2, sa, na, ca, sb, nb, cb, DK, DW, DN, v, DT, b0, b1, b2, b3, b4, b5, b6, b7, b8, b9, b10, b11, Fb, VN, DV, DF⟩ := s
  obtain ⟨hm0, hw0, hRw, hKw, hlt1, hlt2, hlt3, hlt4, nNK, nNR, hk2, HK, HA, vn1, vn2, vn3, HV, HF, hM1, hU1, hD1, x1_0, x1_1, x1_2, x1_3, x1_4, m1_0, m1_1, m1_2, m1_3, ox1, om1, hB1, hs1, a1_0, a1_1, a1_2, a1_3, a1_4, a1_5, a1_6, a1_7, a1_8, a1_9, a1_10, a1_11, a1_12, a1_13, a1_14, a1_15, a1_16, a1_17, hxa, lN1, lm1, lx1, hba1, lba1, hT1⟩ := hi
  dsimp only at hd
  obtain ⟨e0, e1, e2, e3, e4, e5, e6, e7, e8⟩ := hd
  intro y0 y1 y2 y7 y9 y10 y11 y12 y13 y14 y15 y16 y17 y18 y19 y20 y21 y22 y23 y24 y25 y26 y27 y28 y29 y30 y31 y32 y33 y34 y35 y36 y37 y38 y39 y40 y41 y42 y43 y45 y46 y47 y48 y49 y50 y51 y52 y53 y54 y55 y56 y57 y58 y59 y60 y61 y62 y63 y64 y65 y66 y67 y68 y69 y70 y71 y72 y73 y74 y75 y76 y77 y78 y79 y80 y81 y82 y83 y84 y85 y86 y87 y88 y89 y90 y91 y92 y93 y94 y95 y96 y97 y98 y99 y100 y101 y102 y103 y104 y105 y106 y107 y108 y109 y110 y111 y112 y113 y114 y115 y116 y117 y118 y119 y120 y121 y122 y123 y124 y125 y126 y127 y128 y129 y130 y131 y132 y133 y134 y135 y136 y137 y138 y139 y140 y141 y142 y143 y144 y145 y146 y147 y148 y149 y150 y151 y152 y153 y154 y155 y156 y157 y158 y159 y160 y161 y162 y163 y164 y165 y166 y167 y168 y169 y170 y171 y172 y173 y174 y175 y176 y177 y178 y179 y180 y181 y182 y183 y184 y185 y186 y187 y188 y189 y190 y191 y192 y193 y194 y195 y196 y197 y198 y199 y200 y201 y202 y203 y204 y205 y206 y207 y208 y209 y210 y211 y212 y213 y214 y215 y216 y217 y218 y219 y220 y221 y222 y223 y224 y225 y226 y227 y228 y229 y230 y231 y232 y233 y234 y235 y236 y237 y238 y239 y240 y241 KK KL KM KN RR HK9
  obtain ⟨SS, LB', LS, LA', LH⟩ := rules5
  conv => arg 2; whnf
  go_cut [] from 45 to 208 (fun wx => OutW w R KB mb bq xb N k wx)
  case first =>
    clear HK9
    have HK2 : Hid (Kept ls K E (k + 1)) := hide HK.out.more
    have HA2 := HA
    go_wp2_with fail
    go_meet
    refine via_be (a := w1) ?_ (fun hb9 => ⟨ls, K, E, A, G, s1, n1, q1, s2, n2, q2, sa, na, ca, sb, nb, cb, HK2, HA2, mw_be hb9 (hM1), un_be hb9 (hU1), da_be hb9 (hD1), c_be hb9 (x1_0), c_be hb9 (x1_1), c_be hb9 (x1_2), c_be hb9 (x1_3), c_be hb9 (x1_4), c_be hb9 (m1_0), c_be hb9 (m1_1), c_be hb9 (m1_2), c_be hb9 (m1_3), o_be hb9 (ox1), o_be hb9 (om1), Below.trans (hB1) (Below.mono hb9 (Below.size (hB1))), lt_be (hs1) hb9⟩)
    repeat (with_reducible first | assumption | exact Below.refl _ _ | refine Below.drew ?_ | refine below_drewN ?_ _ | refine bw_alloc ?_ _ | (refine bw_set ?_ ?_ _; focus (dsimp only; omega)) | (apply bw_behind; assumption) | (refine bw_sc _ ?_ ?_; focus omega))
  case rest =>
    exact HK9.out _ _ _ _ _ _ _ _ _ _ _ _ _ _ _ _ _ _ _ _ _ _ _ _ _ _ _ _ _ _ _ _ _ _ _ _ _ _ _ _ _ _ _ _ _ _ _ _ _ _ _ _ _ _ _ _ _ _ _ _ _ _ _ _ _ _ _ _ _ _ _ _ _ _ _ _ _ _ _ _ _ _ _ _ _ _ _ _ _ _ _ _ _ _ _ _ _ _ _ _ _ _ _ _ _ _ _ _ _ _ _ _ _ _ _ _ _ _ _ _ _ _ _ _ _ _ _ _ _ _ _ _ _ _ _ _ _ _ _ _ _ _ _ _ _ _ _ _ _ _ _ _ _ _ _ _ _ _ _ _ _ _ _ _ _ _ _ _ _ _ _ _ _ _ _ _ _ hcut
end Go.Proofs.YtkajndonefkegaaDoor.MmuPlays
