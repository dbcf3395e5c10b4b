/-
  The statement BlockPlays: under any steps a device has the document's blocks, and fails when it says.
-/
import Derived.Test.YtadhjgjemndnpaaBlkPair
namespace Go.Proofs.Ytadhjgjemndnpaa.BlockPlays
open Go.RowKit

/-- The device. -/
structure Dv (W : World) (b m n k : Nat) (C : Nat → List UInt8) (f : Int) : Prop where
  dev : DevAt W b n m f
  map : MapB W m k C
/-- The document's device, in the variable of block R. -/
structure Rf (W : World) (R g c n : Nat) (C : Nat → List UInt8) (f : Int) : Prop where
  r0 : W.cell? ⟨R, 0, none⟩ = some (.slice (some ⟨g, 0, none⟩) n c)
  r1 : W.cell? ⟨R, 1, none⟩ = some (.int .i64 f)
  own : Own W R 2
  row : Row W g (strsL n C)
  lt : g < W.heap.size
/-- Which blocks are which. -/
structure Ap (w : World) (b m R : Nat) : Prop where
  b0 : w.heap.size ≤ b
  m0 : w.heap.size ≤ m
  R0 : w.heap.size ≤ R
  bm : b ≠ m
  Rb : R ≠ b
  Rm : R ≠ m
theorem Ap.bR {w : World} {b m R : Nat} (a : Ap w b m R) : b ≠ R := Ne.symm a.Rb
theorem Ap.mR {w : World} {b m R : Nat} (a : Ap w b m R) : m ≠ R := Ne.symm a.Rm
structure Ag (b m R g : Nat) : Prop where
  gb : g ≠ b
  gm : g ≠ m
  gR : g ≠ R
section
variable {w W W' : World} {b m R g c n k : Nat} {C : Nat → List UInt8} {f : Int}
theorem Dv.be (h : Dv W b m n k C f) (hb : Below W.heap.size W W') : Dv W' b m n k C f := ⟨dev_be hb h.dev, mb_be hb h.map⟩
theorem Dv.set {p : Addr} {u : Value} (h1 : b ≠ p.block) (h2 : m ≠ p.block) (h : Dv W b m n k C f) : Dv (W.setCell p u) b m n k C f := ⟨dev_set h1 h.dev, mb_set h2 h.map⟩
theorem Rf.be (h : Rf W R g c n C f) (hb : Below W.heap.size W W') : Rf W' R g c n C f := ⟨c_be hb h.r0, c_be hb h.r1, o_be hb h.own, k_be hb h.row, Nat.lt_of_lt_of_le h.lt hb.size⟩
theorem Rf.o2 (a : Ap w b m R) (ag : Ag b m R g) (h : Rf W R g c n C f) (ho : Out2 b m W W') : Rf W' R g c n C f :=
  ⟨o2_cell ho a.Rb a.Rm h.r0, o2_cell ho a.Rb a.Rm h.r1, o2_own ho a.Rb a.Rm h.own, o2_row ho ag.gb ag.gm h.row, Nat.lt_of_lt_of_le h.lt ho.size⟩
theorem Rf.rlt (h : Rf W R g c n C f) : R < W.heap.size := World.block_lt_of_cell? _ _ h.r0
/-- Both cells of the variable stored anew. -/
theorem Rf.put {C' : Nat → List UInt8} {g' c' : Nat} {f' : Int} (ho : Own W R 2) (hr : Row W g' (strsL n C')) (hl : g' < W.heap.size) (hne : g' ≠ R) : Rf ((W.setCell ⟨R, 0, none⟩ (.slice (some ⟨g', 0, none⟩) n c')).setCell ⟨R, 1, none⟩ (.int .i64 f')) R g' c' n C' f' :=
  ⟨set_at (o_set ho) (by omega) (by rw [if_neg (by omega)]; exact set_at ho (by omega) (by rw [if_pos rfl])), set_at (o_set ho) (by omega) (by rw [if_pos rfl]), o_set (o_set ho), k_set (Ne.symm hne) (k_set (Ne.symm hne) hr), by rw [s_set, s_set]; exact hl⟩
theorem Rf.left {f' : Int} (hne : g ≠ R) (h : Rf W R g c n C f) : Rf (W.setCell ⟨R, 1, none⟩ (.int .i64 f')) R g c n C f' :=
  ⟨set_at h.own (by omega) (by rw [if_neg (by omega)]; exact h.r0), set_at h.own (by omega) (by rw [if_pos rfl]), o_set h.own, k_set (Ne.symm hne) h.row, by rw [s_set]; exact h.lt⟩
end
theorem c_be2 {w W : World} {a : Addr} {v : Value} (hb : Below w.heap.size w W) (h : w.cell? a = some v) : W.cell? a = some v := c_be hb h
theorem raw_text {W : World} {v : Value} {L : List UInt8} (h : RawAt W v L) : (convert 33 9 v).run Try.prog W = .ok (.string (str L)) W := by
  rcases h with ⟨rfl, s, c, rfl⟩ | ⟨b, o, cap, rfl, h2⟩
  · cases s with
    | none =>
      rw [run_convert_bytes_string W 33 9 5 none 0 c Try.underlying33 Try.underlying5 Try.underlying9]
      rfl
    | some a => exact run_convert_bytes_back (P := Try.prog) W 33 9 5 a c [] Try.underlying33 Try.underlying5 Try.underlying9 (fun k hk => by simp at hk)
  · exact text_of rfl h2
theorem text_ne (S : ByteArray) (W : World) : (Op.stringOp .neq S S).run Try.prog W = .ok (.bool false) W := by simp [Op.stringOp]

set_option maxRecDepth 100000 in
set_option maxHeartbeats 2000000 in
/-- A number of blocks that may not be. -/
theorem walk_bad (n : Int) (h : n < 1 ∨ 64 < n) (s : Option Addr) (l c : Nat) (w : World) : Calls Try.prog 3 #[.int .i64 n, .slice s l c] w fun e W' => e = .returned (.bool true) ∧ Below w.heap.size w W' := by
  have N1 := hide (fun W => new_bad n h W)
  have N2 := hide (fun W => rnew_bad n h W)
  unfold refV at N2
  have N3 := hide (fun W => new_at 1 (by omega) (by omega) W)
  clear h
  go_enter Try.func3, Try.ntmps3
  go_wp2_with (first | (go_at_call 6; have _t := N1; refine (N1.out _).mono ?_; rintro e w1 ⟨rfl, k1, rfl⟩; clear N1) | (go_at_call 7; refine (N2.out _).mono ?_; rintro e w2 ⟨rfl, hb2⟩; obtain ⟨z2, hs2⟩ := below_grew hb2) | (go_at_call 6; refine (N3.out _).mono ?_; rintro e w3 ⟨b, m, rfl, hb, hm, hbm, hd, hM, hB3⟩) | (go_at_call 8; refine (blocks_at b m 1 0 (by omega) _ hd).mono ?_; rintro e w4 ⟨rfl, k4, rfl⟩))
  go_ret
  exact ⟨rfl, by repeat (first | with_reducible assumption | with_reducible exact Below.refl _ _ | with_reducible refine Below.drew ?_ | with_reducible refine below_drewN ?_ _ | with_reducible refine bw_alloc ?_ _ | (with_reducible refine bw_set ?_ ?_ _; focus (first | (simp; done) | (dsimp only; omega))) | (with_reducible apply bw_behind; with_reducible assumption))⟩

set_option maxRecDepth 100000 in
set_option maxHeartbeats 4000000 in
/-- The walk. -/
theorem walk_good (n : Nat) (h1 : 1 ≤ n) (h2 : n ≤ 64) (l : List ActD) (v : Value) (w : World) (hl : IsActs w l v) : Calls Try.prog 3 #[.int .i64 (n : Int), v] w fun e W' => e = .returned (.bool true) ∧ Below w.heap.size w W' := by
  obtain ⟨s, cap0, rfl, hcell⟩ := acts_form hl
  have HL := hide hcell
  clear hl hcell
  have N1 := hide (fun W => new_at n (by omega) (by omega) W)
  have N2 := hide (fun W => rnew_ok n h1 h2 W)
  unfold refV at N2
  go_enter Try.func3, Try.ntmps3
  go_upto_region 6 with (first | (go_at_call 6; refine (N1.out _).mono ?_; rintro e w1 ⟨b, m, rfl, hb1, hm1, hbm, hd1, hM1, hB1⟩) | (go_at_call 7; refine (N2.out _).mono ?_; rintro e w2 ⟨g, c, rfl, hg2, hlt2, hr2, hB2⟩))
  have hlb := hd1.lt
  have hlm := hM1.lt
  have sz2 := hB2.size
  have sz1 := hB1.size
  have hBw : Below w.heap.size w w2 := hB1.trans (hB2.mono hB1.size)
  have ap : Ap w b m w2.heap.size := ⟨hb1, hm1, by omega, hbm, by omega, by omega⟩
  have ag : Ag b m w2.heap.size g := ⟨by omega, by omega, by omega⟩
  refine wp_abs (fun W => Dv W b m n 0 (fun _ => zeroB) 0 ∧ Rf W w2.heap.size g c n (fun _ => zeroB) 0 ∧ Below w.heap.size w W) ?_ ?_
  · have dv2 : Dv w2 b m n 0 (fun _ => zeroB) 0 := ⟨dev_be hB2 hd1, mb_be hB2 hM1⟩
    exact ⟨dv2.be (below_alloc (Below.refl _ _) (Nat.le_refl _) _), ⟨by simp [go_sem], by simp [go_sem], o_new rfl (by simp), k_al _ hr2, by rw [s_al]; omega⟩, bw_alloc hBw _⟩
  clear hd1 hM1 hr2 hB1 hB2 hlb hlm hg2 hlt2 hBw sz2 sz1 N1 N2 hb1 hm1 hbm
  rintro w0 ⟨dv0, rf0, hB0⟩
  generalize w2.heap.size = R at *
  go_wp2
  go_loopw [11] (fun i wr => ∃ (j g c k : Nat) (C : Nat → List UInt8) (f : Int), k ≤ j ∧ j ≤ 40 ∧ j ≤ l.length ∧ i = .int .i64 j ∧ (∀ q, (C q).length = 4096) ∧ Dv wr b m n k C f ∧ Rf wr R g c n C f ∧ Ag b m R g ∧ Below w.heap.size w wr) (fun i _ => 40 - (intOf i).toNat)
  case atStart => exact ⟨0, g, c, 0, _, 0, by omega, by omega, by omega, rfl, fun _ => zeroB_length, dv0, rf0, ag, hB0⟩
  case round =>
    clear dv0 rf0 ag hB0
    obtain ⟨j, g, c, k, C, f, hkj, hj40, hjl, rfl, hC, dv, rf, ag, hB⟩ := hrel
    have hj0 : (0 : Int) ≤ (j : Int) := by omega
    by_cases hx : j < l.length ∧ j < 40
    · obtain ⟨hx1, hx2⟩ := hx
      obtain ⟨d, hd⟩ : ∃ d, l[j]? = some d := ⟨l[j], List.getElem?_eq_getElem hx1⟩
      obtain ⟨b0, off, rfl, hraw, hcs⟩ := HL.out j d hd
      obtain ⟨K, N, P, B, rv, L⟩ := d
      have hraw : RawAt w rv L := hraw
      obtain ⟨s2, c2, rfl, hrawf⟩ := raw_form hraw
      have qc : ∀ q u, ([.int .i64 K, .int .i64 N, .int .i64 P, .int .u8 (B.toNat : Int), .slice s2 L.length c2] : List Value)[q]? = some u → wr.cell? ⟨b0, off + j * 5 + q, none⟩ = some u := fun q u hu => c_be2 hB (hcs q u hu)
      have q0 : wr.cell? ⟨b0, off + j * 5, none⟩ = some (.int .i64 K) := qc 0 _ rfl
      have q1 := qc 1 _ rfl
      have q2 := qc 2 _ rfl
      have q3 := qc 3 _ rfl
      have q4 := qc 4 _ rfl
      have hx1' : (j : Int) < (l.length : Int) := by omega
      have hx2' : (j : Int) < 40 := by omega
      have HRW := hide hraw
      have HRF := hide hrawf
      clear hcs qc hd hraw hrawf
      go_upto_region 11 with fail
      refine wp_abs (fun W => Dv W b m n k C f ∧ Rf W R g c n C f ∧ Row W wr.heap.size ([.int .i64 K, .int .i64 N, .int .i64 P, .int .u8 (B.toNat : Int), .slice s2 L.length c2]) ∧ Below wr.heap.size wr W) ⟨dv.be (below_alloc (Below.refl _ _) (Nat.le_refl _) _), rf.be (below_alloc (Below.refl _ _) (Nat.le_refl _) _), row_new rfl rfl, below_alloc (Below.refl _ _) (Nat.le_refl _) _⟩ ?_
      have nb : wr.heap.size ≠ b := by have := dv.dev.lt; omega
      have nm : wr.heap.size ≠ m := by have := dv.map.lt; omega
      have nR : wr.heap.size ≠ R := by have := rf.rlt; omega
      clear q0 q1 q2 q3 q4 dv rf
      rintro wa ⟨dv, rf, bx, hBa⟩
      have lb := dv.dev.lt
      have lm := dv.map.lt
      have lR := rf.rlt
      have hB : Below w.heap.size w wa := bw_behind hBa hB
      have x0 := bx 0 _ rfl
      have x1 := bx 1 _ rfl
      have x2 := bx 2 _ rfl
      have x3 := bx 3 _ rfl
      have x4 := bx 4 _ rfl
      generalize wr.heap.size = A at *
      clear hBa
      by_cases k0 : K = 0
      · subst k0
        obtain ⟨q, hq2, hq⟩ := and_4095 P
        have F1 := full_let 0 N P B s2 L.length c2 q hq hq2 wa
        have hXl := fullL_length B q
        generalize fullL B q = X at *
        clear hq hq2
        have F1 := hide F1
        have HX := hide hXl
        clear hXl
        have BX := hide bx
        clear bx
        go_upto_region 14 with (go_at_call 9; refine F1.out.mono ?_; rintro e wf ⟨gx, rfl, hgx, hrx, hbf⟩)
        have dv := dv.be hbf
        have rf := rf.be hbf
        have bx := k_be hbf BX.out
        have hB := bw_behind hbf hB
        have sf := hbf.size
        have y0 := bx 0 _ rfl
        have y1 := bx 1 _ rfl
        have xb : gx ≠ b := by omega
        have xm : gx ≠ m := by omega
        clear x0 x1 x2 x3 x4 hbf BX F1 hgx
        obtain ⟨x, f', C', hC', P1, P2⟩ := write_pair b m n g c k C f N h1 h2 (by omega) hC ap.bm (some ⟨gx, 0, none⟩) X 4096
        rw [HX.out] at P1
        have P1 := hide (P1 wf dv.dev dv.map (fun _ => ⟨gx, 0, rfl, row_range hrx⟩))
        clear dv
        go_upto_region 15 with (go_at_call 10; refine P1.out.mono ?_; rintro e wg ⟨rfl, hd2, hm2, ho2⟩)
        have dv2 : Dv wg b m n (k + 1) C' f' := ⟨hd2, hm2⟩
        have rf2 := Rf.o2 ap ag rf ho2
        have bx2 := o2_row ho2 nb nm bx
        have hB2 := Out2.below hB ap.b0 ap.m0 hB.size ho2
        have cv := text_of (c := 4096) HX.out (row_range (o2_row ho2 xb xm hrx))
        have P2 := P2 wg rf2.row rf2.lt
        unfold refV at P2
        generalize str X = SX at *
        have P2 := hide P2
        have z0 := rf2.r0
        have z1 := rf2.r1
        have z2 := bx2 1 _ rfl
        have sg := ho2.size
        clear hd2 hm2 rf ho2 P1 bx hrx y0 y1 HX
        go_upto_region 30 with (go_at_call 11; refine P2.out.mono ?_; rintro e wh ⟨g', c', rfl, hg', hlt', hrow', hbh⟩; have o3 := o_be hbh rf2.own; obtain ⟨u0, hu0⟩ := o3.val 0 (by omega); obtain ⟨u1, hu1⟩ := o3.val 1 (by omega); have f0 := o3.free 0 (by omega); have f1 := o3.free 1 (by omega); have HO3 := hide o3; clear o3)
        have ag' : Ag b m R g' := by
          rcases hg' with rfl | hg'
          · exact ag
          · exact ⟨by omega, by omega, by omega⟩
        have dv3 := Dv.be dv2 hbh
        have hB3 := bw_behind hbh hB2
        have HR := hide hrow'
        clear hrow' P2 z0 z1 z2 rf2 bx2 dv2 hB2
        go_wp2
        go_roundw
        case rel => exact ⟨j + 1, g', c', k + 1, C', f', by omega, by omega, by omega, by go_num, hC', Dv.set ap.bR ap.mR (Dv.set ap.bR ap.mR dv3), Rf.put HO3.out HR.out hlt' ag'.gR, ag', bw_set ap.R0 (bw_set ap.R0 hB3 _) _⟩
        case measure => simp [intOf]; omega
      by_cases k1 : K = 1
      · subst k1
        obtain ⟨x, f', T, P1, P2⟩ := read_pair b m n g c k C f N h1 h2 hC ap.bm
        have P1 := hide (P1 wa dv.dev dv.map)
        clear dv
        have bx : Row wa A [.int .i64 1, .int .i64 N, .int .i64 P, .int .u8 (B.toNat : Int), .slice s2 L.length c2] := bx
        go_upto_region 18 with (go_at_call 12; refine P1.out.mono ?_; rintro e wg ⟨s3, q3, c3, rfl, htx, hd2, hm2, ho2⟩)
        have dv2 : Dv wg b m n k C f' := ⟨hd2, hm2⟩
        have rf2 := Rf.o2 ap ag rf ho2
        have bx2 := o2_row ho2 nb nm bx
        have hB2 := Out2.below hB ap.b0 ap.m0 hB.size ho2
        have P2 := P2 wg rf2.row
        unfold refV at P2
        have P2 := hide P2
        have z0 := rf2.r0
        have z1 := rf2.r1
        have z2 := bx2 1 _ rfl
        have sg := ho2.size
        have tn := text_ne (str T)
        generalize str T = ST at *
        clear hd2 hm2 rf ho2 P1 bx x0 x1 x2 x3 x4
        go_upto_region 19 with (go_at_call 13; refine P2.out.mono ?_; rintro e wh ⟨rfl, hbh⟩)
        have hbo : ∀ o, Below wg.heap.size wg (wh.alloc o) := fun o => below_alloc hbh (Nat.le_refl _) o
        have hsh := hbh.size
        refine wp_abs (fun W => Dv W b m n k C f' ∧ Rf W R g c n C f ∧ W.cell? ⟨wh.heap.size, 0, none⟩ = some (.slice (some ⟨g, 0, none⟩) n c) ∧ W.cell? ⟨wh.heap.size, 1, none⟩ = some (.int .i64 f') ∧ (convert 33 9 (.slice s3 q3 c3)).run Try.prog W = .ok (.string ST) W ∧ Below w.heap.size w W) ⟨dv2.be (hbo _), rf2.be (hbo _), by simp [go_sem], by simp [go_sem], htx _ (hbo _), bw_behind (hbo _) hB2⟩ ?_
        clear dv2 rf2 hbo htx hB2 hbh P2 z0 z1 z2 bx2
        rintro wi ⟨dv3, rf3, d0, d1, cvt, hB3⟩
        have hne : ¬ wh.heap.size = R := by omega
        generalize wh.heap.size = D at *
        obtain ⟨u0, hu0⟩ := rf3.own.val 0 (by omega)
        obtain ⟨u1, hu1⟩ := rf3.own.val 1 (by omega)
        have f0 := rf3.own.free 0 (by omega)
        have f1 := rf3.own.free 1 (by omega)
        have HF := hide rf3
        clear rf3
        go_wp2
        go_roundw
        case rel => exact ⟨j + 1, g, c, k, C, f', by omega, by omega, by omega, by go_num, hC, Dv.set ap.bR ap.mR (Dv.set ap.bR ap.mR dv3), Rf.put HF.out.own HF.out.row HF.out.lt ag.gR, ag, bw_set ap.R0 (bw_set ap.R0 hB3 _) _⟩
        case measure => simp [intOf]; omega
      by_cases k2 : K = 2
      · subst k2
        have P1 := hide (fail_at b m n f N (by omega) wa dv.dev)
        have hm := dv.map
        clear dv
        go_upto_region 24 with (go_at_call 14; refine P1.out.mono ?_; rintro e wg ⟨rfl, hd2, ho2⟩)
        have ho2 : Out2 b m wa wg := Out2.of_b ho2
        have dv2 : Dv wg b m n k C N := ⟨hd2, mb_out (by assumption) (Ne.symm ap.bm) hm⟩
        have rf2 := Rf.o2 ap ag rf ho2
        have bx2 := o2_row ho2 nb nm bx
        have hB2 := Out2.below hB ap.b0 ap.m0 hB.size ho2
        have z2 := bx2 1 _ rfl
        obtain ⟨u1, hu1⟩ := rf2.own.val 1 (by omega)
        have f1 := rf2.own.free 1 (by omega)
        have HF := hide rf2
        clear hd2 hm rf ho2 P1 bx x0 x1 x2 x3 x4 bx2 rf2
        go_wp2
        go_roundw
        case rel => exact ⟨j + 1, g, c, k, C, N, by omega, by omega, by omega, by go_num, hC, Dv.set ap.bR ap.mR dv2, Rf.left ag.gR HF.out, ag, bw_set ap.R0 hB2 _⟩
        case measure => simp [intOf]; omega
      by_cases k3 : K = 3
      · subst k3
        by_cases hlen : L.length ≤ 9000
        · have hlen' : ¬ 9000 < (L.length : Int) := by omega
          have hrf : L.length = 4096 → ∃ sb so, s2 = some ⟨sb, so, none⟩ ∧ wa.rangeAt sb so (cellsB L) := fun h => by
            obtain ⟨sb, so, e, hr⟩ := HRF.out h
            exact ⟨sb, so, e, fun q u hq => c_be hB (hr q u hq)⟩
          obtain ⟨x, f', C', hC', P1, P2⟩ := write_pair b m n g c k C f N h1 h2 (by omega) hC ap.bm s2 L c2
          have P1 := hide (P1 wa dv.dev dv.map hrf)
          clear dv hrf
          go_upto_region 29 with (go_at_call 10; refine P1.out.mono ?_; rintro e wg ⟨rfl, hd2, hm2, ho2⟩)
          have dv2 : Dv wg b m n (k + 1) C' f' := ⟨hd2, hm2⟩
          have rf2 := Rf.o2 ap ag rf ho2
          have bx2 := o2_row ho2 nb nm bx
          have hB2 := Out2.below hB ap.b0 ap.m0 hB.size ho2
          have cv := raw_text (raw_be hB2 HRW.out)
          have P2 := P2 wg rf2.row rf2.lt
          unfold refV at P2
          generalize str L = SX at *
          have P2 := hide P2
          have z0 := rf2.r0
          have z1 := rf2.r1
          have z2 := bx2 1 _ rfl
          have z4 := bx2 4 _ rfl
          have sg := ho2.size
          clear hd2 hm2 rf ho2 P1 bx x0 x1 x2 x3 x4
          go_upto_region 30 with (go_at_call 11; refine P2.out.mono ?_; rintro e wh ⟨g', c', rfl, hg', hlt', hrow', hbh⟩; have o3 := o_be hbh rf2.own; obtain ⟨u0, hu0⟩ := o3.val 0 (by omega); obtain ⟨u1, hu1⟩ := o3.val 1 (by omega); have f0 := o3.free 0 (by omega); have f1 := o3.free 1 (by omega); have HO3 := hide o3; clear o3)
          have ag' : Ag b m R g' := by
            rcases hg' with rfl | hg'
            · exact ag
            · exact ⟨by omega, by omega, by omega⟩
          have dv3 := Dv.be dv2 hbh
          have hB3 := bw_behind hbh hB2
          have HR := hide hrow'
          clear hrow' P2 z0 z1 z2 rf2 bx2 dv2 hB2
          go_wp2
          go_roundw
          case rel => exact ⟨j + 1, g', c', k + 1, C', f', by omega, by omega, by omega, by go_num, hC', Dv.set ap.bR ap.mR (Dv.set ap.bR ap.mR dv3), Rf.put HO3.out HR.out hlt' ag'.gR, ag', bw_set ap.R0 (bw_set ap.R0 hB3 _) _⟩
          case measure => simp [intOf]; omega
        · have hlen' : 9000 < (L.length : Int) := by omega
          go_wp2
          go_ret
          exact ⟨rfl, hB⟩
      · have e0 : (K == 0) = false := by simpa using k0
        have e1 : (K == 1) = false := by simpa using k1
        have e2 : (K == 2) = false := by simpa using k2
        have e3 : (K == 3) = false := by simpa using k3
        clear bx x1 x2 x3 x4
        go_wp2
        go_roundw
        case rel => exact ⟨j + 1, g, c, k, C, f, by omega, by omega, by omega, by go_num, hC, dv, rf, ag, hB⟩
        case measure => simp [intOf]; omega
    · by_cases hx1 : j < l.length
      · have hx1' : (j : Int) < (l.length : Int) := by omega
        have hx2' : ¬ (j : Int) < 40 := by omega
        go_upto_region 33 with (go_at_call 14; refine (fail_at b m n f 0 (by omega) _ dv.dev).mono ?_; rintro e wg ⟨rfl, hd2, ho2⟩)
        have ho2 : Out2 b m wr wg := Out2.of_b ho2
        have hm2 : MapB wg m k C := mb_out (by assumption) (Ne.symm ap.bm) dv.map
        have hB2 := Out2.below hB ap.b0 ap.m0 hB.size ho2
        clear dv rf ho2
        go_upto_region 34 with (go_at_call 12; refine (read_let b m n 0 0 k C (hC 0) (by omega) (by omega) (by omega) (by omega) _ hd2 hm2).mono ?_; rintro e wh ⟨gz, rfl, hgz, hrz, hbz⟩)
        have hd3 := dev_be hbz hd2
        have hB3 := bw_behind hbz hB2
        clear hd2 hm2 hrz hB2
        go_wp2_with (go_at_call 8; refine (blocks_at b m n 0 (by omega) _ hd3).mono ?_; rintro e w4 ⟨rfl, k4, rfl⟩)
        go_ret
        exact ⟨rfl, below_drewN hB3 _⟩
      · have hx1' : ¬ (j : Int) < (l.length : Int) := by omega
        go_upto_region 33 with (go_at_call 14; refine (fail_at b m n f 0 (by omega) _ dv.dev).mono ?_; rintro e wg ⟨rfl, hd2, ho2⟩)
        have ho2 : Out2 b m wr wg := Out2.of_b ho2
        have hm2 : MapB wg m k C := mb_out (by assumption) (Ne.symm ap.bm) dv.map
        have hB2 := Out2.below hB ap.b0 ap.m0 hB.size ho2
        clear dv rf ho2
        go_upto_region 34 with (go_at_call 12; refine (read_let b m n 0 0 k C (hC 0) (by omega) (by omega) (by omega) (by omega) _ hd2 hm2).mono ?_; rintro e wh ⟨gz, rfl, hgz, hrz, hbz⟩)
        have hd3 := dev_be hbz hd2
        have hB3 := bw_behind hbz hB2
        clear hd2 hm2 hrz hB2
        go_wp2_with (go_at_call 8; refine (blocks_at b m n 0 (by omega) _ hd3).mono ?_; rintro e w4 ⟨rfl, k4, rfl⟩)
        go_ret
        exact ⟨rfl, below_drewN hB3 _⟩

open Go.ChangeShapes Go.WideShapes Go.ChangeAt
theorem walks : Frame.Walks 3 Try.f3 := by
  intro H enc W base args ds ps hval hA
  rw [Try.params3] at hA hval
  obtain ⟨v0, v1, d0, d1, p0, p1, hargs, rfl, rfl, h0, h1⟩ := trodAll_two hA
  obtain rfl : args = #[v0, v1] := by cases args; simp_all
  obtain ⟨x0, rfl, rfl, rfl, w0⟩ := open_int Try.underlying3 (hval 0 3 v0 rfl rfl) h0
  obtain ⟨l, hl⟩ := open_acts (hval 1 22 v1 rfl rfl) h1
  by_cases h : x0 < 1 ∨ 64 < x0
  · obtain ⟨s, c, rfl, _⟩ := acts_form hl
    exact walk_bad x0 h s l.length c W
  · obtain ⟨n, rfl⟩ : ∃ n : Nat, x0 = (n : Int) := ⟨x0.toNat, by omega⟩
    exact walk_good n (by omega) (by omega) l v1 W hl
set_option maxRecDepth 100000 in
theorem proved : Rows.BlockPlaysSaid :=
  OpenClaim.holds_of_wide 3 Try.f3 rfl rfl rfl rfl rfl rfl rfl ⟨rfl, rfl, rfl, rfl, rfl⟩ rfl rfl rfl rfl rfl (by kernel_rfl) Try.func3 (by kernel_rfl)
    (of_decide_eq_true (by kernel_rfl)) (by unfold Func.isWrapper; first | (rw [if_pos (by decide +kernel)]; kernel_rfl) | (rw [if_neg (by decide +kernel)]; exact ⟨rfl, rfl⟩))
    (fun os started H enc _ => Frame.lift os started H enc _ _ Rows.blockPlaysSpec 4 (by kernel_rfl) Try.func3 Try.underlying4 (by kernel_rfl) rfl (by kernel_rfl)
      (fun ds h => by match ds, h with | [_, _], _ => exact ⟨rfl, rfl, rfl⟩)
      (ChangeSpec.witness6 (enc := enc) (C := Try.checked) false ⟨#[], #[.int .i64 0, .slice none 0 0], []⟩ 8 (by kernel_rfl) (by kernel_rfl) (by kernel_rfl) (by kernel_rfl)) walks)
end Go.Proofs.Ytadhjgjemndnpaa.BlockPlays
