/-
  TlbLast holds: for every l the law returns true, and turns nothing that was there.
-/
import Derived.Test.YtikdoknfcikfgaaTlbMath2
import Derived.Test.YtikdoknfcikfgaaTlbArg
import Derived.Test.YtikdoknfcikfgaaTlb9
import Derived.Test.YtikdoknfcikfgaaLawFrame
import Derived.Deep.DeepCutAuto
import Derived.BigQuiet
namespace Go.Proofs.Ytikdoknfcikfgaa.TlbLast
open Go.RowKit

theorem mu_mono {W : World} {b k : Nat} {h : Int → Int → Option Int} (H : MapU W b k h) : MapU W b (k + 1) h := by
  obtain ⟨D, h1, h2⟩ := H
  exact ⟨D, h1.mono (by omega), h2⟩
theorem out_reads {N : Nat} {w w' : World} (h : Out1 N w w') : ∀ b i, ltB b w.heap.size = true → (b == N) = false → w'.cell? ⟨b, i, none⟩ = w.cell? ⟨b, i, none⟩ := fun b i hb hne => World.cell?_of_block (w := w) (h.block b (of_decide_eq_true hb) (by simpa using hne))
theorem out_grew {N : Nat} {w w' : World} (h : Out1 N w w') : ∃ m, w'.heap.size = w.heap.size + m := ⟨w'.heap.size - w.heap.size, by have := h.size; omega⟩
theorem wf_bv (x : BitVec 64) : Wf (x.toNat : Int) := ⟨by omega, by have := x.isLt; omega⟩

set_option maxRecDepth 100000 in
set_option maxHeartbeats 32000000 in
theorem walk (v : Value) (l : List ActD) (w : World) (hl : IsActs w l v) : Calls Try.prog 4 #[v] w (Makes (.bool true) w) := by
  have SS := cell_same
  have LB' := ltB_add
  have LS := ltB_self
  have LA' := alloc_reads
  have LH := alloc_holds
  have hmm := @run_makeMap Try.prog
  obtain ⟨Z, hz, hZ⟩ := zero_tlb
  obtain ⟨s, cap, rfl, hcell⟩ := acts_form hl
  have CL := hide line_any
  have CO := hide one_any
  have N1 := hide nput_any
  have N2 := hide nclear_any
  have N3 := hide nlook_any
  have N4 := hide nlines_any
  have CPA := hide (fun (M : Nat → List Ln) (r : Nat) (a n x : Int) (h1 : n % 4 = (r : Int)) (h2 : 0 ≤ n) W h => put_any w.heap.size r a n x M h1 h2 W h)
  have CGA := hide (fun (M : Nat → List Ln) W h => lines_any w.heap.size M W h)
  have CKA := hide (fun (M : Nat → List Ln) (a n : Int) (q : Nat) (h1 : n % 4 = (q : Int)) (h2 : 0 ≤ n) W h => look_any w.heap.size M a n q h1 h2 W h)
  have CDA := hide (fun (M : Nat → List Ln) (a n : Int) W h => drop_any w.heap.size M a n W h)
  have CFA := hide (fun (M : Nat → List Ln) (a : Int) W h => flush_any w.heap.size M a W h)
  have CEA := hide (fun (M : Nat → List Ln) (p : Int) W h => evict_any w.heap.size M p W h)
  have HCL := hide hcell
  have HZ := hide hZ
  clear hcell hl hZ
  go_enter Try.func4, Try.ntmps4
  go_wp2_with fail
  go_loopw [5] (fun i wr => ∃ (k : Nat) (M : Nat → List Ln) (h : Int → Int → Option Int), k ≤ l.length ∧ k ≤ 100 ∧ i = .int .i64 (k : Int) ∧ TlbM wr w.heap.size M ∧ MapU wr (w.heap.size + 1) k h ∧ Hid (InvL M ∧ Last M h) ∧ Below w.heap.size w wr) (fun i _ => 100 - (intOf i).toNat)
  case atStart =>
    have h0 := HZ.out w 34
    have h1 := mu_made (w.alloc (.cells Z 34))
    rw [size_al] at h1
    refine ⟨0, _, _, by omega, by omega, rfl, tm_al _ h0, h1, hide ⟨invl_nil, last_nil _⟩, ?_⟩
    repeat (first | with_reducible assumption | with_reducible exact Below.refl _ _ | with_reducible refine Below.drew ?_ | with_reducible refine below_drewN ?_ _ | with_reducible refine bw_alloc ?_ _ | (with_reducible refine bw_set ?_ ?_ _; focus (dsimp only; omega)) | (with_reducible apply bw_behind; with_reducible assumption) | (with_reducible refine below_behindN (by with_reducible assumption) ?_ ?_; focus omega) | (with_reducible refine below_out (by with_reducible assumption) ?_ ?_; focus omega))
  case round =>
    obtain ⟨k, M, h, hk, hk60, rfl, hT, hMU, HM, hB⟩ := hrel
    have hzr : w.heap.size + 1 < wr.heap.size := hMU.lt
    have hzr1 : (wr.heap.size == w.heap.size) = false := by simp; omega
    have hzr2 : (wr.heap.size == w.heap.size + 1) = false := by simp; omega
    by_cases hlt : k < l.length ∧ k < 100
    · obtain ⟨hk1, hk2⟩ := hlt
      obtain ⟨d, hd⟩ : ∃ d, l[k]? = some d := ⟨_, List.getElem?_eq_getElem hk1⟩
      obtain ⟨b, off, rfl, hc⟩ := HCL.out k d hd
      have y0 : wr.cell? ⟨b, off + k * 5, none⟩ = some (.int .i64 d.kind) := c_be hB (hc 0 _ rfl)
      have y1 := c_be hB (hc 1 _ rfl)
      have y2 := c_be hB (hc 2 _ rfl)
      have y3 := c_be hB (hc 3 _ rfl)
      have y4 := c_be hB (hc 4 _ rfl)
      obtain ⟨r, hr⟩ : ∃ r : Nat, (d.n.toNat : Int) % 4 = (r : Int) := ⟨d.n.toNat % 4, by omega⟩
      have g1 : (k : Int) < (l.length : Int) := by omega
      have g2 : (k : Int) < 100 := by omega
      have g3 : (0 : Int) ≤ (k : Int) := by omega
      have hn0 : (0 : Int) ≤ (d.n.toNat : Int) := by omega
      have hwA := wf_bv d.a
      have hwN := wf_bv d.n
      have hwX := wf_bv d.x
      clear hc
      have HD := hide hd
      clear hd
      generalize (d.a.toNat : Int) = DA at *
      generalize (d.n.toNat : Int) = DN at *
      generalize (d.x.toNat : Int) = DX at *
      generalize d.kind = DK at *
      generalize d.place = DP at *
      by_cases k0 : DK = 0
      · subst k0
        have CP := hide (fun W hh => CPA.out M r DA DN DX hr hn0 W hh)
        obtain ⟨⟨ya, yn, yx⟩, hy⟩ : ∃ y, (putM M r (DA, DN, DX) r).find? (pageQ DA DN) = some y := find_put (l := (DA, DN, DX))
        have CK := hide (fun W hh => (by have := CKA.out (putM M r (DA, DN, DX)) DA DN r hr hn0 W hh; rw [hy] at this; exact this : Calls Try.prog 9 #[.pointer (some ⟨w.heap.size, 0, none⟩), .int .u64 DA, .int .u64 DN] W (Makes (.tuple #[.agg #[.int .u64 ya, .int .u64 yn, .bool false, .bool false, .bool false, .bool false, .bool false, .bool false, .bool false, .bool false, .bool false, .bool false, .bool false, .bool false, .int .u64 0, .int .u64 yx], .bool true]) W)))
        clear hy
        go_upto_region 26 with (first | (go_at_call 7; (with_reducible refine (CL.out _ _ _ _ _ _).mono ?_); rintro e wl ⟨rfl, hbl⟩; have hzl := hbl.size; (try simp only [size_al] at hzl); have hrl := below_reads hbl; obtain ⟨ml, hsl⟩ := below_grew hbl) | (go_at_call 6; (with_reducible refine (CP.out _ ?_).mono ?_); (focus (repeat (first | with_reducible assumption | with_reducible refine tm_dr _ ?_ | with_reducible refine tm_d1 ?_ | with_reducible refine tm_al _ ?_ | (with_reducible refine tm_set ?_ ?_; focus (dsimp only; omega)) | (with_reducible apply tm_be; with_reducible assumption) | (with_reducible refine tm_bn (by with_reducible assumption) ?_ ?_; focus omega) | (with_reducible refine tm_out (by with_reducible assumption) ?_ ?_; focus omega)))); rintro e wp0 ⟨rfl, hTp0, hUp0⟩; have hzp0 := hUp0.size; (try simp only [size_al] at hzp0); have hrp0 := out_reads hUp0; obtain ⟨mp0, hsp0⟩ := out_grew hUp0) | ((refine wpList_store_mu (h := h) (k := k) (b := w.heap.size + 1) rfl _ _ _ rfl rfl ?_ (by omega) hwA hwN DX hwX rfl rfl ?_); (focus (repeat (first | with_reducible assumption | with_reducible refine mu_dr _ ?_ | with_reducible refine mu_d1 ?_ | with_reducible refine mu_al _ ?_ | (with_reducible refine mu_set ?_ ?_; focus (dsimp only; omega)) | (with_reducible apply mu_be; with_reducible assumption) | (with_reducible refine mu_bn (by with_reducible assumption) ?_ ?_; focus omega) | (with_reducible refine mu_out (by with_reducible assumption) ?_ ?_; focus omega)))); intro wm hMm hUm; have hzm := hUm.size; have hrm := out_reads hUm; obtain ⟨mm, hsm⟩ := out_grew hUm) | (go_at_call 9; (with_reducible refine (CK.out _ ?_).mono ?_); (focus (repeat (first | with_reducible assumption | with_reducible refine tm_dr _ ?_ | with_reducible refine tm_d1 ?_ | with_reducible refine tm_al _ ?_ | (with_reducible refine tm_set ?_ ?_; focus (dsimp only; omega)) | (with_reducible apply tm_be; with_reducible assumption) | (with_reducible refine tm_bn (by with_reducible assumption) ?_ ?_; focus omega) | (with_reducible refine tm_out (by with_reducible assumption) ?_ ?_; focus omega)))); rintro e wk ⟨rfl, hbk⟩; have hzk := hbk.size) | ((refine wpList_store_box rfl _ _ _ rfl _ (ya) (yn) (yx) rfl rfl infoL ?_ ?_); (focus ((repeat (first | with_reducible assumption | with_reducible refine o_dr _ ?_ | with_reducible refine o_d1 ?_ | with_reducible refine o_set ?_ | (with_reducible refine o_new ?_ ?_; (focus (simp)); (focus (simp))) | (with_reducible refine o_new ?_ ?_; (focus (simp [*]; done)); (focus (simp))) | (with_reducible refine o_new ?_ ?_; (focus (simp [*]; omega)); (focus (simp))) | with_reducible refine o_al _ ?_ | (with_reducible apply o_be; with_reducible assumption) | (with_reducible refine o_bn (by with_reducible assumption) ?_ ?_; focus omega))); done)); intro wy hry hby hoy hsy; (try simp only [size_al] at hsy)))
        refine wp_abs (fun W => TlbM W w.heap.size (putM M r (DA, DN, DX)) ∧ MapU W (w.heap.size + 1) (k + 1) (upd2 h DA DN (some DX)) ∧ Below w.heap.size w W ∧ w.heap.size < W.heap.size) ?_ ?_
        · have hz := hB.size
          refine ⟨?_, ?_, ?_, ?_⟩
          · repeat (first | with_reducible assumption | with_reducible refine tm_dr _ ?_ | with_reducible refine tm_d1 ?_ | with_reducible refine tm_al _ ?_ | (with_reducible refine tm_set ?_ ?_; focus (dsimp only; omega)) | (with_reducible apply tm_be; with_reducible assumption) | (with_reducible refine tm_bn (by with_reducible assumption) ?_ ?_; focus omega) | (with_reducible refine tm_out (by with_reducible assumption) ?_ ?_; focus omega))
          · first | ((repeat (first | with_reducible assumption | with_reducible refine mu_dr _ ?_ | with_reducible refine mu_d1 ?_ | with_reducible refine mu_al _ ?_ | (with_reducible refine mu_set ?_ ?_; focus (dsimp only; omega)) | (with_reducible apply mu_be; with_reducible assumption) | (with_reducible refine mu_bn (by with_reducible assumption) ?_ ?_; focus omega) | (with_reducible refine mu_out (by with_reducible assumption) ?_ ?_; focus omega))); done) | (refine mu_mono ?_; repeat (first | with_reducible assumption | with_reducible refine mu_dr _ ?_ | with_reducible refine mu_d1 ?_ | with_reducible refine mu_al _ ?_ | (with_reducible refine mu_set ?_ ?_; focus (dsimp only; omega)) | (with_reducible apply mu_be; with_reducible assumption) | (with_reducible refine mu_bn (by with_reducible assumption) ?_ ?_; focus omega) | (with_reducible refine mu_out (by with_reducible assumption) ?_ ?_; focus omega)))
          · repeat (first | with_reducible assumption | with_reducible exact Below.refl _ _ | with_reducible refine Below.drew ?_ | with_reducible refine below_drewN ?_ _ | with_reducible refine bw_alloc ?_ _ | (with_reducible refine bw_set ?_ ?_ _; focus (dsimp only; omega)) | (with_reducible apply bw_behind; with_reducible assumption) | (with_reducible refine below_behindN (by with_reducible assumption) ?_ ?_; focus omega) | (with_reducible refine below_out (by with_reducible assumption) ?_ ?_; focus omega))
          · first | omega | (simp only [size_al] at *; omega)
        rintro w1 ⟨hT1, hMU1, hB1, hs1⟩

        have HM2 : Hid (InvL (putM M r (DA, DN, DX)) ∧ Last (putM M r (DA, DN, DX)) (upd2 h DA DN (some DX))) := hide ⟨invl_put HM.out.1 hr ⟨hwA, hwN, hwX⟩, last_put (l := (DA, DN, DX)) HM.out.2⟩
        obtain ⟨M2, hM2⟩ : ∃ M2, (putM M r (DA, DN, DX)) = M2 := ⟨_, rfl⟩
        obtain ⟨h2, hh2⟩ : ∃ h2, (upd2 h DA DN (some DX)) = h2 := ⟨_, rfl⟩
        rw [hM2] at hT1 HM2
        rw [hh2] at hMU1 HM2
        have CGx := fun W h => CGA.out M2 W h
        have hm8 := upF_length M2 4 (fun r hr => HM2.out.1.inv.len r hr)
        have HLSx : (upF M2 4).Pairwise pageNe ∧ ∀ (j : Nat) (l : Ln), (upF M2 4)[j]? = some l → Wfl l ∧ h2 l.1 l.2.1 = some l.2.2 := ⟨upF_ne HM2.out.1 4 (by omega), fun j l hl => by
          obtain ⟨r, hr, hm⟩ := mem_upF (List.mem_of_getElem? hl)
          exact ⟨HM2.out.1.wf r hr _ hm, HM2.out.2 r hr _ hm⟩⟩
        obtain ⟨L, hL⟩ : ∃ L, upF M2 4 = L := ⟨_, rfl⟩
        rw [hL] at CGx HLSx hm8
        obtain ⟨m, hm⟩ : ∃ m, L.length = m := ⟨_, rfl⟩
        rw [hm] at CGx hm8
        have CG := hide CGx
        have HLS := hide HLSx
        have HLM := hide hm
        have hm9 : ¬ ((8 : Int) < (m : Int)) := by omega
        have hbm1 := hMU1.lt
        clear CGx HLSx hm hL hM2 hh2
        go_wp2_with (first | (go_at_call 19; (with_reducible refine (CG.out _ ?_).mono ?_); (focus (repeat (first | with_reducible assumption | with_reducible refine tm_dr _ ?_ | with_reducible refine tm_d1 ?_ | with_reducible refine tm_al _ ?_ | (with_reducible refine tm_set ?_ ?_; focus (dsimp only; omega)) | (with_reducible apply tm_be; with_reducible assumption) | (with_reducible refine tm_bn (by with_reducible assumption) ?_ ?_; focus omega) | (with_reducible refine tm_out (by with_reducible assumption) ?_ ?_; focus omega)))); rintro e wg ⟨A, rfl, hrA, hA, hbg⟩; have hzg := hbg.size; try simp only [size_al] at hzg hA))
        have hAx : 0 < m → A < wg.heap.size := fun h0 => by
          have e := List.getElem?_eq_getElem (show 0 < L.length by rw [HLM.out]; exact h0)
          exact World.block_lt_of_cell? wg ⟨A, 16 * 0 + 0, none⟩ (flat_line hrA 0 _ e 0 _ rfl)
        refine wp_abs (fun W => TlbM W w.heap.size M2 ∧ MapU W (w.heap.size + 1) (k + 1) h2 ∧ Below w.heap.size w W ∧ W.rangeAt A 0 (flatC L) ∧ MapB W wg.heap.size 0 (seenS L 0)) ?_ ?_
        · refine ⟨?_, ?_, ?_, ?_, mb_made _⟩
          · repeat (first | with_reducible assumption | with_reducible refine tm_dr _ ?_ | with_reducible refine tm_d1 ?_ | with_reducible refine tm_al _ ?_ | (with_reducible refine tm_set ?_ ?_; focus (dsimp only; omega)) | (with_reducible apply tm_be; with_reducible assumption) | (with_reducible refine tm_bn (by with_reducible assumption) ?_ ?_; focus omega) | (with_reducible refine tm_out (by with_reducible assumption) ?_ ?_; focus omega))
          · repeat (first | with_reducible assumption | with_reducible refine mu_dr _ ?_ | with_reducible refine mu_d1 ?_ | with_reducible refine mu_al _ ?_ | (with_reducible refine mu_set ?_ ?_; focus (dsimp only; omega)) | (with_reducible apply mu_be; with_reducible assumption) | (with_reducible refine mu_bn (by with_reducible assumption) ?_ ?_; focus omega) | (with_reducible refine mu_out (by with_reducible assumption) ?_ ?_; focus omega))
          · repeat (first | with_reducible assumption | with_reducible exact Below.refl _ _ | with_reducible refine Below.drew ?_ | with_reducible refine below_drewN ?_ _ | with_reducible refine bw_alloc ?_ _ | (with_reducible refine bw_set ?_ ?_ _; focus (dsimp only; omega)) | (with_reducible apply bw_behind; with_reducible assumption) | (with_reducible refine below_behindN (by with_reducible assumption) ?_ ?_; focus omega) | (with_reducible refine below_out (by with_reducible assumption) ?_ ?_; focus omega))
          · exact fun j v hv => c_al _ (hrA j v hv)
        rintro w2 ⟨hT2, hMU2, hB2, hR2, hMB2⟩
        have hTB : w.heap.size < wg.heap.size := by omega
        have hMB : w.heap.size + 1 < wg.heap.size := by omega
        generalize wg.heap.size = BB at *
        have HR2 := hide hR2
        have HB2 := hide hB2
        have HT2 := hide hT2
        have HMU2 := hide hMU2
        clear hR2 hB2 hT2 hMU2 hT1 hMU1 hB1 hT hMU CG hrA hbg
        go_loopw [12] (fun i wr => ∃ j : Nat, j ≤ m ∧ i = .int .i64 (j : Int) ∧ Hid (MapB wr BB j (seenS L j)) ∧ Out1 BB w2 wr) (fun i _ => m - (intOf i).toNat)
        case atStart => exact ⟨0, by omega, rfl, hide hMB2, Out1.refl _ _⟩
        case round =>
          obtain ⟨j, hj, rfl, HMB, hU⟩ := hrel
          by_cases hjm : j < m
          · obtain ⟨⟨la, ln, lx⟩, hll⟩ : ∃ x, L[j]? = some x := ⟨_, List.getElem?_eq_getElem (by rw [HLM.out]; exact hjm)⟩
            obtain ⟨hwl, hlast⟩ := HLS.out.2 j _ hll
            have hns : seenS L j la ln = false := not_seen HLS.out.1 hll
            have hsome : (h2 la ln).isSome = true := by rw [hlast]; rfl
            have hAB := hAx (by omega)
            have hBA : ¬ (A = BB) := by omega
            have c0 : w2.cell? ⟨A, j * 16, none⟩ = some (.int .u64 la) := flat_at HR2.out _ hll 0 _ rfl
            have c1 : w2.cell? ⟨A, j * 16 + 1, none⟩ = some (.int .u64 ln) := flat_at HR2.out _ hll 1 _ rfl
            have c2 : w2.cell? ⟨A, j * 16 + 15, none⟩ = some (.int .u64 lx) := flat_at HR2.out _ hll 15 _ rfl
            have d0 := hU.reads (p := ⟨A, j * 16, none⟩) (fun e => hBA e) c0
            have d1 := hU.reads (p := ⟨A, j * 16 + 1, none⟩) (fun e => hBA e) c1
            have b1 : (j : Int) < (m : Int) := by omega
            have b2 : ¬ ((m : Int) ≤ (j : Int)) := by omega
            have b3 : (0 : Int) ≤ (j : Int) := by omega
            have hUs := hU.size
            have hBl := HMB.out.lt
            have hAl : ltB A wr.heap.size = true := decide_eq_true (by omega)
            have HLL := hide hll
            clear hll
            go_upto_region 33 with (first | fail)
            go_region
            go_upto_region 34 with (first | fail)
            refine wp_abs (fun W => W.cell? ⟨wr.heap.size, 0, none⟩ = some (.int .u64 la) ∧ W.cell? ⟨wr.heap.size, 1, none⟩ = some (.int .u64 ln) ∧ Out1 BB w2 W ∧ MapB W BB j (seenS L j)) ?_ ?_
            · refine ⟨?_, ?_, ?_, ?_⟩
              · simp [go_sem]
              · simp [go_sem]
              · repeat (first | with_reducible assumption | with_reducible exact Out1.refl _ _ | with_reducible refine u_dr _ ?_ | with_reducible refine u_d1 ?_ | with_reducible refine u_al _ ?_ | with_reducible refine u_in _ ?_ | (with_reducible refine u_new _ ?_ ?_; focus (dsimp only; omega)) | (with_reducible refine Out1.trans ?_ (by with_reducible assumption)) | (with_reducible apply u_bh; with_reducible assumption) | (with_reducible refine u_be (by with_reducible assumption) ?_ ?_; focus omega))
              · have hMB0 := HMB.out
                repeat (first | with_reducible assumption | with_reducible refine mb_dr _ ?_ | with_reducible refine mb_d1 ?_ | with_reducible refine mb_al _ ?_ | (with_reducible refine mb_set ?_ ?_; focus (dsimp only; omega)) | (with_reducible apply mb_be; with_reducible assumption) | (with_reducible refine mb_bn (by with_reducible assumption) ?_ ?_; focus omega) | (with_reducible refine mb_out (by with_reducible assumption) ?_ ?_; focus omega))
            rintro w3 ⟨p0, p1, hU3, hMB3⟩
            have d2 := hU3.reads (p := ⟨A, j * 16 + 15, none⟩) (fun e => hBA e) c2
            have hMU3 : MapU w3 (w.heap.size + 1) (k + 1) h2 := mu_out hU3 (by omega) HMU2.out
            clear d0 d1 c0 c1 c2
            go_wp2_with (first | ((refine wpList_look_mu (h := h2) (k := k + 1) (b := w.heap.size + 1) rfl _ _ rfl rfl ?_ hwl.1 hwl.2.1 rfl ?_); (focus (repeat (first | with_reducible assumption | with_reducible refine mu_dr _ ?_ | with_reducible refine mu_d1 ?_ | with_reducible refine mu_al _ ?_ | (with_reducible refine mu_set ?_ ?_; focus (dsimp only; omega)) | (with_reducible apply mu_be; with_reducible assumption) | (with_reducible refine mu_bn (by with_reducible assumption) ?_ ?_; focus omega) | (with_reducible refine mu_out (by with_reducible assumption) ?_ ?_; focus omega)))); intro c hc; have hcc := hc _ hlast; subst hcc) | ((refine wpList_look_mb (s := seenS L j) (k := j) (b := BB) rfl _ _ rfl rfl ?_ hwl.1 hwl.2.1 rfl ?_); (focus (repeat (first | with_reducible assumption | with_reducible refine mb_dr _ ?_ | with_reducible refine mb_d1 ?_ | with_reducible refine mb_al _ ?_ | (with_reducible refine mb_set ?_ ?_; focus (dsimp only; omega)) | (with_reducible apply mb_be; with_reducible assumption) | (with_reducible refine mb_bn (by with_reducible assumption) ?_ ?_; focus omega) | (with_reducible refine mb_out (by with_reducible assumption) ?_ ?_; focus omega))))) | ((refine wpList_store_mb (s := seenS L j) (k := j) (b := BB) rfl _ _ _ rfl rfl ?_ (by omega) hwl.1 hwl.2.1 rfl rfl ?_); (focus (repeat (first | with_reducible assumption | with_reducible refine mb_dr _ ?_ | with_reducible refine mb_d1 ?_ | with_reducible refine mb_al _ ?_ | (with_reducible refine mb_set ?_ ?_; focus (dsimp only; omega)) | (with_reducible apply mb_be; with_reducible assumption) | (with_reducible refine mb_bn (by with_reducible assumption) ?_ ?_; focus omega) | (with_reducible refine mb_out (by with_reducible assumption) ?_ ?_; focus omega)))); intro wq hMq hUq))
            go_roundw
            case rel =>
              refine ⟨j + 1, by omega, by go_num, ?_, Out1.trans hU3 hUq⟩
              have e := seen_step HLL.out
              dsimp only at e
              rw [← e]
              exact hide hMq
            case measure => simp [intOf]; omega
          · obtain rfl : j = m := by omega
            go_wp2_with fail
            go_roundw
            case rel =>
              refine ⟨k + 1, M2, h2, by omega, by omega, by go_num, ?_, ?_, HM2, ?_⟩
              · have hT2 := HT2.out
                exact tm_out hU (by omega) hT2
              · have hMU2 := HMU2.out
                exact mu_out hU (by omega) hMU2
              · have hB2 := HB2.out
                exact below_out hU (by omega) hB2
            case measure => simp [intOf]; omega
      · have e0 : (DK == 0) = false := by simpa using k0
        by_cases k2 : DK = 2
        · subst k2
          have CD := hide (fun W hh => CDA.out M DA DN W hh)
          go_upto_region 26 with (first | (go_at_call 11; (with_reducible refine (CD.out _ ?_).mono ?_); (focus (repeat (first | with_reducible assumption | with_reducible refine tm_dr _ ?_ | with_reducible refine tm_d1 ?_ | with_reducible refine tm_al _ ?_ | (with_reducible refine tm_set ?_ ?_; focus (dsimp only; omega)) | (with_reducible apply tm_be; with_reducible assumption) | (with_reducible refine tm_bn (by with_reducible assumption) ?_ ?_; focus omega) | (with_reducible refine tm_out (by with_reducible assumption) ?_ ?_; focus omega)))); rintro e wp0 ⟨rfl, hTp0, hUp0⟩; have hzp0 := hUp0.size; (try simp only [size_al] at hzp0); have hrp0 := out_reads hUp0; obtain ⟨mp0, hsp0⟩ := out_grew hUp0) | ((refine wpList_del_mu (h := h) (k := k) (b := w.heap.size + 1) rfl _ _ rfl rfl ?_ hwA hwN rfl ?_); (focus (repeat (first | with_reducible assumption | with_reducible refine mu_dr _ ?_ | with_reducible refine mu_d1 ?_ | with_reducible refine mu_al _ ?_ | (with_reducible refine mu_set ?_ ?_; focus (dsimp only; omega)) | (with_reducible apply mu_be; with_reducible assumption) | (with_reducible refine mu_bn (by with_reducible assumption) ?_ ?_; focus omega) | (with_reducible refine mu_out (by with_reducible assumption) ?_ ?_; focus omega)))); intro wm hMm hUm; have hzm := hUm.size; have hrm := out_reads hUm; obtain ⟨mm, hsm⟩ := out_grew hUm))
          refine wp_abs (fun W => TlbM W w.heap.size (dropM M DA DN) ∧ MapU W (w.heap.size + 1) (k + 1) (upd2 h DA DN none) ∧ Below w.heap.size w W ∧ w.heap.size < W.heap.size) ?_ ?_
          · have hz := hB.size
            refine ⟨?_, ?_, ?_, ?_⟩
            · repeat (first | with_reducible assumption | with_reducible refine tm_dr _ ?_ | with_reducible refine tm_d1 ?_ | with_reducible refine tm_al _ ?_ | (with_reducible refine tm_set ?_ ?_; focus (dsimp only; omega)) | (with_reducible apply tm_be; with_reducible assumption) | (with_reducible refine tm_bn (by with_reducible assumption) ?_ ?_; focus omega) | (with_reducible refine tm_out (by with_reducible assumption) ?_ ?_; focus omega))
            · first | ((repeat (first | with_reducible assumption | with_reducible refine mu_dr _ ?_ | with_reducible refine mu_d1 ?_ | with_reducible refine mu_al _ ?_ | (with_reducible refine mu_set ?_ ?_; focus (dsimp only; omega)) | (with_reducible apply mu_be; with_reducible assumption) | (with_reducible refine mu_bn (by with_reducible assumption) ?_ ?_; focus omega) | (with_reducible refine mu_out (by with_reducible assumption) ?_ ?_; focus omega))); done) | (refine mu_mono ?_; repeat (first | with_reducible assumption | with_reducible refine mu_dr _ ?_ | with_reducible refine mu_d1 ?_ | with_reducible refine mu_al _ ?_ | (with_reducible refine mu_set ?_ ?_; focus (dsimp only; omega)) | (with_reducible apply mu_be; with_reducible assumption) | (with_reducible refine mu_bn (by with_reducible assumption) ?_ ?_; focus omega) | (with_reducible refine mu_out (by with_reducible assumption) ?_ ?_; focus omega)))
            · repeat (first | with_reducible assumption | with_reducible exact Below.refl _ _ | with_reducible refine Below.drew ?_ | with_reducible refine below_drewN ?_ _ | with_reducible refine bw_alloc ?_ _ | (with_reducible refine bw_set ?_ ?_ _; focus (dsimp only; omega)) | (with_reducible apply bw_behind; with_reducible assumption) | (with_reducible refine below_behindN (by with_reducible assumption) ?_ ?_; focus omega) | (with_reducible refine below_out (by with_reducible assumption) ?_ ?_; focus omega))
            · first | omega | (simp only [size_al] at *; omega)
          rintro w1 ⟨hT1, hMU1, hB1, hs1⟩

          have HM2 : Hid (InvL (dropM M DA DN) ∧ Last (dropM M DA DN) (upd2 h DA DN none)) := hide ⟨invl_drop _ _ HM.out.1, last_drop HM.out.2⟩
          obtain ⟨M2, hM2⟩ : ∃ M2, (dropM M DA DN) = M2 := ⟨_, rfl⟩
          obtain ⟨h2, hh2⟩ : ∃ h2, (upd2 h DA DN none) = h2 := ⟨_, rfl⟩
          rw [hM2] at hT1 HM2
          rw [hh2] at hMU1 HM2
          have CGx := fun W h => CGA.out M2 W h
          have hm8 := upF_length M2 4 (fun r hr => HM2.out.1.inv.len r hr)
          have HLSx : (upF M2 4).Pairwise pageNe ∧ ∀ (j : Nat) (l : Ln), (upF M2 4)[j]? = some l → Wfl l ∧ h2 l.1 l.2.1 = some l.2.2 := ⟨upF_ne HM2.out.1 4 (by omega), fun j l hl => by
            obtain ⟨r, hr, hm⟩ := mem_upF (List.mem_of_getElem? hl)
            exact ⟨HM2.out.1.wf r hr _ hm, HM2.out.2 r hr _ hm⟩⟩
          obtain ⟨L, hL⟩ : ∃ L, upF M2 4 = L := ⟨_, rfl⟩
          rw [hL] at CGx HLSx hm8
          obtain ⟨m, hm⟩ : ∃ m, L.length = m := ⟨_, rfl⟩
          rw [hm] at CGx hm8
          have CG := hide CGx
          have HLS := hide HLSx
          have HLM := hide hm
          have hm9 : ¬ ((8 : Int) < (m : Int)) := by omega
          have hbm1 := hMU1.lt
          clear CGx HLSx hm hL hM2 hh2
          go_wp2_with (first | (go_at_call 19; (with_reducible refine (CG.out _ ?_).mono ?_); (focus (repeat (first | with_reducible assumption | with_reducible refine tm_dr _ ?_ | with_reducible refine tm_d1 ?_ | with_reducible refine tm_al _ ?_ | (with_reducible refine tm_set ?_ ?_; focus (dsimp only; omega)) | (with_reducible apply tm_be; with_reducible assumption) | (with_reducible refine tm_bn (by with_reducible assumption) ?_ ?_; focus omega) | (with_reducible refine tm_out (by with_reducible assumption) ?_ ?_; focus omega)))); rintro e wg ⟨A, rfl, hrA, hA, hbg⟩; have hzg := hbg.size; try simp only [size_al] at hzg hA))
          have hAx : 0 < m → A < wg.heap.size := fun h0 => by
            have e := List.getElem?_eq_getElem (show 0 < L.length by rw [HLM.out]; exact h0)
            exact World.block_lt_of_cell? wg ⟨A, 16 * 0 + 0, none⟩ (flat_line hrA 0 _ e 0 _ rfl)
          refine wp_abs (fun W => TlbM W w.heap.size M2 ∧ MapU W (w.heap.size + 1) (k + 1) h2 ∧ Below w.heap.size w W ∧ W.rangeAt A 0 (flatC L) ∧ MapB W wg.heap.size 0 (seenS L 0)) ?_ ?_
          · refine ⟨?_, ?_, ?_, ?_, mb_made _⟩
            · repeat (first | with_reducible assumption | with_reducible refine tm_dr _ ?_ | with_reducible refine tm_d1 ?_ | with_reducible refine tm_al _ ?_ | (with_reducible refine tm_set ?_ ?_; focus (dsimp only; omega)) | (with_reducible apply tm_be; with_reducible assumption) | (with_reducible refine tm_bn (by with_reducible assumption) ?_ ?_; focus omega) | (with_reducible refine tm_out (by with_reducible assumption) ?_ ?_; focus omega))
            · repeat (first | with_reducible assumption | with_reducible refine mu_dr _ ?_ | with_reducible refine mu_d1 ?_ | with_reducible refine mu_al _ ?_ | (with_reducible refine mu_set ?_ ?_; focus (dsimp only; omega)) | (with_reducible apply mu_be; with_reducible assumption) | (with_reducible refine mu_bn (by with_reducible assumption) ?_ ?_; focus omega) | (with_reducible refine mu_out (by with_reducible assumption) ?_ ?_; focus omega))
            · repeat (first | with_reducible assumption | with_reducible exact Below.refl _ _ | with_reducible refine Below.drew ?_ | with_reducible refine below_drewN ?_ _ | with_reducible refine bw_alloc ?_ _ | (with_reducible refine bw_set ?_ ?_ _; focus (dsimp only; omega)) | (with_reducible apply bw_behind; with_reducible assumption) | (with_reducible refine below_behindN (by with_reducible assumption) ?_ ?_; focus omega) | (with_reducible refine below_out (by with_reducible assumption) ?_ ?_; focus omega))
            · exact fun j v hv => c_al _ (hrA j v hv)
          rintro w2 ⟨hT2, hMU2, hB2, hR2, hMB2⟩
          have hTB : w.heap.size < wg.heap.size := by omega
          have hMB : w.heap.size + 1 < wg.heap.size := by omega
          generalize wg.heap.size = BB at *
          have HR2 := hide hR2
          have HB2 := hide hB2
          have HT2 := hide hT2
          have HMU2 := hide hMU2
          clear hR2 hB2 hT2 hMU2 hT1 hMU1 hB1 hT hMU CG hrA hbg
          go_loopw [12] (fun i wr => ∃ j : Nat, j ≤ m ∧ i = .int .i64 (j : Int) ∧ Hid (MapB wr BB j (seenS L j)) ∧ Out1 BB w2 wr) (fun i _ => m - (intOf i).toNat)
          case atStart => exact ⟨0, by omega, rfl, hide hMB2, Out1.refl _ _⟩
          case round =>
            obtain ⟨j, hj, rfl, HMB, hU⟩ := hrel
            by_cases hjm : j < m
            · obtain ⟨⟨la, ln, lx⟩, hll⟩ : ∃ x, L[j]? = some x := ⟨_, List.getElem?_eq_getElem (by rw [HLM.out]; exact hjm)⟩
              obtain ⟨hwl, hlast⟩ := HLS.out.2 j _ hll
              have hns : seenS L j la ln = false := not_seen HLS.out.1 hll
              have hsome : (h2 la ln).isSome = true := by rw [hlast]; rfl
              have hAB := hAx (by omega)
              have hBA : ¬ (A = BB) := by omega
              have c0 : w2.cell? ⟨A, j * 16, none⟩ = some (.int .u64 la) := flat_at HR2.out _ hll 0 _ rfl
              have c1 : w2.cell? ⟨A, j * 16 + 1, none⟩ = some (.int .u64 ln) := flat_at HR2.out _ hll 1 _ rfl
              have c2 : w2.cell? ⟨A, j * 16 + 15, none⟩ = some (.int .u64 lx) := flat_at HR2.out _ hll 15 _ rfl
              have d0 := hU.reads (p := ⟨A, j * 16, none⟩) (fun e => hBA e) c0
              have d1 := hU.reads (p := ⟨A, j * 16 + 1, none⟩) (fun e => hBA e) c1
              have b1 : (j : Int) < (m : Int) := by omega
              have b2 : ¬ ((m : Int) ≤ (j : Int)) := by omega
              have b3 : (0 : Int) ≤ (j : Int) := by omega
              have hUs := hU.size
              have hBl := HMB.out.lt
              have hAl : ltB A wr.heap.size = true := decide_eq_true (by omega)
              have HLL := hide hll
              clear hll
              go_upto_region 33 with (first | fail)
              go_region
              go_upto_region 34 with (first | fail)
              refine wp_abs (fun W => W.cell? ⟨wr.heap.size, 0, none⟩ = some (.int .u64 la) ∧ W.cell? ⟨wr.heap.size, 1, none⟩ = some (.int .u64 ln) ∧ Out1 BB w2 W ∧ MapB W BB j (seenS L j)) ?_ ?_
              · refine ⟨?_, ?_, ?_, ?_⟩
                · simp [go_sem]
                · simp [go_sem]
                · repeat (first | with_reducible assumption | with_reducible exact Out1.refl _ _ | with_reducible refine u_dr _ ?_ | with_reducible refine u_d1 ?_ | with_reducible refine u_al _ ?_ | with_reducible refine u_in _ ?_ | (with_reducible refine u_new _ ?_ ?_; focus (dsimp only; omega)) | (with_reducible refine Out1.trans ?_ (by with_reducible assumption)) | (with_reducible apply u_bh; with_reducible assumption) | (with_reducible refine u_be (by with_reducible assumption) ?_ ?_; focus omega))
                · have hMB0 := HMB.out
                  repeat (first | with_reducible assumption | with_reducible refine mb_dr _ ?_ | with_reducible refine mb_d1 ?_ | with_reducible refine mb_al _ ?_ | (with_reducible refine mb_set ?_ ?_; focus (dsimp only; omega)) | (with_reducible apply mb_be; with_reducible assumption) | (with_reducible refine mb_bn (by with_reducible assumption) ?_ ?_; focus omega) | (with_reducible refine mb_out (by with_reducible assumption) ?_ ?_; focus omega))
              rintro w3 ⟨p0, p1, hU3, hMB3⟩
              have d2 := hU3.reads (p := ⟨A, j * 16 + 15, none⟩) (fun e => hBA e) c2
              have hMU3 : MapU w3 (w.heap.size + 1) (k + 1) h2 := mu_out hU3 (by omega) HMU2.out
              clear d0 d1 c0 c1 c2
              go_wp2_with (first | ((refine wpList_look_mu (h := h2) (k := k + 1) (b := w.heap.size + 1) rfl _ _ rfl rfl ?_ hwl.1 hwl.2.1 rfl ?_); (focus (repeat (first | with_reducible assumption | with_reducible refine mu_dr _ ?_ | with_reducible refine mu_d1 ?_ | with_reducible refine mu_al _ ?_ | (with_reducible refine mu_set ?_ ?_; focus (dsimp only; omega)) | (with_reducible apply mu_be; with_reducible assumption) | (with_reducible refine mu_bn (by with_reducible assumption) ?_ ?_; focus omega) | (with_reducible refine mu_out (by with_reducible assumption) ?_ ?_; focus omega)))); intro c hc; have hcc := hc _ hlast; subst hcc) | ((refine wpList_look_mb (s := seenS L j) (k := j) (b := BB) rfl _ _ rfl rfl ?_ hwl.1 hwl.2.1 rfl ?_); (focus (repeat (first | with_reducible assumption | with_reducible refine mb_dr _ ?_ | with_reducible refine mb_d1 ?_ | with_reducible refine mb_al _ ?_ | (with_reducible refine mb_set ?_ ?_; focus (dsimp only; omega)) | (with_reducible apply mb_be; with_reducible assumption) | (with_reducible refine mb_bn (by with_reducible assumption) ?_ ?_; focus omega) | (with_reducible refine mb_out (by with_reducible assumption) ?_ ?_; focus omega))))) | ((refine wpList_store_mb (s := seenS L j) (k := j) (b := BB) rfl _ _ _ rfl rfl ?_ (by omega) hwl.1 hwl.2.1 rfl rfl ?_); (focus (repeat (first | with_reducible assumption | with_reducible refine mb_dr _ ?_ | with_reducible refine mb_d1 ?_ | with_reducible refine mb_al _ ?_ | (with_reducible refine mb_set ?_ ?_; focus (dsimp only; omega)) | (with_reducible apply mb_be; with_reducible assumption) | (with_reducible refine mb_bn (by with_reducible assumption) ?_ ?_; focus omega) | (with_reducible refine mb_out (by with_reducible assumption) ?_ ?_; focus omega)))); intro wq hMq hUq))
              go_roundw
              case rel =>
                refine ⟨j + 1, by omega, by go_num, ?_, Out1.trans hU3 hUq⟩
                have e := seen_step HLL.out
                dsimp only at e
                rw [← e]
                exact hide hMq
              case measure => simp [intOf]; omega
            · obtain rfl : j = m := by omega
              go_wp2_with fail
              go_roundw
              case rel =>
                refine ⟨k + 1, M2, h2, by omega, by omega, by go_num, ?_, ?_, HM2, ?_⟩
                · have hT2 := HT2.out
                  exact tm_out hU (by omega) hT2
                · have hMU2 := HMU2.out
                  exact mu_out hU (by omega) hMU2
                · have hB2 := HB2.out
                  exact below_out hU (by omega) hB2
              case measure => simp [intOf]; omega
        · have e2 : (DK == 2) = false := by simpa using k2
          by_cases k3 : DK = 3
          · subst k3
            have CF := hide (fun W hh => CFA.out M DA W hh)
            go_upto_region 20 with (first | (go_at_call 13; (with_reducible refine (CF.out _ ?_).mono ?_); (focus (repeat (first | with_reducible assumption | with_reducible refine tm_dr _ ?_ | with_reducible refine tm_d1 ?_ | with_reducible refine tm_al _ ?_ | (with_reducible refine tm_set ?_ ?_; focus (dsimp only; omega)) | (with_reducible apply tm_be; with_reducible assumption) | (with_reducible refine tm_bn (by with_reducible assumption) ?_ ?_; focus omega) | (with_reducible refine tm_out (by with_reducible assumption) ?_ ?_; focus omega)))); rintro e wp0 ⟨rfl, hTp0, hUp0⟩; have hzp0 := hUp0.size; (try simp only [size_al] at hzp0); have hrp0 := out_reads hUp0; obtain ⟨mp0, hsp0⟩ := out_grew hUp0))
            refine wp_abs (fun W => TlbM W w.heap.size (flushM M DA) ∧ MapU W (w.heap.size + 1) k h ∧ Below w.heap.size w W ∧ W.cell? ⟨wr.heap.size, 2, none⟩ = some (.int .u64 DA) ∧ wr.heap.size < W.heap.size) ?_ ?_
            · have hz := hB.size
              refine ⟨?_, ?_, ?_, ?_, ?_⟩
              · repeat (first | with_reducible assumption | with_reducible refine tm_dr _ ?_ | with_reducible refine tm_d1 ?_ | with_reducible refine tm_al _ ?_ | (with_reducible refine tm_set ?_ ?_; focus (dsimp only; omega)) | (with_reducible apply tm_be; with_reducible assumption) | (with_reducible refine tm_bn (by with_reducible assumption) ?_ ?_; focus omega) | (with_reducible refine tm_out (by with_reducible assumption) ?_ ?_; focus omega))
              · repeat (first | with_reducible assumption | with_reducible refine mu_dr _ ?_ | with_reducible refine mu_d1 ?_ | with_reducible refine mu_al _ ?_ | (with_reducible refine mu_set ?_ ?_; focus (dsimp only; omega)) | (with_reducible apply mu_be; with_reducible assumption) | (with_reducible refine mu_bn (by with_reducible assumption) ?_ ?_; focus omega) | (with_reducible refine mu_out (by with_reducible assumption) ?_ ?_; focus omega))
              · repeat (first | with_reducible assumption | with_reducible exact Below.refl _ _ | with_reducible refine Below.drew ?_ | with_reducible refine below_drewN ?_ _ | with_reducible refine bw_alloc ?_ _ | (with_reducible refine bw_set ?_ ?_ _; focus (dsimp only; omega)) | (with_reducible apply bw_behind; with_reducible assumption) | (with_reducible refine below_behindN (by with_reducible assumption) ?_ ?_; focus omega) | (with_reducible refine below_out (by with_reducible assumption) ?_ ?_; focus omega))
              · simp (maxDischargeDepth := 4) [go_sem, *]
              · first | omega | (simp only [size_al] at *; omega)
            rintro w4 ⟨hT4, hMU4, hB4, hx4, hs4⟩
            have HT4 := hide hT4
            have HMU4 := hide hMU4
            have HB4 := hide hB4
            clear hT4 hMU4 hB4
            generalize wr.heap.size = BX at *
            have HL4 : Hid (Last (flushM M DA) h) := hide (last_flush HM.out.2)
            go_loopw [9] (fun i wx => ∃ (j : Nat) (h4 : Int → Int → Option Int), j ≤ k + 1 ∧ i = .int .i64 (j : Int) ∧ Hid (MapU wx (w.heap.size + 1) k h4) ∧ Hid (Last (flushM M DA) h4) ∧ Out1 (w.heap.size + 1) w4 wx) (fun i _ => k + 1 - (intOf i).toNat)
            case atStart => exact ⟨0, h, by omega, rfl, HMU4, HL4, Out1.refl _ _⟩
            case round =>
              obtain ⟨j, h4, hj, rfl, HMX, HLX, hUX⟩ := hrel
              have hxx := hUX.reads (p := ⟨BX, 2, none⟩) (by dsimp only; omega) hx4
              by_cases hjk : j ≤ k
              · obtain ⟨dj, hdj⟩ : ∃ d, l[j]? = some d := ⟨_, List.getElem?_eq_getElem (by omega)⟩
                obtain ⟨bj, offj, hbo, hcj⟩ := HCL.out j dj hdj
                obtain ⟨rfl, rfl⟩ : b = bj ∧ off = offj := by simpa using hbo
                have hbl : b < w.heap.size := World.block_lt_of_cell? _ _ (hcj 2 _ rfl)
                have z2 := hUX.reads (by dsimp only; omega) (c_bn HB4.out (by dsimp only; omega) (hcj 2 _ rfl))
                have z3 := hUX.reads (by dsimp only; omega) (c_bn HB4.out (by dsimp only; omega) (hcj 3 _ rfl))
                have hwJ := wf_bv dj.n
                have j1 : (j : Int) ≤ (k : Int) := by omega
                have j2 : (j : Int) < (l.length : Int) := by omega
                have j3 : (0 : Int) ≤ (j : Int) := by omega
                have j4 : ¬ ((l.length : Int) ≤ (j : Int)) := by omega
                clear hcj hdj hbo
                generalize (dj.a.toNat : Int) = JA at *
                generalize (dj.n.toNat : Int) = JN at *
                by_cases ja : JA = DA
                · have j5 : (JA == DA) = true := by simpa using ja
                  have JX := hide ja
                  clear ja
                  go_wp2_with fail
                  go_quiet (fail)
                  go_wp2_with fail
                  go_region_law (refine step_del_mu (h := h4) (k := k) (b := w.heap.size + 1) (A := DA) (N := JN) rfl _ _ rfl (by simp [Act.eval, Act.put]) (mu_dr _ HMX.out) hwA hwJ (by simp [Act.eval, Act.put]) ?_; intro wm hMm hUm)
                  all_goals (go_wp2_with fail; go_roundw; (case rel => (refine ⟨j + 1, _, by omega, by go_num, hide hMm, hide (last_del HLX.out), ?_⟩; repeat (first | with_reducible assumption | with_reducible exact Out1.refl _ _ | with_reducible refine u_dr _ ?_ | with_reducible refine u_d1 ?_ | with_reducible refine u_al _ ?_ | with_reducible refine u_in _ ?_ | (with_reducible refine u_new _ ?_ ?_; focus (dsimp only; omega)) | (with_reducible refine Out1.trans ?_ (by with_reducible assumption)) | (with_reducible apply u_bh; with_reducible assumption) | (with_reducible refine u_be (by with_reducible assumption) ?_ ?_; focus omega)))); (case measure => (simp [intOf]; omega)))
                · have j5 : (JA == DA) = false := by simpa using ja
                  go_wp2_with fail
                  go_quiet (fail)
                  go_wp2_with fail
                  go_roundw
                  case rel => exact ⟨j + 1, h4, by omega, by go_num, HMX, HLX, u_dr _ hUX⟩
                  case measure => simp [intOf]; omega
              · obtain rfl : j = k + 1 := by omega
                have j1 : ¬ (((k + 1 : Nat) : Int) ≤ (k : Int)) := by omega
                go_upto_region 26 with (first | fail)
                refine wp_abs (fun W => TlbM W w.heap.size (flushM M DA) ∧ MapU W (w.heap.size + 1) (k + 1) h4 ∧ Below w.heap.size w W ∧ w.heap.size < W.heap.size) ?_ ?_
                · refine ⟨tm_out hUX (by omega) HT4.out, mu_mono HMX.out, below_out hUX (by omega) HB4.out, ?_⟩
                  have := hUX.size
                  omega
                rintro w1 ⟨hT1, hMU1, hB1, hs1⟩
                have HM2 : Hid (InvL (flushM M DA) ∧ Last (flushM M DA) h4) := hide ⟨invl_flush _ HM.out.1, HLX.out⟩
                clear hxx hx4 HT4 HMU4 HB4 HMX HLX hUX
                obtain ⟨M2, hM2⟩ : ∃ M2, (flushM M DA) = M2 := ⟨_, rfl⟩
                obtain ⟨h2, hh2⟩ : ∃ h2, (h4) = h2 := ⟨_, rfl⟩
                rw [hM2] at hT1 HM2
                rw [hh2] at hMU1 HM2
                have CGx := fun W h => CGA.out M2 W h
                have hm8 := upF_length M2 4 (fun r hr => HM2.out.1.inv.len r hr)
                have HLSx : (upF M2 4).Pairwise pageNe ∧ ∀ (j : Nat) (l : Ln), (upF M2 4)[j]? = some l → Wfl l ∧ h2 l.1 l.2.1 = some l.2.2 := ⟨upF_ne HM2.out.1 4 (by omega), fun j l hl => by
                  obtain ⟨r, hr, hm⟩ := mem_upF (List.mem_of_getElem? hl)
                  exact ⟨HM2.out.1.wf r hr _ hm, HM2.out.2 r hr _ hm⟩⟩
                obtain ⟨L, hL⟩ : ∃ L, upF M2 4 = L := ⟨_, rfl⟩
                rw [hL] at CGx HLSx hm8
                obtain ⟨m, hm⟩ : ∃ m, L.length = m := ⟨_, rfl⟩
                rw [hm] at CGx hm8
                have CG := hide CGx
                have HLS := hide HLSx
                have HLM := hide hm
                have hm9 : ¬ ((8 : Int) < (m : Int)) := by omega
                have hbm1 := hMU1.lt
                clear CGx HLSx hm hL hM2 hh2
                go_wp2_with (first | (go_at_call 19; (with_reducible refine (CG.out _ ?_).mono ?_); (focus (repeat (first | with_reducible assumption | with_reducible refine tm_dr _ ?_ | with_reducible refine tm_d1 ?_ | with_reducible refine tm_al _ ?_ | (with_reducible refine tm_set ?_ ?_; focus (dsimp only; omega)) | (with_reducible apply tm_be; with_reducible assumption) | (with_reducible refine tm_bn (by with_reducible assumption) ?_ ?_; focus omega) | (with_reducible refine tm_out (by with_reducible assumption) ?_ ?_; focus omega)))); rintro e wg ⟨A, rfl, hrA, hA, hbg⟩; have hzg := hbg.size; try simp only [size_al] at hzg hA))
                have hAx : 0 < m → A < wg.heap.size := fun h0 => by
                  have e := List.getElem?_eq_getElem (show 0 < L.length by rw [HLM.out]; exact h0)
                  exact World.block_lt_of_cell? wg ⟨A, 16 * 0 + 0, none⟩ (flat_line hrA 0 _ e 0 _ rfl)
                refine wp_abs (fun W => TlbM W w.heap.size M2 ∧ MapU W (w.heap.size + 1) (k + 1) h2 ∧ Below w.heap.size w W ∧ W.rangeAt A 0 (flatC L) ∧ MapB W wg.heap.size 0 (seenS L 0)) ?_ ?_
                · refine ⟨?_, ?_, ?_, ?_, mb_made _⟩
                  · repeat (first | with_reducible assumption | with_reducible refine tm_dr _ ?_ | with_reducible refine tm_d1 ?_ | with_reducible refine tm_al _ ?_ | (with_reducible refine tm_set ?_ ?_; focus (dsimp only; omega)) | (with_reducible apply tm_be; with_reducible assumption) | (with_reducible refine tm_bn (by with_reducible assumption) ?_ ?_; focus omega) | (with_reducible refine tm_out (by with_reducible assumption) ?_ ?_; focus omega))
                  · repeat (first | with_reducible assumption | with_reducible refine mu_dr _ ?_ | with_reducible refine mu_d1 ?_ | with_reducible refine mu_al _ ?_ | (with_reducible refine mu_set ?_ ?_; focus (dsimp only; omega)) | (with_reducible apply mu_be; with_reducible assumption) | (with_reducible refine mu_bn (by with_reducible assumption) ?_ ?_; focus omega) | (with_reducible refine mu_out (by with_reducible assumption) ?_ ?_; focus omega))
                  · repeat (first | with_reducible assumption | with_reducible exact Below.refl _ _ | with_reducible refine Below.drew ?_ | with_reducible refine below_drewN ?_ _ | with_reducible refine bw_alloc ?_ _ | (with_reducible refine bw_set ?_ ?_ _; focus (dsimp only; omega)) | (with_reducible apply bw_behind; with_reducible assumption) | (with_reducible refine below_behindN (by with_reducible assumption) ?_ ?_; focus omega) | (with_reducible refine below_out (by with_reducible assumption) ?_ ?_; focus omega))
                  · exact fun j v hv => c_al _ (hrA j v hv)
                rintro w2 ⟨hT2, hMU2, hB2, hR2, hMB2⟩
                have hTB : w.heap.size < wg.heap.size := by omega
                have hMB : w.heap.size + 1 < wg.heap.size := by omega
                generalize wg.heap.size = BB at *
                have HR2 := hide hR2
                have HB2 := hide hB2
                have HT2 := hide hT2
                have HMU2 := hide hMU2
                clear hR2 hB2 hT2 hMU2 hT1 hMU1 hB1 hT hMU CG hrA hbg
                go_loopw [12] (fun i wr => ∃ j : Nat, j ≤ m ∧ i = .int .i64 (j : Int) ∧ Hid (MapB wr BB j (seenS L j)) ∧ Out1 BB w2 wr) (fun i _ => m - (intOf i).toNat)
                case atStart => exact ⟨0, by omega, rfl, hide hMB2, Out1.refl _ _⟩
                case round =>
                  obtain ⟨j, hj, rfl, HMB, hU⟩ := hrel
                  by_cases hjm : j < m
                  · obtain ⟨⟨la, ln, lx⟩, hll⟩ : ∃ x, L[j]? = some x := ⟨_, List.getElem?_eq_getElem (by rw [HLM.out]; exact hjm)⟩
                    obtain ⟨hwl, hlast⟩ := HLS.out.2 j _ hll
                    have hns : seenS L j la ln = false := not_seen HLS.out.1 hll
                    have hsome : (h2 la ln).isSome = true := by rw [hlast]; rfl
                    have hAB := hAx (by omega)
                    have hBA : ¬ (A = BB) := by omega
                    have c0 : w2.cell? ⟨A, j * 16, none⟩ = some (.int .u64 la) := flat_at HR2.out _ hll 0 _ rfl
                    have c1 : w2.cell? ⟨A, j * 16 + 1, none⟩ = some (.int .u64 ln) := flat_at HR2.out _ hll 1 _ rfl
                    have c2 : w2.cell? ⟨A, j * 16 + 15, none⟩ = some (.int .u64 lx) := flat_at HR2.out _ hll 15 _ rfl
                    have d0 := hU.reads (p := ⟨A, j * 16, none⟩) (fun e => hBA e) c0
                    have d1 := hU.reads (p := ⟨A, j * 16 + 1, none⟩) (fun e => hBA e) c1
                    have b1 : (j : Int) < (m : Int) := by omega
                    have b2 : ¬ ((m : Int) ≤ (j : Int)) := by omega
                    have b3 : (0 : Int) ≤ (j : Int) := by omega
                    have hUs := hU.size
                    have hBl := HMB.out.lt
                    have hAl : ltB A wr.heap.size = true := decide_eq_true (by omega)
                    have HLL := hide hll
                    clear hll
                    go_upto_region 33 with (first | fail)
                    go_region
                    go_upto_region 34 with (first | fail)
                    refine wp_abs (fun W => W.cell? ⟨wr.heap.size, 0, none⟩ = some (.int .u64 la) ∧ W.cell? ⟨wr.heap.size, 1, none⟩ = some (.int .u64 ln) ∧ Out1 BB w2 W ∧ MapB W BB j (seenS L j)) ?_ ?_
                    · refine ⟨?_, ?_, ?_, ?_⟩
                      · simp [go_sem]
                      · simp [go_sem]
                      · repeat (first | with_reducible assumption | with_reducible exact Out1.refl _ _ | with_reducible refine u_dr _ ?_ | with_reducible refine u_d1 ?_ | with_reducible refine u_al _ ?_ | with_reducible refine u_in _ ?_ | (with_reducible refine u_new _ ?_ ?_; focus (dsimp only; omega)) | (with_reducible refine Out1.trans ?_ (by with_reducible assumption)) | (with_reducible apply u_bh; with_reducible assumption) | (with_reducible refine u_be (by with_reducible assumption) ?_ ?_; focus omega))
                      · have hMB0 := HMB.out
                        repeat (first | with_reducible assumption | with_reducible refine mb_dr _ ?_ | with_reducible refine mb_d1 ?_ | with_reducible refine mb_al _ ?_ | (with_reducible refine mb_set ?_ ?_; focus (dsimp only; omega)) | (with_reducible apply mb_be; with_reducible assumption) | (with_reducible refine mb_bn (by with_reducible assumption) ?_ ?_; focus omega) | (with_reducible refine mb_out (by with_reducible assumption) ?_ ?_; focus omega))
                    rintro w3 ⟨p0, p1, hU3, hMB3⟩
                    have d2 := hU3.reads (p := ⟨A, j * 16 + 15, none⟩) (fun e => hBA e) c2
                    have hMU3 : MapU w3 (w.heap.size + 1) (k + 1) h2 := mu_out hU3 (by omega) HMU2.out
                    clear d0 d1 c0 c1 c2
                    go_wp2_with (first | ((refine wpList_look_mu (h := h2) (k := k + 1) (b := w.heap.size + 1) rfl _ _ rfl rfl ?_ hwl.1 hwl.2.1 rfl ?_); (focus (repeat (first | with_reducible assumption | with_reducible refine mu_dr _ ?_ | with_reducible refine mu_d1 ?_ | with_reducible refine mu_al _ ?_ | (with_reducible refine mu_set ?_ ?_; focus (dsimp only; omega)) | (with_reducible apply mu_be; with_reducible assumption) | (with_reducible refine mu_bn (by with_reducible assumption) ?_ ?_; focus omega) | (with_reducible refine mu_out (by with_reducible assumption) ?_ ?_; focus omega)))); intro c hc; have hcc := hc _ hlast; subst hcc) | ((refine wpList_look_mb (s := seenS L j) (k := j) (b := BB) rfl _ _ rfl rfl ?_ hwl.1 hwl.2.1 rfl ?_); (focus (repeat (first | with_reducible assumption | with_reducible refine mb_dr _ ?_ | with_reducible refine mb_d1 ?_ | with_reducible refine mb_al _ ?_ | (with_reducible refine mb_set ?_ ?_; focus (dsimp only; omega)) | (with_reducible apply mb_be; with_reducible assumption) | (with_reducible refine mb_bn (by with_reducible assumption) ?_ ?_; focus omega) | (with_reducible refine mb_out (by with_reducible assumption) ?_ ?_; focus omega))))) | ((refine wpList_store_mb (s := seenS L j) (k := j) (b := BB) rfl _ _ _ rfl rfl ?_ (by omega) hwl.1 hwl.2.1 rfl rfl ?_); (focus (repeat (first | with_reducible assumption | with_reducible refine mb_dr _ ?_ | with_reducible refine mb_d1 ?_ | with_reducible refine mb_al _ ?_ | (with_reducible refine mb_set ?_ ?_; focus (dsimp only; omega)) | (with_reducible apply mb_be; with_reducible assumption) | (with_reducible refine mb_bn (by with_reducible assumption) ?_ ?_; focus omega) | (with_reducible refine mb_out (by with_reducible assumption) ?_ ?_; focus omega)))); intro wq hMq hUq))
                    go_roundw
                    case rel =>
                      refine ⟨j + 1, by omega, by go_num, ?_, Out1.trans hU3 hUq⟩
                      have e := seen_step HLL.out
                      dsimp only at e
                      rw [← e]
                      exact hide hMq
                    case measure => simp [intOf]; omega
                  · obtain rfl : j = m := by omega
                    go_wp2_with fail
                    go_roundw
                    case rel =>
                      refine ⟨k + 1, M2, h2, by omega, by omega, by go_num, ?_, ?_, HM2, ?_⟩
                      · have hT2 := HT2.out
                        exact tm_out hU (by omega) hT2
                      · have hMU2 := HMU2.out
                        exact mu_out hU (by omega) hMU2
                      · have hB2 := HB2.out
                        exact below_out hU (by omega) hB2
                    case measure => simp [intOf]; omega
          · have e3 : (DK == 3) = false := by simpa using k3
            by_cases k5 : DK = 5
            · subst k5
              have CE := hide (fun W hh => CEA.out M DP W hh)
              go_upto_region 26 with (first | (go_at_call 16; (with_reducible refine (CE.out _ ?_).mono ?_); (focus (repeat (first | with_reducible assumption | with_reducible refine tm_dr _ ?_ | with_reducible refine tm_d1 ?_ | with_reducible refine tm_al _ ?_ | (with_reducible refine tm_set ?_ ?_; focus (dsimp only; omega)) | (with_reducible apply tm_be; with_reducible assumption) | (with_reducible refine tm_bn (by with_reducible assumption) ?_ ?_; focus omega) | (with_reducible refine tm_out (by with_reducible assumption) ?_ ?_; focus omega)))); rintro e wp0 ⟨rfl, hTp0, hUp0⟩; have hzp0 := hUp0.size; (try simp only [size_al] at hzp0); have hrp0 := out_reads hUp0; obtain ⟨mp0, hsp0⟩ := out_grew hUp0))
              refine wp_abs (fun W => TlbM W w.heap.size (evictM M DP) ∧ MapU W (w.heap.size + 1) (k + 1) (h) ∧ Below w.heap.size w W ∧ w.heap.size < W.heap.size) ?_ ?_
              · have hz := hB.size
                refine ⟨?_, ?_, ?_, ?_⟩
                · repeat (first | with_reducible assumption | with_reducible refine tm_dr _ ?_ | with_reducible refine tm_d1 ?_ | with_reducible refine tm_al _ ?_ | (with_reducible refine tm_set ?_ ?_; focus (dsimp only; omega)) | (with_reducible apply tm_be; with_reducible assumption) | (with_reducible refine tm_bn (by with_reducible assumption) ?_ ?_; focus omega) | (with_reducible refine tm_out (by with_reducible assumption) ?_ ?_; focus omega))
                · first | ((repeat (first | with_reducible assumption | with_reducible refine mu_dr _ ?_ | with_reducible refine mu_d1 ?_ | with_reducible refine mu_al _ ?_ | (with_reducible refine mu_set ?_ ?_; focus (dsimp only; omega)) | (with_reducible apply mu_be; with_reducible assumption) | (with_reducible refine mu_bn (by with_reducible assumption) ?_ ?_; focus omega) | (with_reducible refine mu_out (by with_reducible assumption) ?_ ?_; focus omega))); done) | (refine mu_mono ?_; repeat (first | with_reducible assumption | with_reducible refine mu_dr _ ?_ | with_reducible refine mu_d1 ?_ | with_reducible refine mu_al _ ?_ | (with_reducible refine mu_set ?_ ?_; focus (dsimp only; omega)) | (with_reducible apply mu_be; with_reducible assumption) | (with_reducible refine mu_bn (by with_reducible assumption) ?_ ?_; focus omega) | (with_reducible refine mu_out (by with_reducible assumption) ?_ ?_; focus omega)))
                · repeat (first | with_reducible assumption | with_reducible exact Below.refl _ _ | with_reducible refine Below.drew ?_ | with_reducible refine below_drewN ?_ _ | with_reducible refine bw_alloc ?_ _ | (with_reducible refine bw_set ?_ ?_ _; focus (dsimp only; omega)) | (with_reducible apply bw_behind; with_reducible assumption) | (with_reducible refine below_behindN (by with_reducible assumption) ?_ ?_; focus omega) | (with_reducible refine below_out (by with_reducible assumption) ?_ ?_; focus omega))
                · first | omega | (simp only [size_al] at *; omega)
              rintro w1 ⟨hT1, hMU1, hB1, hs1⟩

              have HM2 : Hid (InvL (evictM M DP) ∧ Last (evictM M DP) h) := hide ⟨invl_evict _ HM.out.1, last_evict HM.out.2⟩
              obtain ⟨M2, hM2⟩ : ∃ M2, (evictM M DP) = M2 := ⟨_, rfl⟩
              obtain ⟨h2, hh2⟩ : ∃ h2, (h) = h2 := ⟨_, rfl⟩
              rw [hM2] at hT1 HM2
              rw [hh2] at hMU1 HM2
              have CGx := fun W h => CGA.out M2 W h
              have hm8 := upF_length M2 4 (fun r hr => HM2.out.1.inv.len r hr)
              have HLSx : (upF M2 4).Pairwise pageNe ∧ ∀ (j : Nat) (l : Ln), (upF M2 4)[j]? = some l → Wfl l ∧ h2 l.1 l.2.1 = some l.2.2 := ⟨upF_ne HM2.out.1 4 (by omega), fun j l hl => by
                obtain ⟨r, hr, hm⟩ := mem_upF (List.mem_of_getElem? hl)
                exact ⟨HM2.out.1.wf r hr _ hm, HM2.out.2 r hr _ hm⟩⟩
              obtain ⟨L, hL⟩ : ∃ L, upF M2 4 = L := ⟨_, rfl⟩
              rw [hL] at CGx HLSx hm8
              obtain ⟨m, hm⟩ : ∃ m, L.length = m := ⟨_, rfl⟩
              rw [hm] at CGx hm8
              have CG := hide CGx
              have HLS := hide HLSx
              have HLM := hide hm
              have hm9 : ¬ ((8 : Int) < (m : Int)) := by omega
              have hbm1 := hMU1.lt
              clear CGx HLSx hm hL hM2 hh2
              go_wp2_with (first | (go_at_call 19; (with_reducible refine (CG.out _ ?_).mono ?_); (focus (repeat (first | with_reducible assumption | with_reducible refine tm_dr _ ?_ | with_reducible refine tm_d1 ?_ | with_reducible refine tm_al _ ?_ | (with_reducible refine tm_set ?_ ?_; focus (dsimp only; omega)) | (with_reducible apply tm_be; with_reducible assumption) | (with_reducible refine tm_bn (by with_reducible assumption) ?_ ?_; focus omega) | (with_reducible refine tm_out (by with_reducible assumption) ?_ ?_; focus omega)))); rintro e wg ⟨A, rfl, hrA, hA, hbg⟩; have hzg := hbg.size; try simp only [size_al] at hzg hA))
              have hAx : 0 < m → A < wg.heap.size := fun h0 => by
                have e := List.getElem?_eq_getElem (show 0 < L.length by rw [HLM.out]; exact h0)
                exact World.block_lt_of_cell? wg ⟨A, 16 * 0 + 0, none⟩ (flat_line hrA 0 _ e 0 _ rfl)
              refine wp_abs (fun W => TlbM W w.heap.size M2 ∧ MapU W (w.heap.size + 1) (k + 1) h2 ∧ Below w.heap.size w W ∧ W.rangeAt A 0 (flatC L) ∧ MapB W wg.heap.size 0 (seenS L 0)) ?_ ?_
              · refine ⟨?_, ?_, ?_, ?_, mb_made _⟩
                · repeat (first | with_reducible assumption | with_reducible refine tm_dr _ ?_ | with_reducible refine tm_d1 ?_ | with_reducible refine tm_al _ ?_ | (with_reducible refine tm_set ?_ ?_; focus (dsimp only; omega)) | (with_reducible apply tm_be; with_reducible assumption) | (with_reducible refine tm_bn (by with_reducible assumption) ?_ ?_; focus omega) | (with_reducible refine tm_out (by with_reducible assumption) ?_ ?_; focus omega))
                · repeat (first | with_reducible assumption | with_reducible refine mu_dr _ ?_ | with_reducible refine mu_d1 ?_ | with_reducible refine mu_al _ ?_ | (with_reducible refine mu_set ?_ ?_; focus (dsimp only; omega)) | (with_reducible apply mu_be; with_reducible assumption) | (with_reducible refine mu_bn (by with_reducible assumption) ?_ ?_; focus omega) | (with_reducible refine mu_out (by with_reducible assumption) ?_ ?_; focus omega))
                · repeat (first | with_reducible assumption | with_reducible exact Below.refl _ _ | with_reducible refine Below.drew ?_ | with_reducible refine below_drewN ?_ _ | with_reducible refine bw_alloc ?_ _ | (with_reducible refine bw_set ?_ ?_ _; focus (dsimp only; omega)) | (with_reducible apply bw_behind; with_reducible assumption) | (with_reducible refine below_behindN (by with_reducible assumption) ?_ ?_; focus omega) | (with_reducible refine below_out (by with_reducible assumption) ?_ ?_; focus omega))
                · exact fun j v hv => c_al _ (hrA j v hv)
              rintro w2 ⟨hT2, hMU2, hB2, hR2, hMB2⟩
              have hTB : w.heap.size < wg.heap.size := by omega
              have hMB : w.heap.size + 1 < wg.heap.size := by omega
              generalize wg.heap.size = BB at *
              have HR2 := hide hR2
              have HB2 := hide hB2
              have HT2 := hide hT2
              have HMU2 := hide hMU2
              clear hR2 hB2 hT2 hMU2 hT1 hMU1 hB1 hT hMU CG hrA hbg
              go_loopw [12] (fun i wr => ∃ j : Nat, j ≤ m ∧ i = .int .i64 (j : Int) ∧ Hid (MapB wr BB j (seenS L j)) ∧ Out1 BB w2 wr) (fun i _ => m - (intOf i).toNat)
              case atStart => exact ⟨0, by omega, rfl, hide hMB2, Out1.refl _ _⟩
              case round =>
                obtain ⟨j, hj, rfl, HMB, hU⟩ := hrel
                by_cases hjm : j < m
                · obtain ⟨⟨la, ln, lx⟩, hll⟩ : ∃ x, L[j]? = some x := ⟨_, List.getElem?_eq_getElem (by rw [HLM.out]; exact hjm)⟩
                  obtain ⟨hwl, hlast⟩ := HLS.out.2 j _ hll
                  have hns : seenS L j la ln = false := not_seen HLS.out.1 hll
                  have hsome : (h2 la ln).isSome = true := by rw [hlast]; rfl
                  have hAB := hAx (by omega)
                  have hBA : ¬ (A = BB) := by omega
                  have c0 : w2.cell? ⟨A, j * 16, none⟩ = some (.int .u64 la) := flat_at HR2.out _ hll 0 _ rfl
                  have c1 : w2.cell? ⟨A, j * 16 + 1, none⟩ = some (.int .u64 ln) := flat_at HR2.out _ hll 1 _ rfl
                  have c2 : w2.cell? ⟨A, j * 16 + 15, none⟩ = some (.int .u64 lx) := flat_at HR2.out _ hll 15 _ rfl
                  have d0 := hU.reads (p := ⟨A, j * 16, none⟩) (fun e => hBA e) c0
                  have d1 := hU.reads (p := ⟨A, j * 16 + 1, none⟩) (fun e => hBA e) c1
                  have b1 : (j : Int) < (m : Int) := by omega
                  have b2 : ¬ ((m : Int) ≤ (j : Int)) := by omega
                  have b3 : (0 : Int) ≤ (j : Int) := by omega
                  have hUs := hU.size
                  have hBl := HMB.out.lt
                  have hAl : ltB A wr.heap.size = true := decide_eq_true (by omega)
                  have HLL := hide hll
                  clear hll
                  go_upto_region 33 with (first | fail)
                  go_region
                  go_upto_region 34 with (first | fail)
                  refine wp_abs (fun W => W.cell? ⟨wr.heap.size, 0, none⟩ = some (.int .u64 la) ∧ W.cell? ⟨wr.heap.size, 1, none⟩ = some (.int .u64 ln) ∧ Out1 BB w2 W ∧ MapB W BB j (seenS L j)) ?_ ?_
                  · refine ⟨?_, ?_, ?_, ?_⟩
                    · simp [go_sem]
                    · simp [go_sem]
                    · repeat (first | with_reducible assumption | with_reducible exact Out1.refl _ _ | with_reducible refine u_dr _ ?_ | with_reducible refine u_d1 ?_ | with_reducible refine u_al _ ?_ | with_reducible refine u_in _ ?_ | (with_reducible refine u_new _ ?_ ?_; focus (dsimp only; omega)) | (with_reducible refine Out1.trans ?_ (by with_reducible assumption)) | (with_reducible apply u_bh; with_reducible assumption) | (with_reducible refine u_be (by with_reducible assumption) ?_ ?_; focus omega))
                    · have hMB0 := HMB.out
                      repeat (first | with_reducible assumption | with_reducible refine mb_dr _ ?_ | with_reducible refine mb_d1 ?_ | with_reducible refine mb_al _ ?_ | (with_reducible refine mb_set ?_ ?_; focus (dsimp only; omega)) | (with_reducible apply mb_be; with_reducible assumption) | (with_reducible refine mb_bn (by with_reducible assumption) ?_ ?_; focus omega) | (with_reducible refine mb_out (by with_reducible assumption) ?_ ?_; focus omega))
                  rintro w3 ⟨p0, p1, hU3, hMB3⟩
                  have d2 := hU3.reads (p := ⟨A, j * 16 + 15, none⟩) (fun e => hBA e) c2
                  have hMU3 : MapU w3 (w.heap.size + 1) (k + 1) h2 := mu_out hU3 (by omega) HMU2.out
                  clear d0 d1 c0 c1 c2
                  go_wp2_with (first | ((refine wpList_look_mu (h := h2) (k := k + 1) (b := w.heap.size + 1) rfl _ _ rfl rfl ?_ hwl.1 hwl.2.1 rfl ?_); (focus (repeat (first | with_reducible assumption | with_reducible refine mu_dr _ ?_ | with_reducible refine mu_d1 ?_ | with_reducible refine mu_al _ ?_ | (with_reducible refine mu_set ?_ ?_; focus (dsimp only; omega)) | (with_reducible apply mu_be; with_reducible assumption) | (with_reducible refine mu_bn (by with_reducible assumption) ?_ ?_; focus omega) | (with_reducible refine mu_out (by with_reducible assumption) ?_ ?_; focus omega)))); intro c hc; have hcc := hc _ hlast; subst hcc) | ((refine wpList_look_mb (s := seenS L j) (k := j) (b := BB) rfl _ _ rfl rfl ?_ hwl.1 hwl.2.1 rfl ?_); (focus (repeat (first | with_reducible assumption | with_reducible refine mb_dr _ ?_ | with_reducible refine mb_d1 ?_ | with_reducible refine mb_al _ ?_ | (with_reducible refine mb_set ?_ ?_; focus (dsimp only; omega)) | (with_reducible apply mb_be; with_reducible assumption) | (with_reducible refine mb_bn (by with_reducible assumption) ?_ ?_; focus omega) | (with_reducible refine mb_out (by with_reducible assumption) ?_ ?_; focus omega))))) | ((refine wpList_store_mb (s := seenS L j) (k := j) (b := BB) rfl _ _ _ rfl rfl ?_ (by omega) hwl.1 hwl.2.1 rfl rfl ?_); (focus (repeat (first | with_reducible assumption | with_reducible refine mb_dr _ ?_ | with_reducible refine mb_d1 ?_ | with_reducible refine mb_al _ ?_ | (with_reducible refine mb_set ?_ ?_; focus (dsimp only; omega)) | (with_reducible apply mb_be; with_reducible assumption) | (with_reducible refine mb_bn (by with_reducible assumption) ?_ ?_; focus omega) | (with_reducible refine mb_out (by with_reducible assumption) ?_ ?_; focus omega)))); intro wq hMq hUq))
                  go_roundw
                  case rel =>
                    refine ⟨j + 1, by omega, by go_num, ?_, Out1.trans hU3 hUq⟩
                    have e := seen_step HLL.out
                    dsimp only at e
                    rw [← e]
                    exact hide hMq
                  case measure => simp [intOf]; omega
                · obtain rfl : j = m := by omega
                  go_wp2_with fail
                  go_roundw
                  case rel =>
                    refine ⟨k + 1, M2, h2, by omega, by omega, by go_num, ?_, ?_, HM2, ?_⟩
                    · have hT2 := HT2.out
                      exact tm_out hU (by omega) hT2
                    · have hMU2 := HMU2.out
                      exact mu_out hU (by omega) hMU2
                    · have hB2 := HB2.out
                      exact below_out hU (by omega) hB2
                  case measure => simp [intOf]; omega
            · have e5 : (DK == 5) = false := by simpa using k5
              go_upto_region 26 with (first | fail)
              refine wp_abs (fun W => TlbM W w.heap.size (M) ∧ MapU W (w.heap.size + 1) (k + 1) (h) ∧ Below w.heap.size w W ∧ w.heap.size < W.heap.size) ?_ ?_
              · have hz := hB.size
                refine ⟨?_, ?_, ?_, ?_⟩
                · repeat (first | with_reducible assumption | with_reducible refine tm_dr _ ?_ | with_reducible refine tm_d1 ?_ | with_reducible refine tm_al _ ?_ | (with_reducible refine tm_set ?_ ?_; focus (dsimp only; omega)) | (with_reducible apply tm_be; with_reducible assumption) | (with_reducible refine tm_bn (by with_reducible assumption) ?_ ?_; focus omega) | (with_reducible refine tm_out (by with_reducible assumption) ?_ ?_; focus omega))
                · first | ((repeat (first | with_reducible assumption | with_reducible refine mu_dr _ ?_ | with_reducible refine mu_d1 ?_ | with_reducible refine mu_al _ ?_ | (with_reducible refine mu_set ?_ ?_; focus (dsimp only; omega)) | (with_reducible apply mu_be; with_reducible assumption) | (with_reducible refine mu_bn (by with_reducible assumption) ?_ ?_; focus omega) | (with_reducible refine mu_out (by with_reducible assumption) ?_ ?_; focus omega))); done) | (refine mu_mono ?_; repeat (first | with_reducible assumption | with_reducible refine mu_dr _ ?_ | with_reducible refine mu_d1 ?_ | with_reducible refine mu_al _ ?_ | (with_reducible refine mu_set ?_ ?_; focus (dsimp only; omega)) | (with_reducible apply mu_be; with_reducible assumption) | (with_reducible refine mu_bn (by with_reducible assumption) ?_ ?_; focus omega) | (with_reducible refine mu_out (by with_reducible assumption) ?_ ?_; focus omega)))
                · repeat (first | with_reducible assumption | with_reducible exact Below.refl _ _ | with_reducible refine Below.drew ?_ | with_reducible refine below_drewN ?_ _ | with_reducible refine bw_alloc ?_ _ | (with_reducible refine bw_set ?_ ?_ _; focus (dsimp only; omega)) | (with_reducible apply bw_behind; with_reducible assumption) | (with_reducible refine below_behindN (by with_reducible assumption) ?_ ?_; focus omega) | (with_reducible refine below_out (by with_reducible assumption) ?_ ?_; focus omega))
                · first | omega | (simp only [size_al] at *; omega)
              rintro w1 ⟨hT1, hMU1, hB1, hs1⟩

              have HM2 := HM
              obtain ⟨M2, hM2⟩ : ∃ M2, (M) = M2 := ⟨_, rfl⟩
              obtain ⟨h2, hh2⟩ : ∃ h2, (h) = h2 := ⟨_, rfl⟩
              rw [hM2] at hT1 HM2
              rw [hh2] at hMU1 HM2
              have CGx := fun W h => CGA.out M2 W h
              have hm8 := upF_length M2 4 (fun r hr => HM2.out.1.inv.len r hr)
              have HLSx : (upF M2 4).Pairwise pageNe ∧ ∀ (j : Nat) (l : Ln), (upF M2 4)[j]? = some l → Wfl l ∧ h2 l.1 l.2.1 = some l.2.2 := ⟨upF_ne HM2.out.1 4 (by omega), fun j l hl => by
                obtain ⟨r, hr, hm⟩ := mem_upF (List.mem_of_getElem? hl)
                exact ⟨HM2.out.1.wf r hr _ hm, HM2.out.2 r hr _ hm⟩⟩
              obtain ⟨L, hL⟩ : ∃ L, upF M2 4 = L := ⟨_, rfl⟩
              rw [hL] at CGx HLSx hm8
              obtain ⟨m, hm⟩ : ∃ m, L.length = m := ⟨_, rfl⟩
              rw [hm] at CGx hm8
              have CG := hide CGx
              have HLS := hide HLSx
              have HLM := hide hm
              have hm9 : ¬ ((8 : Int) < (m : Int)) := by omega
              have hbm1 := hMU1.lt
              clear CGx HLSx hm hL hM2 hh2
              go_wp2_with (first | (go_at_call 19; (with_reducible refine (CG.out _ ?_).mono ?_); (focus (repeat (first | with_reducible assumption | with_reducible refine tm_dr _ ?_ | with_reducible refine tm_d1 ?_ | with_reducible refine tm_al _ ?_ | (with_reducible refine tm_set ?_ ?_; focus (dsimp only; omega)) | (with_reducible apply tm_be; with_reducible assumption) | (with_reducible refine tm_bn (by with_reducible assumption) ?_ ?_; focus omega) | (with_reducible refine tm_out (by with_reducible assumption) ?_ ?_; focus omega)))); rintro e wg ⟨A, rfl, hrA, hA, hbg⟩; have hzg := hbg.size; try simp only [size_al] at hzg hA))
              have hAx : 0 < m → A < wg.heap.size := fun h0 => by
                have e := List.getElem?_eq_getElem (show 0 < L.length by rw [HLM.out]; exact h0)
                exact World.block_lt_of_cell? wg ⟨A, 16 * 0 + 0, none⟩ (flat_line hrA 0 _ e 0 _ rfl)
              refine wp_abs (fun W => TlbM W w.heap.size M2 ∧ MapU W (w.heap.size + 1) (k + 1) h2 ∧ Below w.heap.size w W ∧ W.rangeAt A 0 (flatC L) ∧ MapB W wg.heap.size 0 (seenS L 0)) ?_ ?_
              · refine ⟨?_, ?_, ?_, ?_, mb_made _⟩
                · repeat (first | with_reducible assumption | with_reducible refine tm_dr _ ?_ | with_reducible refine tm_d1 ?_ | with_reducible refine tm_al _ ?_ | (with_reducible refine tm_set ?_ ?_; focus (dsimp only; omega)) | (with_reducible apply tm_be; with_reducible assumption) | (with_reducible refine tm_bn (by with_reducible assumption) ?_ ?_; focus omega) | (with_reducible refine tm_out (by with_reducible assumption) ?_ ?_; focus omega))
                · repeat (first | with_reducible assumption | with_reducible refine mu_dr _ ?_ | with_reducible refine mu_d1 ?_ | with_reducible refine mu_al _ ?_ | (with_reducible refine mu_set ?_ ?_; focus (dsimp only; omega)) | (with_reducible apply mu_be; with_reducible assumption) | (with_reducible refine mu_bn (by with_reducible assumption) ?_ ?_; focus omega) | (with_reducible refine mu_out (by with_reducible assumption) ?_ ?_; focus omega))
                · repeat (first | with_reducible assumption | with_reducible exact Below.refl _ _ | with_reducible refine Below.drew ?_ | with_reducible refine below_drewN ?_ _ | with_reducible refine bw_alloc ?_ _ | (with_reducible refine bw_set ?_ ?_ _; focus (dsimp only; omega)) | (with_reducible apply bw_behind; with_reducible assumption) | (with_reducible refine below_behindN (by with_reducible assumption) ?_ ?_; focus omega) | (with_reducible refine below_out (by with_reducible assumption) ?_ ?_; focus omega))
                · exact fun j v hv => c_al _ (hrA j v hv)
              rintro w2 ⟨hT2, hMU2, hB2, hR2, hMB2⟩
              have hTB : w.heap.size < wg.heap.size := by omega
              have hMB : w.heap.size + 1 < wg.heap.size := by omega
              generalize wg.heap.size = BB at *
              have HR2 := hide hR2
              have HB2 := hide hB2
              have HT2 := hide hT2
              have HMU2 := hide hMU2
              clear hR2 hB2 hT2 hMU2 hT1 hMU1 hB1 hT hMU CG hrA hbg
              go_loopw [12] (fun i wr => ∃ j : Nat, j ≤ m ∧ i = .int .i64 (j : Int) ∧ Hid (MapB wr BB j (seenS L j)) ∧ Out1 BB w2 wr) (fun i _ => m - (intOf i).toNat)
              case atStart => exact ⟨0, by omega, rfl, hide hMB2, Out1.refl _ _⟩
              case round =>
                obtain ⟨j, hj, rfl, HMB, hU⟩ := hrel
                by_cases hjm : j < m
                · obtain ⟨⟨la, ln, lx⟩, hll⟩ : ∃ x, L[j]? = some x := ⟨_, List.getElem?_eq_getElem (by rw [HLM.out]; exact hjm)⟩
                  obtain ⟨hwl, hlast⟩ := HLS.out.2 j _ hll
                  have hns : seenS L j la ln = false := not_seen HLS.out.1 hll
                  have hsome : (h2 la ln).isSome = true := by rw [hlast]; rfl
                  have hAB := hAx (by omega)
                  have hBA : ¬ (A = BB) := by omega
                  have c0 : w2.cell? ⟨A, j * 16, none⟩ = some (.int .u64 la) := flat_at HR2.out _ hll 0 _ rfl
                  have c1 : w2.cell? ⟨A, j * 16 + 1, none⟩ = some (.int .u64 ln) := flat_at HR2.out _ hll 1 _ rfl
                  have c2 : w2.cell? ⟨A, j * 16 + 15, none⟩ = some (.int .u64 lx) := flat_at HR2.out _ hll 15 _ rfl
                  have d0 := hU.reads (p := ⟨A, j * 16, none⟩) (fun e => hBA e) c0
                  have d1 := hU.reads (p := ⟨A, j * 16 + 1, none⟩) (fun e => hBA e) c1
                  have b1 : (j : Int) < (m : Int) := by omega
                  have b2 : ¬ ((m : Int) ≤ (j : Int)) := by omega
                  have b3 : (0 : Int) ≤ (j : Int) := by omega
                  have hUs := hU.size
                  have hBl := HMB.out.lt
                  have hAl : ltB A wr.heap.size = true := decide_eq_true (by omega)
                  have HLL := hide hll
                  clear hll
                  go_upto_region 33 with (first | fail)
                  go_region
                  go_upto_region 34 with (first | fail)
                  refine wp_abs (fun W => W.cell? ⟨wr.heap.size, 0, none⟩ = some (.int .u64 la) ∧ W.cell? ⟨wr.heap.size, 1, none⟩ = some (.int .u64 ln) ∧ Out1 BB w2 W ∧ MapB W BB j (seenS L j)) ?_ ?_
                  · refine ⟨?_, ?_, ?_, ?_⟩
                    · simp [go_sem]
                    · simp [go_sem]
                    · repeat (first | with_reducible assumption | with_reducible exact Out1.refl _ _ | with_reducible refine u_dr _ ?_ | with_reducible refine u_d1 ?_ | with_reducible refine u_al _ ?_ | with_reducible refine u_in _ ?_ | (with_reducible refine u_new _ ?_ ?_; focus (dsimp only; omega)) | (with_reducible refine Out1.trans ?_ (by with_reducible assumption)) | (with_reducible apply u_bh; with_reducible assumption) | (with_reducible refine u_be (by with_reducible assumption) ?_ ?_; focus omega))
                    · have hMB0 := HMB.out
                      repeat (first | with_reducible assumption | with_reducible refine mb_dr _ ?_ | with_reducible refine mb_d1 ?_ | with_reducible refine mb_al _ ?_ | (with_reducible refine mb_set ?_ ?_; focus (dsimp only; omega)) | (with_reducible apply mb_be; with_reducible assumption) | (with_reducible refine mb_bn (by with_reducible assumption) ?_ ?_; focus omega) | (with_reducible refine mb_out (by with_reducible assumption) ?_ ?_; focus omega))
                  rintro w3 ⟨p0, p1, hU3, hMB3⟩
                  have d2 := hU3.reads (p := ⟨A, j * 16 + 15, none⟩) (fun e => hBA e) c2
                  have hMU3 : MapU w3 (w.heap.size + 1) (k + 1) h2 := mu_out hU3 (by omega) HMU2.out
                  clear d0 d1 c0 c1 c2
                  go_wp2_with (first | ((refine wpList_look_mu (h := h2) (k := k + 1) (b := w.heap.size + 1) rfl _ _ rfl rfl ?_ hwl.1 hwl.2.1 rfl ?_); (focus (repeat (first | with_reducible assumption | with_reducible refine mu_dr _ ?_ | with_reducible refine mu_d1 ?_ | with_reducible refine mu_al _ ?_ | (with_reducible refine mu_set ?_ ?_; focus (dsimp only; omega)) | (with_reducible apply mu_be; with_reducible assumption) | (with_reducible refine mu_bn (by with_reducible assumption) ?_ ?_; focus omega) | (with_reducible refine mu_out (by with_reducible assumption) ?_ ?_; focus omega)))); intro c hc; have hcc := hc _ hlast; subst hcc) | ((refine wpList_look_mb (s := seenS L j) (k := j) (b := BB) rfl _ _ rfl rfl ?_ hwl.1 hwl.2.1 rfl ?_); (focus (repeat (first | with_reducible assumption | with_reducible refine mb_dr _ ?_ | with_reducible refine mb_d1 ?_ | with_reducible refine mb_al _ ?_ | (with_reducible refine mb_set ?_ ?_; focus (dsimp only; omega)) | (with_reducible apply mb_be; with_reducible assumption) | (with_reducible refine mb_bn (by with_reducible assumption) ?_ ?_; focus omega) | (with_reducible refine mb_out (by with_reducible assumption) ?_ ?_; focus omega))))) | ((refine wpList_store_mb (s := seenS L j) (k := j) (b := BB) rfl _ _ _ rfl rfl ?_ (by omega) hwl.1 hwl.2.1 rfl rfl ?_); (focus (repeat (first | with_reducible assumption | with_reducible refine mb_dr _ ?_ | with_reducible refine mb_d1 ?_ | with_reducible refine mb_al _ ?_ | (with_reducible refine mb_set ?_ ?_; focus (dsimp only; omega)) | (with_reducible apply mb_be; with_reducible assumption) | (with_reducible refine mb_bn (by with_reducible assumption) ?_ ?_; focus omega) | (with_reducible refine mb_out (by with_reducible assumption) ?_ ?_; focus omega)))); intro wq hMq hUq))
                  go_roundw
                  case rel =>
                    refine ⟨j + 1, by omega, by go_num, ?_, Out1.trans hU3 hUq⟩
                    have e := seen_step HLL.out
                    dsimp only at e
                    rw [← e]
                    exact hide hMq
                  case measure => simp [intOf]; omega
                · obtain rfl : j = m := by omega
                  go_wp2_with fail
                  go_roundw
                  case rel =>
                    refine ⟨k + 1, M2, h2, by omega, by omega, by go_num, ?_, ?_, HM2, ?_⟩
                    · have hT2 := HT2.out
                      exact tm_out hU (by omega) hT2
                    · have hMU2 := HMU2.out
                      exact mu_out hU (by omega) hMU2
                    · have hB2 := HB2.out
                      exact below_out hU (by omega) hB2
                  case measure => simp [intOf]; omega
    · rcases Nat.lt_or_ge k l.length with h9 | h9
      · have g1 : (k : Int) < (l.length : Int) := by omega
        have g2 : ¬ ((k : Int) < 100) := by omega
        clear CL CPA CGA CKA CDA CFA CEA HCL
        go_wp2_with (first | (go_at_call 6; (with_reducible refine (N1.out _).mono ?_); rintro e wn1 ⟨rfl, hbn1⟩; have hzn1 := hbn1.size) | (go_at_call 15; (with_reducible refine (N2.out _).mono ?_); rintro e wn2 ⟨rfl, hbn2⟩; have hzn2 := hbn2.size) | (go_at_call 9; (with_reducible refine (N3.out _).mono ?_); rintro e wn3 ⟨rfl, hbn3⟩; have hzn3 := hbn3.size) | (go_at_call 19; (with_reducible refine (N4.out _).mono ?_); rintro e wn4 ⟨rfl, hbn4⟩; have hzn4 := hbn4.size) | (go_at_call 20; (with_reducible refine (CO.out _).mono ?_); rintro e wn5 ⟨rfl, hbn5⟩; have hzn5 := hbn5.size) | ((refine wpList_store_box rfl _ _ _ rfl _ (0) (0) (0) rfl rfl infoL ?_ ?_); (focus ((repeat (first | with_reducible assumption | with_reducible refine o_dr _ ?_ | with_reducible refine o_d1 ?_ | with_reducible refine o_set ?_ | (with_reducible refine o_new ?_ ?_; (focus (simp)); (focus (simp))) | (with_reducible refine o_new ?_ ?_; (focus (simp [*]; done)); (focus (simp))) | (with_reducible refine o_new ?_ ?_; (focus (simp [*]; omega)); (focus (simp))) | with_reducible refine o_al _ ?_ | (with_reducible apply o_be; with_reducible assumption) | (with_reducible refine o_bn (by with_reducible assumption) ?_ ?_; focus omega))); done)); intro wz hrz hbz hoz hsz; (try simp only [size_al] at hsz)))
        go_ret
        refine ⟨rfl, ?_⟩
        repeat (first | with_reducible assumption | with_reducible exact Below.refl _ _ | with_reducible refine Below.drew ?_ | with_reducible refine below_drewN ?_ _ | with_reducible refine bw_alloc ?_ _ | (with_reducible refine bw_set ?_ ?_ _; focus (dsimp only; omega)) | (with_reducible apply bw_behind; with_reducible assumption) | (with_reducible refine below_behindN (by with_reducible assumption) ?_ ?_; focus omega) | (with_reducible refine below_out (by with_reducible assumption) ?_ ?_; focus omega))
      · have g1 : ¬ ((k : Int) < (l.length : Int)) := by omega
        clear CL CPA CGA CKA CDA CFA CEA HCL
        go_wp2_with (first | (go_at_call 6; (with_reducible refine (N1.out _).mono ?_); rintro e wn1 ⟨rfl, hbn1⟩; have hzn1 := hbn1.size) | (go_at_call 15; (with_reducible refine (N2.out _).mono ?_); rintro e wn2 ⟨rfl, hbn2⟩; have hzn2 := hbn2.size) | (go_at_call 9; (with_reducible refine (N3.out _).mono ?_); rintro e wn3 ⟨rfl, hbn3⟩; have hzn3 := hbn3.size) | (go_at_call 19; (with_reducible refine (N4.out _).mono ?_); rintro e wn4 ⟨rfl, hbn4⟩; have hzn4 := hbn4.size) | (go_at_call 20; (with_reducible refine (CO.out _).mono ?_); rintro e wn5 ⟨rfl, hbn5⟩; have hzn5 := hbn5.size) | ((refine wpList_store_box rfl _ _ _ rfl _ (0) (0) (0) rfl rfl infoL ?_ ?_); (focus ((repeat (first | with_reducible assumption | with_reducible refine o_dr _ ?_ | with_reducible refine o_d1 ?_ | with_reducible refine o_set ?_ | (with_reducible refine o_new ?_ ?_; (focus (simp)); (focus (simp))) | (with_reducible refine o_new ?_ ?_; (focus (simp [*]; done)); (focus (simp))) | (with_reducible refine o_new ?_ ?_; (focus (simp [*]; omega)); (focus (simp))) | with_reducible refine o_al _ ?_ | (with_reducible apply o_be; with_reducible assumption) | (with_reducible refine o_bn (by with_reducible assumption) ?_ ?_; focus omega))); done)); intro wz hrz hbz hoz hsz; (try simp only [size_al] at hsz)))
        go_ret
        refine ⟨rfl, ?_⟩
        repeat (first | with_reducible assumption | with_reducible exact Below.refl _ _ | with_reducible refine Below.drew ?_ | with_reducible refine below_drewN ?_ _ | with_reducible refine bw_alloc ?_ _ | (with_reducible refine bw_set ?_ ?_ _; focus (dsimp only; omega)) | (with_reducible apply bw_behind; with_reducible assumption) | (with_reducible refine below_behindN (by with_reducible assumption) ?_ ?_; focus omega) | (with_reducible refine below_out (by with_reducible assumption) ?_ ?_; focus omega))

open Go.ChangeShapes Go.WideShapes Go.ChangeAt
theorem walks : Frame.Walks 4 Try.f4 := by
  intro H enc W base args ds ps hval hA
  rw [Try.params4] at hA hval
  obtain ⟨v0, d0, hargs, rfl, h0⟩ := trodAll_one hA
  obtain rfl : args = #[v0] := by cases args; simp_all
  obtain ⟨l, e0⟩ := open_acts (hval 0 22 v0 rfl rfl) h0
  exact walk v0 l W e0
set_option maxRecDepth 100000 in
theorem proved : Rows.TlbLastSaid :=
  OpenClaim.holds_of_wide 4 Try.f4 rfl rfl rfl rfl rfl rfl rfl ⟨rfl, rfl, rfl, rfl, rfl⟩ rfl rfl rfl rfl rfl (by kernel_rfl) Try.func4 (by kernel_rfl)
    (of_decide_eq_true (by kernel_rfl)) (by unfold Func.isWrapper; first | (rw [if_pos (by decide +kernel)]; kernel_rfl) | (rw [if_neg (by decide +kernel)]; exact ⟨rfl, rfl⟩))
    (fun os started H enc _ => Frame.lift os started H enc _ _ Rows.tlbLastSpec 4 (by kernel_rfl) Try.func4 Try.underlying4 (by kernel_rfl) rfl (by kernel_rfl)
      (fun ds h => by match ds, h with | [_], _ => exact ⟨rfl, rfl, rfl⟩)
      (ChangeSpec.witness6 (enc := enc) (C := Try.checked) false ⟨#[], #[.slice none 0 0], []⟩ 8 (by kernel_rfl) (by kernel_rfl) (by kernel_rfl) (by kernel_rfl)) walks)
end Go.Proofs.Ytikdoknfcikfgaa.TlbLast
