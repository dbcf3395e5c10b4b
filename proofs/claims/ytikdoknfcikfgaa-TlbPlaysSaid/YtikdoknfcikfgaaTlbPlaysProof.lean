/-
  TlbPlays holds: for every l the law returns true, and turns nothing that was there.
-/
import Derived.Test.YtikdoknfcikfgaaTlbSame
import Derived.Test.YtikdoknfcikfgaaTlbArg
import Derived.Test.YtikdoknfcikfgaaTlb9
import Derived.Test.YtikdoknfcikfgaaLawFrame
import Derived.Deep.DeepCutAuto
import Derived.BigQuiet
namespace Go.Proofs.Ytikdoknfcikfgaa.TlbPlays
open Go.RowKit

theorem out_reads {N : Nat} {w w' : World} (h : Out1 N w w') : ∀ b i, ltB b w.heap.size = true → (b == N) = false → w'.cell? ⟨b, i, none⟩ = w.cell? ⟨b, i, none⟩ := fun b i hb hne => World.cell?_of_block (w := w) (h.block b (of_decide_eq_true hb) (by simpa using hne))
theorem out_grew {N : Nat} {w w' : World} (h : Out1 N w w') : ∃ m, w'.heap.size = w.heap.size + m := ⟨w'.heap.size - w.heap.size, by have := h.size; omega⟩
theorem wf_bv (x : BitVec 64) : Wf (x.toNat : Int) := ⟨by omega, by have := x.isLt; omega⟩

set_option maxRecDepth 100000 in
set_option maxHeartbeats 32000000 in
theorem walk (v : Value) (l : List ActD) (w : World) (hl : IsActs w l v) : Calls Try.prog 3 #[v] w (Makes (.bool true) w) := by
  have SS := cell_same
  have LB' := ltB_add
  have LS := ltB_self
  have LA' := alloc_reads
  have LH := alloc_holds
  obtain ⟨Z, hz, hZ⟩ := zero_tlb
  obtain ⟨s, cap, rfl, hcell⟩ := acts_form hl
  have CL := hide line_any
  have CO := hide one_any
  have CPA := hide (fun (M : Nat → List Ln) (r : Nat) (a n x : Int) (h1 : n % 4 = (r : Int)) (h2 : 0 ≤ n) W h => put_any w.heap.size r a n x M h1 h2 W h)
  have CGA := hide (fun (M : Nat → List Ln) W h => lines_any w.heap.size M W h)
  have CKA := hide (fun (M : Nat → List Ln) (a n : Int) (q : Nat) (h1 : n % 4 = (q : Int)) (h2 : 0 ≤ n) W h => look_any w.heap.size M a n q h1 h2 W h)
  have CDA := hide (fun (M : Nat → List Ln) (a n : Int) W h => drop_any w.heap.size M a n W h)
  have CFA := hide (fun (M : Nat → List Ln) (a : Int) W h => flush_any w.heap.size M a W h)
  have CEA := hide (fun (M : Nat → List Ln) (p : Int) W h => evict_any w.heap.size M p W h)
  have HCL := hide hcell
  have HZ := hide hZ
  clear hcell hl hZ
  go_enter Try.func3, Try.ntmps3
  go_wp2_with fail
  go_loopw [4, 5] (fun rv i wr => ∃ (k : Nat) (M : Nat → List Ln), k ≤ l.length ∧ k ≤ 100 ∧ i = .int .i64 (k : Int) ∧ TlbM wr w.heap.size M ∧ Hid (InvL M) ∧ RefB wr (w.heap.size + 1) rv (upF M 4) ∧ Below w.heap.size w wr) (fun _ i _ => 100 - (intOf i).toNat)
  case atStart =>
    have h0 := HZ.out w 34
    refine ⟨0, _, by omega, by omega, rfl, h0, hide invl_nil, rb_nil _ _, ?_⟩
    repeat (first | with_reducible assumption | with_reducible exact Below.refl _ _ | with_reducible refine Below.drew ?_ | with_reducible refine below_drewN ?_ _ | with_reducible refine bw_alloc ?_ _ | (with_reducible refine bw_set ?_ ?_ _; focus (dsimp only; omega)) | (with_reducible apply bw_behind; with_reducible assumption) | (with_reducible refine below_behindN (by with_reducible assumption) ?_ ?_; focus omega) | (with_reducible refine below_out (by with_reducible assumption) ?_ ?_; focus omega))
  case round =>
    obtain ⟨k, M, hk, hk60, rfl, hT, HM, hR, hB⟩ := hrel
    have hzr : w.heap.size < wr.heap.size := hT.here
    have hzr1 : (wr.heap.size == w.heap.size) = false := by simp; omega
    have hM8 := upF_length M 4 (fun r hr => HM.out.inv.len r hr)
    have HNN : Hid (∀ l ∈ upF M 4, 0 ≤ l.2.1) := hide (fun l hl => by
      obtain ⟨r, hr, hm⟩ := mem_upF hl
      exact HM.out.inv.nn r hr l hm)
    by_cases hlt : k < l.length ∧ k < 100
    · obtain ⟨hk1, hk2⟩ := hlt
      obtain ⟨d, hd⟩ : ∃ d, l[k]? = some d := ⟨_, List.getElem?_eq_getElem hk1⟩
      obtain ⟨b, off, rfl, hc⟩ := HCL.out k d hd
      have y0 : wr.cell? ⟨b, off + k * 5, none⟩ = some (.int .i64 d.kind) := c_be hB (hc 0 _ rfl)
      have y1 := c_be hB (hc 1 _ rfl)
      have y2 := c_be hB (hc 2 _ rfl)
      have y3 := c_be hB (hc 3 _ rfl)
      have y4 := c_be hB (hc 4 _ rfl)
      obtain ⟨r, hr⟩ : ∃ r : Nat, (d.n.toNat : Int) % 4 = (r : Int) := ⟨d.n.toNat % 4, by omega⟩
      have g1 : (k : Int) < (l.length : Int) := by omega
      have g2 : (k : Int) < 100 := by omega
      have g3 : (0 : Int) ≤ (k : Int) := by omega
      have hn0 : (0 : Int) ≤ (d.n.toNat : Int) := by omega
      have hwA := wf_bv d.a
      have hwN := wf_bv d.n
      have hwX := wf_bv d.x
      clear hc
      have HD := hide hd
      clear hd
      generalize (d.a.toNat : Int) = DA at *
      generalize (d.n.toNat : Int) = DN at *
      generalize (d.x.toNat : Int) = DX at *
      generalize d.kind = DK at *
      generalize d.place = DP at *
      by_cases k0 : DK = 0
      · subst k0
        have CP := hide (fun W hh => CPA.out M r DA DN DX hr hn0 W hh)
        have CR := hide (fun W hh => rput_any u4 DA DN DX r (upF M 4) hr hn0 HNN.out (by omega) W hh)
        go_upto_region 28 with (first | (go_at_call 7; (with_reducible refine (CL.out _ _ _ _ _ _).mono ?_); rintro e wl ⟨rfl, hbl⟩; have hzl := hbl.size; (try simp only [size_al] at hzl); have hrl := below_reads hbl; obtain ⟨ml, hsl⟩ := below_grew hbl) | (go_at_call 6; (with_reducible refine (CP.out _ ?_).mono ?_); (focus (repeat (first | with_reducible assumption | with_reducible refine tm_dr _ ?_ | with_reducible refine tm_d1 ?_ | with_reducible refine tm_al _ ?_ | (with_reducible refine tm_set ?_ ?_; focus (dsimp only; omega)) | (with_reducible apply tm_be; with_reducible assumption) | (with_reducible refine tm_bn (by with_reducible assumption) ?_ ?_; focus omega) | (with_reducible refine tm_out (by with_reducible assumption) ?_ ?_; focus omega)))); rintro e wp0 ⟨rfl, hTp0, hUp0⟩; have hzp0 := hUp0.size; (try simp only [size_al] at hzp0); have hrp0 := out_reads hUp0; obtain ⟨mp0, hsp0⟩ := out_grew hUp0) | (go_at_call 8; (with_reducible refine (CR.out _ ?_).mono ?_); (focus (refine rb_t (b := (w.heap.size + 1)) ?_; repeat (first | with_reducible assumption | with_reducible refine rb_dr _ ?_ | with_reducible refine rb_d1 ?_ | with_reducible refine rb_al _ ?_ | (with_reducible refine rb_bn (by with_reducible assumption) ?_ ?_; focus (first | omega | (simp; done) | (simp; omega))) | (with_reducible refine rb_out ?_ (by with_reducible assumption) ?_; focus omega)))); rintro e wq ⟨u, rfl, hRq, hbq⟩; have hzq := hbq.size; (try simp only [size_al] at hzq)))
        have HM2 : Hid (InvL (putM M r (DA, DN, DX))) := hide (invl_put HM.out hr ⟨hwA, hwN, hwX⟩)
        have hR9 : RefB wq (w.heap.size + 1) u (upF (putM M r (DA, DN, DX)) 4) := by
          rw [← ref_put HM.out r (by omega) (DA, DN, DX) hr]
          exact rb_less (by omega) hRq
        clear hRq
        refine wp_abs (fun W => TlbM W w.heap.size (putM M r (DA, DN, DX)) ∧ RefB W (w.heap.size + 1) (u) (upF (putM M r (DA, DN, DX)) 4) ∧ Below w.heap.size w W ∧ w.heap.size < W.heap.size) ?_ ?_
        · have hz := hB.size
          refine ⟨?_, ?_, ?_, ?_⟩
          · repeat (first | with_reducible assumption | with_reducible refine tm_dr _ ?_ | with_reducible refine tm_d1 ?_ | with_reducible refine tm_al _ ?_ | (with_reducible refine tm_set ?_ ?_; focus (dsimp only; omega)) | (with_reducible apply tm_be; with_reducible assumption) | (with_reducible refine tm_bn (by with_reducible assumption) ?_ ?_; focus omega) | (with_reducible refine tm_out (by with_reducible assumption) ?_ ?_; focus omega))
          · repeat (first | with_reducible assumption | with_reducible refine rb_dr _ ?_ | with_reducible refine rb_d1 ?_ | with_reducible refine rb_al _ ?_ | (with_reducible refine rb_bn (by with_reducible assumption) ?_ ?_; focus (first | omega | (simp; done) | (simp; omega))) | (with_reducible refine rb_out ?_ (by with_reducible assumption) ?_; focus omega))
          · repeat (first | with_reducible assumption | with_reducible exact Below.refl _ _ | with_reducible refine Below.drew ?_ | with_reducible refine below_drewN ?_ _ | with_reducible refine bw_alloc ?_ _ | (with_reducible refine bw_set ?_ ?_ _; focus (dsimp only; omega)) | (with_reducible apply bw_behind; with_reducible assumption) | (with_reducible refine below_behindN (by with_reducible assumption) ?_ ?_; focus omega) | (with_reducible refine below_out (by with_reducible assumption) ?_ ?_; focus omega))
          · first | omega | (simp only [size_al] at *; omega)
        rintro w1 ⟨hT1, hR1, hB1, hs1⟩
        obtain ⟨M2, hM2⟩ : ∃ M2, (putM M r (DA, DN, DX)) = M2 := ⟨_, rfl⟩
        rw [hM2] at hT1 hR1 HM2
        have hm8 := upF_length M2 4 (fun r hr => HM2.out.inv.len r hr)
        have CGx := fun W h => CGA.out M2 W h
        obtain ⟨L, hL⟩ : ∃ L, upF M2 4 = L := ⟨_, rfl⟩
        have HLL := hide hL
        rw [hL] at CGx hm8 hR1
        obtain ⟨m, hm⟩ : ∃ m, L.length = m := ⟨_, rfl⟩
        rw [hm] at CGx hm8
        have CG := hide CGx
        have CS := hide (fun (A : Nat) (W : World) hA hR => same_any A m (u) L hm (by omega) W hA hR)
        clear CGx hm hL hM2 hT hR hB
        go_wp2_with (first | (go_at_call 19; (with_reducible refine (CG.out _ ?_).mono ?_); (focus (repeat (first | with_reducible assumption | with_reducible refine tm_dr _ ?_ | with_reducible refine tm_d1 ?_ | with_reducible refine tm_al _ ?_ | (with_reducible refine tm_set ?_ ?_; focus (dsimp only; omega)) | (with_reducible apply tm_be; with_reducible assumption) | (with_reducible refine tm_bn (by with_reducible assumption) ?_ ?_; focus omega) | (with_reducible refine tm_out (by with_reducible assumption) ?_ ?_; focus omega)))); rintro e wg ⟨A, rfl, hrA, hA, hbg⟩; have hzg := hbg.size; try simp only [size_al] at hzg hA) | (go_at_call 18; (with_reducible refine (CS.out _ _ ?_ ?_).mono ?_); (focus (with_reducible assumption)); (focus (refine rb_t (b := (w.heap.size + 1)) ?_; repeat (first | with_reducible assumption | with_reducible refine rb_dr _ ?_ | with_reducible refine rb_d1 ?_ | with_reducible refine rb_al _ ?_ | (with_reducible refine rb_bn (by with_reducible assumption) ?_ ?_; focus (first | omega | (simp; done) | (simp; omega))) | (with_reducible refine rb_out ?_ (by with_reducible assumption) ?_; focus omega)))); rintro e ws ⟨rfl, ns, rfl⟩))
        go_roundw
        case rel =>
          refine ⟨k + 1, M2, by omega, by omega, by go_num, ?_, HM2, ?_, ?_⟩
          · repeat (first | with_reducible assumption | with_reducible refine tm_dr _ ?_ | with_reducible refine tm_d1 ?_ | with_reducible refine tm_al _ ?_ | (with_reducible refine tm_set ?_ ?_; focus (dsimp only; omega)) | (with_reducible apply tm_be; with_reducible assumption) | (with_reducible refine tm_bn (by with_reducible assumption) ?_ ?_; focus omega) | (with_reducible refine tm_out (by with_reducible assumption) ?_ ?_; focus omega))
          · rw [HLL.out]
            repeat (first | with_reducible assumption | with_reducible refine rb_dr _ ?_ | with_reducible refine rb_d1 ?_ | with_reducible refine rb_al _ ?_ | (with_reducible refine rb_bn (by with_reducible assumption) ?_ ?_; focus (first | omega | (simp; done) | (simp; omega))) | (with_reducible refine rb_out ?_ (by with_reducible assumption) ?_; focus omega))
          · repeat (first | with_reducible assumption | with_reducible exact Below.refl _ _ | with_reducible refine Below.drew ?_ | with_reducible refine below_drewN ?_ _ | with_reducible refine bw_alloc ?_ _ | (with_reducible refine bw_set ?_ ?_ _; focus (dsimp only; omega)) | (with_reducible apply bw_behind; with_reducible assumption) | (with_reducible refine below_behindN (by with_reducible assumption) ?_ ?_; focus omega) | (with_reducible refine below_out (by with_reducible assumption) ?_ ?_; focus omega))
        case measure => simp [intOf]; omega
      · have e0 : (DK == 0) = false := by simpa using k0
        by_cases k1 : DK = 1
        · subst k1
          cases ho : (M r).find? (pageQ DA DN) with
          | none =>
            have CK := hide (fun W hh => (by have := CKA.out M DA DN r hr hn0 W hh; rw [ho] at this; exact this : Calls Try.prog 9 #[.pointer (some ⟨w.heap.size, 0, none⟩), .int .u64 DA, .int .u64 DN] W (Makes (.tuple #[.agg #[.int .u64 0, .int .u64 0, .bool false, .bool false, .bool false, .bool false, .bool false, .bool false, .bool false, .bool false, .bool false, .bool false, .bool false, .bool false, .int .u64 0, .int .u64 0], .bool false]) W)))
            have CR := hide (fun W hh => (by have := rlook_any u4 DA DN (upF M 4) (by omega) W hh; rw [ref_look HM.out.inv.sets DA DN r hr (by omega), ho] at this; exact this : Calls Try.prog 10 #[u4, .int .u64 DA, .int .u64 DN] W (Makes (.tuple #[.agg #[.int .u64 0, .int .u64 0, .int .u64 0], .bool false]) W)))
            clear ho
            have n0 : (0 != 0) = false := by simp
            go_upto_region 13 with (first | (go_at_call 9; (with_reducible refine (CK.out _ ?_).mono ?_); (focus (repeat (first | with_reducible assumption | with_reducible refine tm_dr _ ?_ | with_reducible refine tm_d1 ?_ | with_reducible refine tm_al _ ?_ | (with_reducible refine tm_set ?_ ?_; focus (dsimp only; omega)) | (with_reducible apply tm_be; with_reducible assumption) | (with_reducible refine tm_bn (by with_reducible assumption) ?_ ?_; focus omega) | (with_reducible refine tm_out (by with_reducible assumption) ?_ ?_; focus omega)))); rintro e wk ⟨rfl, hbk⟩; have hzk := hbk.size; (try simp only [size_al] at hzk)) | ((refine wpList_store_box rfl _ _ _ rfl _ (0) (0) (0) rfl rfl infoL ?_ ?_); (focus ((repeat (first | with_reducible assumption | with_reducible refine o_dr _ ?_ | with_reducible refine o_d1 ?_ | with_reducible refine o_set ?_ | (with_reducible refine o_new ?_ ?_; (focus (simp)); (focus (simp))) | (with_reducible refine o_new ?_ ?_; (focus (simp [*]; done)); (focus (simp))) | (with_reducible refine o_new ?_ ?_; (focus (simp [*]; omega)); (focus (simp))) | with_reducible refine o_al _ ?_ | (with_reducible apply o_be; with_reducible assumption) | (with_reducible refine o_bn (by with_reducible assumption) ?_ ?_; focus omega))); done)); intro wy hry hby hoy hsy; (try simp only [size_al] at hsy); have zr := row_rg hry; have zy0 := zr 0 _ rfl; have zy1 := zr 1 _ rfl; have zy15 := zr 15 _ rfl; clear zr))
            refine wp_abs (fun W => TlbM W w.heap.size M ∧ RefB W (w.heap.size + 1) u4 (upF M 4) ∧ Below w.heap.size w W ∧ wk.heap.size < W.heap.size ∧ W.cell? ⟨wk.heap.size, 0, none⟩ = some (.int .u64 0) ∧ W.cell? ⟨wk.heap.size, 1, none⟩ = some (.int .u64 0) ∧ W.cell? ⟨wk.heap.size, 15, none⟩ = some (.int .u64 0) ∧ W.cell? ⟨wr.heap.size, 2, none⟩ = some (.int .u64 DA) ∧ W.cell? ⟨wr.heap.size, 3, none⟩ = some (.int .u64 DN)) ?_ ?_
            · have hz := hB.size
              refine ⟨?_, ?_, ?_, ?_, zy0, zy1, zy15, ?_, ?_⟩
              · repeat (first | with_reducible assumption | with_reducible refine tm_dr _ ?_ | with_reducible refine tm_d1 ?_ | with_reducible refine tm_al _ ?_ | (with_reducible refine tm_set ?_ ?_; focus (dsimp only; omega)) | (with_reducible apply tm_be; with_reducible assumption) | (with_reducible refine tm_bn (by with_reducible assumption) ?_ ?_; focus omega) | (with_reducible refine tm_out (by with_reducible assumption) ?_ ?_; focus omega))
              · have hq : RefB wk (w.heap.size + 1) u4 (upF M 4) := by
                  repeat (first | with_reducible assumption | with_reducible refine rb_dr _ ?_ | with_reducible refine rb_d1 ?_ | with_reducible refine rb_al _ ?_ | (with_reducible refine rb_bn (by with_reducible assumption) ?_ ?_; focus (first | omega | (simp; done) | (simp; omega))) | (with_reducible refine rb_out ?_ (by with_reducible assumption) ?_; focus omega))
                exact rb_be ((bw_alloc (Below.refl _ _) _).trans hby) hq
              · repeat (first | with_reducible assumption | with_reducible exact Below.refl _ _ | with_reducible refine Below.drew ?_ | with_reducible refine below_drewN ?_ _ | with_reducible refine bw_alloc ?_ _ | (with_reducible refine bw_set ?_ ?_ _; focus (dsimp only; omega)) | (with_reducible apply bw_behind; with_reducible assumption) | (with_reducible refine below_behindN (by with_reducible assumption) ?_ ?_; focus omega) | (with_reducible refine below_out (by with_reducible assumption) ?_ ?_; focus omega))
              · first | omega | (simp only [size_al] at *; omega)
              · refine c_bn hby (by dsimp only; omega) (c_al _ (c_be hbk ?_))
                simp [go_sem]
              · refine c_bn hby (by dsimp only; omega) (c_al _ (c_be hbk ?_))
                simp [go_sem]
            rintro w5 ⟨hT5, hR5, hB5, hs5, p0, p1, p2, p3, p4⟩
            have hwk : w.heap.size < wk.heap.size := by omega
            clear hby hoy hry hsy zy0 zy1 zy15 hbk hT hR hB
            generalize wk.heap.size = B7 at *
            have hL7 : ltB B7 w5.heap.size = true := decide_eq_true hs5
            go_upto_region 14 with (first | (go_at_call 10; (with_reducible refine (CR.out _ ?_).mono ?_); (focus (refine rb_t (b := (w.heap.size + 1)) ?_; repeat (first | with_reducible assumption | with_reducible refine rb_dr _ ?_ | with_reducible refine rb_d1 ?_ | with_reducible refine rb_al _ ?_ | (with_reducible refine rb_bn (by with_reducible assumption) ?_ ?_; focus (first | omega | (simp; done) | (simp; omega))) | (with_reducible refine rb_out ?_ (by with_reducible assumption) ?_; focus omega)))); rintro e wq ⟨rfl, hbq⟩; have hzq := hbq.size; (try simp only [size_al] at hzq)))
            refine wp_abs (fun W => TlbM W w.heap.size M ∧ RefB W (w.heap.size + 1) u4 (upF M 4) ∧ Below w.heap.size w W ∧ wq.heap.size < W.heap.size ∧ W.cell? ⟨B7, 0, none⟩ = some (.int .u64 0) ∧ W.cell? ⟨B7, 1, none⟩ = some (.int .u64 0) ∧ W.cell? ⟨B7, 15, none⟩ = some (.int .u64 0) ∧ W.cell? ⟨wq.heap.size, 0, none⟩ = some (.int .u64 0) ∧ W.cell? ⟨wq.heap.size, 1, none⟩ = some (.int .u64 0) ∧ W.cell? ⟨wq.heap.size, 2, none⟩ = some (.int .u64 0)) ?_ ?_
            · refine ⟨?_, ?_, ?_, ?_, c_al _ (c_be hbq p0), c_al _ (c_be hbq p1), c_al _ (c_be hbq p2), ?_, ?_, ?_⟩
              · repeat (first | with_reducible assumption | with_reducible refine tm_dr _ ?_ | with_reducible refine tm_d1 ?_ | with_reducible refine tm_al _ ?_ | (with_reducible refine tm_set ?_ ?_; focus (dsimp only; omega)) | (with_reducible apply tm_be; with_reducible assumption) | (with_reducible refine tm_bn (by with_reducible assumption) ?_ ?_; focus omega) | (with_reducible refine tm_out (by with_reducible assumption) ?_ ?_; focus omega))
              · repeat (first | with_reducible assumption | with_reducible refine rb_dr _ ?_ | with_reducible refine rb_d1 ?_ | with_reducible refine rb_al _ ?_ | (with_reducible refine rb_bn (by with_reducible assumption) ?_ ?_; focus (first | omega | (simp; done) | (simp; omega))) | (with_reducible refine rb_out ?_ (by with_reducible assumption) ?_; focus omega))
              · repeat (first | with_reducible assumption | with_reducible exact Below.refl _ _ | with_reducible refine Below.drew ?_ | with_reducible refine below_drewN ?_ _ | with_reducible refine bw_alloc ?_ _ | (with_reducible refine bw_set ?_ ?_ _; focus (dsimp only; omega)) | (with_reducible apply bw_behind; with_reducible assumption) | (with_reducible refine below_behindN (by with_reducible assumption) ?_ ?_; focus omega) | (with_reducible refine below_out (by with_reducible assumption) ?_ ?_; focus omega))
              · simp
              · simp [go_sem]
              · simp [go_sem]
              · simp [go_sem]
            rintro w6 ⟨hT, hR, hB, hs6, d0, d1, d2, d3, d4, d5⟩
            clear hbq hT5 hR5 hB5 p0 p1 p2 p3 p4
            go_upto_region 28 with (first | fail)
            have HM2 := HM
            clear d0 d1 d2 d3 d4 d5
            refine wp_abs (fun W => TlbM W w.heap.size (M) ∧ RefB W (w.heap.size + 1) (u4) (upF (M) 4) ∧ Below w.heap.size w W ∧ w.heap.size < W.heap.size) ?_ ?_
            · have hz := hB.size
              refine ⟨?_, ?_, ?_, ?_⟩
              · repeat (first | with_reducible assumption | with_reducible refine tm_dr _ ?_ | with_reducible refine tm_d1 ?_ | with_reducible refine tm_al _ ?_ | (with_reducible refine tm_set ?_ ?_; focus (dsimp only; omega)) | (with_reducible apply tm_be; with_reducible assumption) | (with_reducible refine tm_bn (by with_reducible assumption) ?_ ?_; focus omega) | (with_reducible refine tm_out (by with_reducible assumption) ?_ ?_; focus omega))
              · repeat (first | with_reducible assumption | with_reducible refine rb_dr _ ?_ | with_reducible refine rb_d1 ?_ | with_reducible refine rb_al _ ?_ | (with_reducible refine rb_bn (by with_reducible assumption) ?_ ?_; focus (first | omega | (simp; done) | (simp; omega))) | (with_reducible refine rb_out ?_ (by with_reducible assumption) ?_; focus omega))
              · repeat (first | with_reducible assumption | with_reducible exact Below.refl _ _ | with_reducible refine Below.drew ?_ | with_reducible refine below_drewN ?_ _ | with_reducible refine bw_alloc ?_ _ | (with_reducible refine bw_set ?_ ?_ _; focus (dsimp only; omega)) | (with_reducible apply bw_behind; with_reducible assumption) | (with_reducible refine below_behindN (by with_reducible assumption) ?_ ?_; focus omega) | (with_reducible refine below_out (by with_reducible assumption) ?_ ?_; focus omega))
              · first | omega | (simp only [size_al] at *; omega)
            rintro w1 ⟨hT1, hR1, hB1, hs1⟩
            obtain ⟨M2, hM2⟩ : ∃ M2, (M) = M2 := ⟨_, rfl⟩
            rw [hM2] at hT1 hR1 HM2
            have hm8 := upF_length M2 4 (fun r hr => HM2.out.inv.len r hr)
            have CGx := fun W h => CGA.out M2 W h
            obtain ⟨L, hL⟩ : ∃ L, upF M2 4 = L := ⟨_, rfl⟩
            have HLL := hide hL
            rw [hL] at CGx hm8 hR1
            obtain ⟨m, hm⟩ : ∃ m, L.length = m := ⟨_, rfl⟩
            rw [hm] at CGx hm8
            have CG := hide CGx
            have CS := hide (fun (A : Nat) (W : World) hA hR => same_any A m (u4) L hm (by omega) W hA hR)
            clear CGx hm hL hM2 hT hR hB
            go_wp2_with (first | (go_at_call 19; (with_reducible refine (CG.out _ ?_).mono ?_); (focus (repeat (first | with_reducible assumption | with_reducible refine tm_dr _ ?_ | with_reducible refine tm_d1 ?_ | with_reducible refine tm_al _ ?_ | (with_reducible refine tm_set ?_ ?_; focus (dsimp only; omega)) | (with_reducible apply tm_be; with_reducible assumption) | (with_reducible refine tm_bn (by with_reducible assumption) ?_ ?_; focus omega) | (with_reducible refine tm_out (by with_reducible assumption) ?_ ?_; focus omega)))); rintro e wg ⟨A, rfl, hrA, hA, hbg⟩; have hzg := hbg.size; try simp only [size_al] at hzg hA) | (go_at_call 18; (with_reducible refine (CS.out _ _ ?_ ?_).mono ?_); (focus (with_reducible assumption)); (focus (refine rb_t (b := (w.heap.size + 1)) ?_; repeat (first | with_reducible assumption | with_reducible refine rb_dr _ ?_ | with_reducible refine rb_d1 ?_ | with_reducible refine rb_al _ ?_ | (with_reducible refine rb_bn (by with_reducible assumption) ?_ ?_; focus (first | omega | (simp; done) | (simp; omega))) | (with_reducible refine rb_out ?_ (by with_reducible assumption) ?_; focus omega)))); rintro e ws ⟨rfl, ns, rfl⟩))
            go_roundw
            case rel =>
              refine ⟨k + 1, M2, by omega, by omega, by go_num, ?_, HM2, ?_, ?_⟩
              · repeat (first | with_reducible assumption | with_reducible refine tm_dr _ ?_ | with_reducible refine tm_d1 ?_ | with_reducible refine tm_al _ ?_ | (with_reducible refine tm_set ?_ ?_; focus (dsimp only; omega)) | (with_reducible apply tm_be; with_reducible assumption) | (with_reducible refine tm_bn (by with_reducible assumption) ?_ ?_; focus omega) | (with_reducible refine tm_out (by with_reducible assumption) ?_ ?_; focus omega))
              · rw [HLL.out]
                repeat (first | with_reducible assumption | with_reducible refine rb_dr _ ?_ | with_reducible refine rb_d1 ?_ | with_reducible refine rb_al _ ?_ | (with_reducible refine rb_bn (by with_reducible assumption) ?_ ?_; focus (first | omega | (simp; done) | (simp; omega))) | (with_reducible refine rb_out ?_ (by with_reducible assumption) ?_; focus omega))
              · repeat (first | with_reducible assumption | with_reducible exact Below.refl _ _ | with_reducible refine Below.drew ?_ | with_reducible refine below_drewN ?_ _ | with_reducible refine bw_alloc ?_ _ | (with_reducible refine bw_set ?_ ?_ _; focus (dsimp only; omega)) | (with_reducible apply bw_behind; with_reducible assumption) | (with_reducible refine below_behindN (by with_reducible assumption) ?_ ?_; focus omega) | (with_reducible refine below_out (by with_reducible assumption) ?_ ?_; focus omega))
            case measure => simp [intOf]; omega
          | some y =>
            obtain ⟨ya, yn, yx⟩ := y
            have CK := hide (fun W hh => (by have := CKA.out M DA DN r hr hn0 W hh; rw [ho] at this; exact this : Calls Try.prog 9 #[.pointer (some ⟨w.heap.size, 0, none⟩), .int .u64 DA, .int .u64 DN] W (Makes (.tuple #[.agg #[.int .u64 ya, .int .u64 yn, .bool false, .bool false, .bool false, .bool false, .bool false, .bool false, .bool false, .bool false, .bool false, .bool false, .bool false, .bool false, .int .u64 0, .int .u64 yx], .bool true]) W)))
            have CR := hide (fun W hh => (by have := rlook_any u4 DA DN (upF M 4) (by omega) W hh; rw [ref_look HM.out.inv.sets DA DN r hr (by omega), ho] at this; exact this : Calls Try.prog 10 #[u4, .int .u64 DA, .int .u64 DN] W (Makes (.tuple #[.agg #[.int .u64 ya, .int .u64 yn, .int .u64 yx], .bool true]) W)))
            clear ho
            have n0 : (ya != ya) = false := by simp
            go_upto_region 13 with (first | (go_at_call 9; (with_reducible refine (CK.out _ ?_).mono ?_); (focus (repeat (first | with_reducible assumption | with_reducible refine tm_dr _ ?_ | with_reducible refine tm_d1 ?_ | with_reducible refine tm_al _ ?_ | (with_reducible refine tm_set ?_ ?_; focus (dsimp only; omega)) | (with_reducible apply tm_be; with_reducible assumption) | (with_reducible refine tm_bn (by with_reducible assumption) ?_ ?_; focus omega) | (with_reducible refine tm_out (by with_reducible assumption) ?_ ?_; focus omega)))); rintro e wk ⟨rfl, hbk⟩; have hzk := hbk.size; (try simp only [size_al] at hzk)) | ((refine wpList_store_box rfl _ _ _ rfl _ (ya) (yn) (yx) rfl rfl infoL ?_ ?_); (focus ((repeat (first | with_reducible assumption | with_reducible refine o_dr _ ?_ | with_reducible refine o_d1 ?_ | with_reducible refine o_set ?_ | (with_reducible refine o_new ?_ ?_; (focus (simp)); (focus (simp))) | (with_reducible refine o_new ?_ ?_; (focus (simp [*]; done)); (focus (simp))) | (with_reducible refine o_new ?_ ?_; (focus (simp [*]; omega)); (focus (simp))) | with_reducible refine o_al _ ?_ | (with_reducible apply o_be; with_reducible assumption) | (with_reducible refine o_bn (by with_reducible assumption) ?_ ?_; focus omega))); done)); intro wy hry hby hoy hsy; (try simp only [size_al] at hsy); have zr := row_rg hry; have zy0 := zr 0 _ rfl; have zy1 := zr 1 _ rfl; have zy15 := zr 15 _ rfl; clear zr))
            refine wp_abs (fun W => TlbM W w.heap.size M ∧ RefB W (w.heap.size + 1) u4 (upF M 4) ∧ Below w.heap.size w W ∧ wk.heap.size < W.heap.size ∧ W.cell? ⟨wk.heap.size, 0, none⟩ = some (.int .u64 ya) ∧ W.cell? ⟨wk.heap.size, 1, none⟩ = some (.int .u64 yn) ∧ W.cell? ⟨wk.heap.size, 15, none⟩ = some (.int .u64 yx) ∧ W.cell? ⟨wr.heap.size, 2, none⟩ = some (.int .u64 DA) ∧ W.cell? ⟨wr.heap.size, 3, none⟩ = some (.int .u64 DN)) ?_ ?_
            · have hz := hB.size
              refine ⟨?_, ?_, ?_, ?_, zy0, zy1, zy15, ?_, ?_⟩
              · repeat (first | with_reducible assumption | with_reducible refine tm_dr _ ?_ | with_reducible refine tm_d1 ?_ | with_reducible refine tm_al _ ?_ | (with_reducible refine tm_set ?_ ?_; focus (dsimp only; omega)) | (with_reducible apply tm_be; with_reducible assumption) | (with_reducible refine tm_bn (by with_reducible assumption) ?_ ?_; focus omega) | (with_reducible refine tm_out (by with_reducible assumption) ?_ ?_; focus omega))
              · have hq : RefB wk (w.heap.size + 1) u4 (upF M 4) := by
                  repeat (first | with_reducible assumption | with_reducible refine rb_dr _ ?_ | with_reducible refine rb_d1 ?_ | with_reducible refine rb_al _ ?_ | (with_reducible refine rb_bn (by with_reducible assumption) ?_ ?_; focus (first | omega | (simp; done) | (simp; omega))) | (with_reducible refine rb_out ?_ (by with_reducible assumption) ?_; focus omega))
                exact rb_be ((bw_alloc (Below.refl _ _) _).trans hby) hq
              · repeat (first | with_reducible assumption | with_reducible exact Below.refl _ _ | with_reducible refine Below.drew ?_ | with_reducible refine below_drewN ?_ _ | with_reducible refine bw_alloc ?_ _ | (with_reducible refine bw_set ?_ ?_ _; focus (dsimp only; omega)) | (with_reducible apply bw_behind; with_reducible assumption) | (with_reducible refine below_behindN (by with_reducible assumption) ?_ ?_; focus omega) | (with_reducible refine below_out (by with_reducible assumption) ?_ ?_; focus omega))
              · first | omega | (simp only [size_al] at *; omega)
              · refine c_bn hby (by dsimp only; omega) (c_al _ (c_be hbk ?_))
                simp [go_sem]
              · refine c_bn hby (by dsimp only; omega) (c_al _ (c_be hbk ?_))
                simp [go_sem]
            rintro w5 ⟨hT5, hR5, hB5, hs5, p0, p1, p2, p3, p4⟩
            have hwk : w.heap.size < wk.heap.size := by omega
            clear hby hoy hry hsy zy0 zy1 zy15 hbk hT hR hB
            generalize wk.heap.size = B7 at *
            have hL7 : ltB B7 w5.heap.size = true := decide_eq_true hs5
            go_upto_region 14 with (first | (go_at_call 10; (with_reducible refine (CR.out _ ?_).mono ?_); (focus (refine rb_t (b := (w.heap.size + 1)) ?_; repeat (first | with_reducible assumption | with_reducible refine rb_dr _ ?_ | with_reducible refine rb_d1 ?_ | with_reducible refine rb_al _ ?_ | (with_reducible refine rb_bn (by with_reducible assumption) ?_ ?_; focus (first | omega | (simp; done) | (simp; omega))) | (with_reducible refine rb_out ?_ (by with_reducible assumption) ?_; focus omega)))); rintro e wq ⟨rfl, hbq⟩; have hzq := hbq.size; (try simp only [size_al] at hzq)))
            refine wp_abs (fun W => TlbM W w.heap.size M ∧ RefB W (w.heap.size + 1) u4 (upF M 4) ∧ Below w.heap.size w W ∧ wq.heap.size < W.heap.size ∧ W.cell? ⟨B7, 0, none⟩ = some (.int .u64 ya) ∧ W.cell? ⟨B7, 1, none⟩ = some (.int .u64 yn) ∧ W.cell? ⟨B7, 15, none⟩ = some (.int .u64 yx) ∧ W.cell? ⟨wq.heap.size, 0, none⟩ = some (.int .u64 ya) ∧ W.cell? ⟨wq.heap.size, 1, none⟩ = some (.int .u64 yn) ∧ W.cell? ⟨wq.heap.size, 2, none⟩ = some (.int .u64 yx)) ?_ ?_
            · refine ⟨?_, ?_, ?_, ?_, c_al _ (c_be hbq p0), c_al _ (c_be hbq p1), c_al _ (c_be hbq p2), ?_, ?_, ?_⟩
              · repeat (first | with_reducible assumption | with_reducible refine tm_dr _ ?_ | with_reducible refine tm_d1 ?_ | with_reducible refine tm_al _ ?_ | (with_reducible refine tm_set ?_ ?_; focus (dsimp only; omega)) | (with_reducible apply tm_be; with_reducible assumption) | (with_reducible refine tm_bn (by with_reducible assumption) ?_ ?_; focus omega) | (with_reducible refine tm_out (by with_reducible assumption) ?_ ?_; focus omega))
              · repeat (first | with_reducible assumption | with_reducible refine rb_dr _ ?_ | with_reducible refine rb_d1 ?_ | with_reducible refine rb_al _ ?_ | (with_reducible refine rb_bn (by with_reducible assumption) ?_ ?_; focus (first | omega | (simp; done) | (simp; omega))) | (with_reducible refine rb_out ?_ (by with_reducible assumption) ?_; focus omega))
              · repeat (first | with_reducible assumption | with_reducible exact Below.refl _ _ | with_reducible refine Below.drew ?_ | with_reducible refine below_drewN ?_ _ | with_reducible refine bw_alloc ?_ _ | (with_reducible refine bw_set ?_ ?_ _; focus (dsimp only; omega)) | (with_reducible apply bw_behind; with_reducible assumption) | (with_reducible refine below_behindN (by with_reducible assumption) ?_ ?_; focus omega) | (with_reducible refine below_out (by with_reducible assumption) ?_ ?_; focus omega))
              · simp
              · simp [go_sem]
              · simp [go_sem]
              · simp [go_sem]
            rintro w6 ⟨hT, hR, hB, hs6, d0, d1, d2, d3, d4, d5⟩
            clear hbq hT5 hR5 hB5 p0 p1 p2 p3 p4
            go_upto_region 28 with (first | fail)
            have HM2 := HM
            clear d0 d1 d2 d3 d4 d5
            refine wp_abs (fun W => TlbM W w.heap.size (M) ∧ RefB W (w.heap.size + 1) (u4) (upF (M) 4) ∧ Below w.heap.size w W ∧ w.heap.size < W.heap.size) ?_ ?_
            · have hz := hB.size
              refine ⟨?_, ?_, ?_, ?_⟩
              · repeat (first | with_reducible assumption | with_reducible refine tm_dr _ ?_ | with_reducible refine tm_d1 ?_ | with_reducible refine tm_al _ ?_ | (with_reducible refine tm_set ?_ ?_; focus (dsimp only; omega)) | (with_reducible apply tm_be; with_reducible assumption) | (with_reducible refine tm_bn (by with_reducible assumption) ?_ ?_; focus omega) | (with_reducible refine tm_out (by with_reducible assumption) ?_ ?_; focus omega))
              · repeat (first | with_reducible assumption | with_reducible refine rb_dr _ ?_ | with_reducible refine rb_d1 ?_ | with_reducible refine rb_al _ ?_ | (with_reducible refine rb_bn (by with_reducible assumption) ?_ ?_; focus (first | omega | (simp; done) | (simp; omega))) | (with_reducible refine rb_out ?_ (by with_reducible assumption) ?_; focus omega))
              · repeat (first | with_reducible assumption | with_reducible exact Below.refl _ _ | with_reducible refine Below.drew ?_ | with_reducible refine below_drewN ?_ _ | with_reducible refine bw_alloc ?_ _ | (with_reducible refine bw_set ?_ ?_ _; focus (dsimp only; omega)) | (with_reducible apply bw_behind; with_reducible assumption) | (with_reducible refine below_behindN (by with_reducible assumption) ?_ ?_; focus omega) | (with_reducible refine below_out (by with_reducible assumption) ?_ ?_; focus omega))
              · first | omega | (simp only [size_al] at *; omega)
            rintro w1 ⟨hT1, hR1, hB1, hs1⟩
            obtain ⟨M2, hM2⟩ : ∃ M2, (M) = M2 := ⟨_, rfl⟩
            rw [hM2] at hT1 hR1 HM2
            have hm8 := upF_length M2 4 (fun r hr => HM2.out.inv.len r hr)
            have CGx := fun W h => CGA.out M2 W h
            obtain ⟨L, hL⟩ : ∃ L, upF M2 4 = L := ⟨_, rfl⟩
            have HLL := hide hL
            rw [hL] at CGx hm8 hR1
            obtain ⟨m, hm⟩ : ∃ m, L.length = m := ⟨_, rfl⟩
            rw [hm] at CGx hm8
            have CG := hide CGx
            have CS := hide (fun (A : Nat) (W : World) hA hR => same_any A m (u4) L hm (by omega) W hA hR)
            clear CGx hm hL hM2 hT hR hB
            go_wp2_with (first | (go_at_call 19; (with_reducible refine (CG.out _ ?_).mono ?_); (focus (repeat (first | with_reducible assumption | with_reducible refine tm_dr _ ?_ | with_reducible refine tm_d1 ?_ | with_reducible refine tm_al _ ?_ | (with_reducible refine tm_set ?_ ?_; focus (dsimp only; omega)) | (with_reducible apply tm_be; with_reducible assumption) | (with_reducible refine tm_bn (by with_reducible assumption) ?_ ?_; focus omega) | (with_reducible refine tm_out (by with_reducible assumption) ?_ ?_; focus omega)))); rintro e wg ⟨A, rfl, hrA, hA, hbg⟩; have hzg := hbg.size; try simp only [size_al] at hzg hA) | (go_at_call 18; (with_reducible refine (CS.out _ _ ?_ ?_).mono ?_); (focus (with_reducible assumption)); (focus (refine rb_t (b := (w.heap.size + 1)) ?_; repeat (first | with_reducible assumption | with_reducible refine rb_dr _ ?_ | with_reducible refine rb_d1 ?_ | with_reducible refine rb_al _ ?_ | (with_reducible refine rb_bn (by with_reducible assumption) ?_ ?_; focus (first | omega | (simp; done) | (simp; omega))) | (with_reducible refine rb_out ?_ (by with_reducible assumption) ?_; focus omega)))); rintro e ws ⟨rfl, ns, rfl⟩))
            go_roundw
            case rel =>
              refine ⟨k + 1, M2, by omega, by omega, by go_num, ?_, HM2, ?_, ?_⟩
              · repeat (first | with_reducible assumption | with_reducible refine tm_dr _ ?_ | with_reducible refine tm_d1 ?_ | with_reducible refine tm_al _ ?_ | (with_reducible refine tm_set ?_ ?_; focus (dsimp only; omega)) | (with_reducible apply tm_be; with_reducible assumption) | (with_reducible refine tm_bn (by with_reducible assumption) ?_ ?_; focus omega) | (with_reducible refine tm_out (by with_reducible assumption) ?_ ?_; focus omega))
              · rw [HLL.out]
                repeat (first | with_reducible assumption | with_reducible refine rb_dr _ ?_ | with_reducible refine rb_d1 ?_ | with_reducible refine rb_al _ ?_ | (with_reducible refine rb_bn (by with_reducible assumption) ?_ ?_; focus (first | omega | (simp; done) | (simp; omega))) | (with_reducible refine rb_out ?_ (by with_reducible assumption) ?_; focus omega))
              · repeat (first | with_reducible assumption | with_reducible exact Below.refl _ _ | with_reducible refine Below.drew ?_ | with_reducible refine below_drewN ?_ _ | with_reducible refine bw_alloc ?_ _ | (with_reducible refine bw_set ?_ ?_ _; focus (dsimp only; omega)) | (with_reducible apply bw_behind; with_reducible assumption) | (with_reducible refine below_behindN (by with_reducible assumption) ?_ ?_; focus omega) | (with_reducible refine below_out (by with_reducible assumption) ?_ ?_; focus omega))
            case measure => simp [intOf]; omega
        · have e1 : (DK == 1) = false := by simpa using k1
          by_cases k2 : DK = 2
          · subst k2
            have CD := hide (fun W hh => CDA.out M DA DN W hh)
            have CR := hide (fun W hh => rdrop_any u4 DA DN (upF M 4) (by omega) W hh)
            go_upto_region 28 with (first | (go_at_call 11; (with_reducible refine (CD.out _ ?_).mono ?_); (focus (repeat (first | with_reducible assumption | with_reducible refine tm_dr _ ?_ | with_reducible refine tm_d1 ?_ | with_reducible refine tm_al _ ?_ | (with_reducible refine tm_set ?_ ?_; focus (dsimp only; omega)) | (with_reducible apply tm_be; with_reducible assumption) | (with_reducible refine tm_bn (by with_reducible assumption) ?_ ?_; focus omega) | (with_reducible refine tm_out (by with_reducible assumption) ?_ ?_; focus omega)))); rintro e wp0 ⟨rfl, hTp0, hUp0⟩; have hzp0 := hUp0.size; (try simp only [size_al] at hzp0); have hrp0 := out_reads hUp0; obtain ⟨mp0, hsp0⟩ := out_grew hUp0) | (go_at_call 12; (with_reducible refine (CR.out _ ?_).mono ?_); (focus (refine rb_t (b := (w.heap.size + 1)) ?_; repeat (first | with_reducible assumption | with_reducible refine rb_dr _ ?_ | with_reducible refine rb_d1 ?_ | with_reducible refine rb_al _ ?_ | (with_reducible refine rb_bn (by with_reducible assumption) ?_ ?_; focus (first | omega | (simp; done) | (simp; omega))) | (with_reducible refine rb_out ?_ (by with_reducible assumption) ?_; focus omega)))); rintro e wq ⟨u, rfl, hRq, hbq⟩; have hzq := hbq.size; (try simp only [size_al] at hzq)))
            have HM2 : Hid (InvL (dropM M DA DN)) := hide (invl_drop _ _ HM.out)
            have hR9 : RefB wq (w.heap.size + 1) u (upF (dropM M DA DN) 4) := by
              rw [← ref_drop M]
              exact rb_less (by omega) hRq
            clear hRq
            refine wp_abs (fun W => TlbM W w.heap.size (dropM M DA DN) ∧ RefB W (w.heap.size + 1) (u) (upF (dropM M DA DN) 4) ∧ Below w.heap.size w W ∧ w.heap.size < W.heap.size) ?_ ?_
            · have hz := hB.size
              refine ⟨?_, ?_, ?_, ?_⟩
              · repeat (first | with_reducible assumption | with_reducible refine tm_dr _ ?_ | with_reducible refine tm_d1 ?_ | with_reducible refine tm_al _ ?_ | (with_reducible refine tm_set ?_ ?_; focus (dsimp only; omega)) | (with_reducible apply tm_be; with_reducible assumption) | (with_reducible refine tm_bn (by with_reducible assumption) ?_ ?_; focus omega) | (with_reducible refine tm_out (by with_reducible assumption) ?_ ?_; focus omega))
              · repeat (first | with_reducible assumption | with_reducible refine rb_dr _ ?_ | with_reducible refine rb_d1 ?_ | with_reducible refine rb_al _ ?_ | (with_reducible refine rb_bn (by with_reducible assumption) ?_ ?_; focus (first | omega | (simp; done) | (simp; omega))) | (with_reducible refine rb_out ?_ (by with_reducible assumption) ?_; focus omega))
              · repeat (first | with_reducible assumption | with_reducible exact Below.refl _ _ | with_reducible refine Below.drew ?_ | with_reducible refine below_drewN ?_ _ | with_reducible refine bw_alloc ?_ _ | (with_reducible refine bw_set ?_ ?_ _; focus (dsimp only; omega)) | (with_reducible apply bw_behind; with_reducible assumption) | (with_reducible refine below_behindN (by with_reducible assumption) ?_ ?_; focus omega) | (with_reducible refine below_out (by with_reducible assumption) ?_ ?_; focus omega))
              · first | omega | (simp only [size_al] at *; omega)
            rintro w1 ⟨hT1, hR1, hB1, hs1⟩
            obtain ⟨M2, hM2⟩ : ∃ M2, (dropM M DA DN) = M2 := ⟨_, rfl⟩
            rw [hM2] at hT1 hR1 HM2
            have hm8 := upF_length M2 4 (fun r hr => HM2.out.inv.len r hr)
            have CGx := fun W h => CGA.out M2 W h
            obtain ⟨L, hL⟩ : ∃ L, upF M2 4 = L := ⟨_, rfl⟩
            have HLL := hide hL
            rw [hL] at CGx hm8 hR1
            obtain ⟨m, hm⟩ : ∃ m, L.length = m := ⟨_, rfl⟩
            rw [hm] at CGx hm8
            have CG := hide CGx
            have CS := hide (fun (A : Nat) (W : World) hA hR => same_any A m (u) L hm (by omega) W hA hR)
            clear CGx hm hL hM2 hT hR hB
            go_wp2_with (first | (go_at_call 19; (with_reducible refine (CG.out _ ?_).mono ?_); (focus (repeat (first | with_reducible assumption | with_reducible refine tm_dr _ ?_ | with_reducible refine tm_d1 ?_ | with_reducible refine tm_al _ ?_ | (with_reducible refine tm_set ?_ ?_; focus (dsimp only; omega)) | (with_reducible apply tm_be; with_reducible assumption) | (with_reducible refine tm_bn (by with_reducible assumption) ?_ ?_; focus omega) | (with_reducible refine tm_out (by with_reducible assumption) ?_ ?_; focus omega)))); rintro e wg ⟨A, rfl, hrA, hA, hbg⟩; have hzg := hbg.size; try simp only [size_al] at hzg hA) | (go_at_call 18; (with_reducible refine (CS.out _ _ ?_ ?_).mono ?_); (focus (with_reducible assumption)); (focus (refine rb_t (b := (w.heap.size + 1)) ?_; repeat (first | with_reducible assumption | with_reducible refine rb_dr _ ?_ | with_reducible refine rb_d1 ?_ | with_reducible refine rb_al _ ?_ | (with_reducible refine rb_bn (by with_reducible assumption) ?_ ?_; focus (first | omega | (simp; done) | (simp; omega))) | (with_reducible refine rb_out ?_ (by with_reducible assumption) ?_; focus omega)))); rintro e ws ⟨rfl, ns, rfl⟩))
            go_roundw
            case rel =>
              refine ⟨k + 1, M2, by omega, by omega, by go_num, ?_, HM2, ?_, ?_⟩
              · repeat (first | with_reducible assumption | with_reducible refine tm_dr _ ?_ | with_reducible refine tm_d1 ?_ | with_reducible refine tm_al _ ?_ | (with_reducible refine tm_set ?_ ?_; focus (dsimp only; omega)) | (with_reducible apply tm_be; with_reducible assumption) | (with_reducible refine tm_bn (by with_reducible assumption) ?_ ?_; focus omega) | (with_reducible refine tm_out (by with_reducible assumption) ?_ ?_; focus omega))
              · rw [HLL.out]
                repeat (first | with_reducible assumption | with_reducible refine rb_dr _ ?_ | with_reducible refine rb_d1 ?_ | with_reducible refine rb_al _ ?_ | (with_reducible refine rb_bn (by with_reducible assumption) ?_ ?_; focus (first | omega | (simp; done) | (simp; omega))) | (with_reducible refine rb_out ?_ (by with_reducible assumption) ?_; focus omega))
              · repeat (first | with_reducible assumption | with_reducible exact Below.refl _ _ | with_reducible refine Below.drew ?_ | with_reducible refine below_drewN ?_ _ | with_reducible refine bw_alloc ?_ _ | (with_reducible refine bw_set ?_ ?_ _; focus (dsimp only; omega)) | (with_reducible apply bw_behind; with_reducible assumption) | (with_reducible refine below_behindN (by with_reducible assumption) ?_ ?_; focus omega) | (with_reducible refine below_out (by with_reducible assumption) ?_ ?_; focus omega))
            case measure => simp [intOf]; omega
          · have e2 : (DK == 2) = false := by simpa using k2
            by_cases k3 : DK = 3
            · subst k3
              have CF := hide (fun W hh => CFA.out M DA W hh)
              have CR := hide (fun W hh => rflush_any u4 DA (upF M 4) (by omega) W hh)
              go_upto_region 28 with (first | (go_at_call 13; (with_reducible refine (CF.out _ ?_).mono ?_); (focus (repeat (first | with_reducible assumption | with_reducible refine tm_dr _ ?_ | with_reducible refine tm_d1 ?_ | with_reducible refine tm_al _ ?_ | (with_reducible refine tm_set ?_ ?_; focus (dsimp only; omega)) | (with_reducible apply tm_be; with_reducible assumption) | (with_reducible refine tm_bn (by with_reducible assumption) ?_ ?_; focus omega) | (with_reducible refine tm_out (by with_reducible assumption) ?_ ?_; focus omega)))); rintro e wp0 ⟨rfl, hTp0, hUp0⟩; have hzp0 := hUp0.size; (try simp only [size_al] at hzp0); have hrp0 := out_reads hUp0; obtain ⟨mp0, hsp0⟩ := out_grew hUp0) | (go_at_call 14; (with_reducible refine (CR.out _ ?_).mono ?_); (focus (refine rb_t (b := (w.heap.size + 1)) ?_; repeat (first | with_reducible assumption | with_reducible refine rb_dr _ ?_ | with_reducible refine rb_d1 ?_ | with_reducible refine rb_al _ ?_ | (with_reducible refine rb_bn (by with_reducible assumption) ?_ ?_; focus (first | omega | (simp; done) | (simp; omega))) | (with_reducible refine rb_out ?_ (by with_reducible assumption) ?_; focus omega)))); rintro e wq ⟨u, rfl, hRq, hbq⟩; have hzq := hbq.size; (try simp only [size_al] at hzq)))
              have HM2 : Hid (InvL (flushM M DA)) := hide (invl_flush _ HM.out)
              have hR9 : RefB wq (w.heap.size + 1) u (upF (flushM M DA) 4) := by
                rw [← ref_flush M]
                exact rb_less (by omega) hRq
              clear hRq
              refine wp_abs (fun W => TlbM W w.heap.size (flushM M DA) ∧ RefB W (w.heap.size + 1) (u) (upF (flushM M DA) 4) ∧ Below w.heap.size w W ∧ w.heap.size < W.heap.size) ?_ ?_
              · have hz := hB.size
                refine ⟨?_, ?_, ?_, ?_⟩
                · repeat (first | with_reducible assumption | with_reducible refine tm_dr _ ?_ | with_reducible refine tm_d1 ?_ | with_reducible refine tm_al _ ?_ | (with_reducible refine tm_set ?_ ?_; focus (dsimp only; omega)) | (with_reducible apply tm_be; with_reducible assumption) | (with_reducible refine tm_bn (by with_reducible assumption) ?_ ?_; focus omega) | (with_reducible refine tm_out (by with_reducible assumption) ?_ ?_; focus omega))
                · repeat (first | with_reducible assumption | with_reducible refine rb_dr _ ?_ | with_reducible refine rb_d1 ?_ | with_reducible refine rb_al _ ?_ | (with_reducible refine rb_bn (by with_reducible assumption) ?_ ?_; focus (first | omega | (simp; done) | (simp; omega))) | (with_reducible refine rb_out ?_ (by with_reducible assumption) ?_; focus omega))
                · repeat (first | with_reducible assumption | with_reducible exact Below.refl _ _ | with_reducible refine Below.drew ?_ | with_reducible refine below_drewN ?_ _ | with_reducible refine bw_alloc ?_ _ | (with_reducible refine bw_set ?_ ?_ _; focus (dsimp only; omega)) | (with_reducible apply bw_behind; with_reducible assumption) | (with_reducible refine below_behindN (by with_reducible assumption) ?_ ?_; focus omega) | (with_reducible refine below_out (by with_reducible assumption) ?_ ?_; focus omega))
                · first | omega | (simp only [size_al] at *; omega)
              rintro w1 ⟨hT1, hR1, hB1, hs1⟩
              obtain ⟨M2, hM2⟩ : ∃ M2, (flushM M DA) = M2 := ⟨_, rfl⟩
              rw [hM2] at hT1 hR1 HM2
              have hm8 := upF_length M2 4 (fun r hr => HM2.out.inv.len r hr)
              have CGx := fun W h => CGA.out M2 W h
              obtain ⟨L, hL⟩ : ∃ L, upF M2 4 = L := ⟨_, rfl⟩
              have HLL := hide hL
              rw [hL] at CGx hm8 hR1
              obtain ⟨m, hm⟩ : ∃ m, L.length = m := ⟨_, rfl⟩
              rw [hm] at CGx hm8
              have CG := hide CGx
              have CS := hide (fun (A : Nat) (W : World) hA hR => same_any A m (u) L hm (by omega) W hA hR)
              clear CGx hm hL hM2 hT hR hB
              go_wp2_with (first | (go_at_call 19; (with_reducible refine (CG.out _ ?_).mono ?_); (focus (repeat (first | with_reducible assumption | with_reducible refine tm_dr _ ?_ | with_reducible refine tm_d1 ?_ | with_reducible refine tm_al _ ?_ | (with_reducible refine tm_set ?_ ?_; focus (dsimp only; omega)) | (with_reducible apply tm_be; with_reducible assumption) | (with_reducible refine tm_bn (by with_reducible assumption) ?_ ?_; focus omega) | (with_reducible refine tm_out (by with_reducible assumption) ?_ ?_; focus omega)))); rintro e wg ⟨A, rfl, hrA, hA, hbg⟩; have hzg := hbg.size; try simp only [size_al] at hzg hA) | (go_at_call 18; (with_reducible refine (CS.out _ _ ?_ ?_).mono ?_); (focus (with_reducible assumption)); (focus (refine rb_t (b := (w.heap.size + 1)) ?_; repeat (first | with_reducible assumption | with_reducible refine rb_dr _ ?_ | with_reducible refine rb_d1 ?_ | with_reducible refine rb_al _ ?_ | (with_reducible refine rb_bn (by with_reducible assumption) ?_ ?_; focus (first | omega | (simp; done) | (simp; omega))) | (with_reducible refine rb_out ?_ (by with_reducible assumption) ?_; focus omega)))); rintro e ws ⟨rfl, ns, rfl⟩))
              go_roundw
              case rel =>
                refine ⟨k + 1, M2, by omega, by omega, by go_num, ?_, HM2, ?_, ?_⟩
                · repeat (first | with_reducible assumption | with_reducible refine tm_dr _ ?_ | with_reducible refine tm_d1 ?_ | with_reducible refine tm_al _ ?_ | (with_reducible refine tm_set ?_ ?_; focus (dsimp only; omega)) | (with_reducible apply tm_be; with_reducible assumption) | (with_reducible refine tm_bn (by with_reducible assumption) ?_ ?_; focus omega) | (with_reducible refine tm_out (by with_reducible assumption) ?_ ?_; focus omega))
                · rw [HLL.out]
                  repeat (first | with_reducible assumption | with_reducible refine rb_dr _ ?_ | with_reducible refine rb_d1 ?_ | with_reducible refine rb_al _ ?_ | (with_reducible refine rb_bn (by with_reducible assumption) ?_ ?_; focus (first | omega | (simp; done) | (simp; omega))) | (with_reducible refine rb_out ?_ (by with_reducible assumption) ?_; focus omega))
                · repeat (first | with_reducible assumption | with_reducible exact Below.refl _ _ | with_reducible refine Below.drew ?_ | with_reducible refine below_drewN ?_ _ | with_reducible refine bw_alloc ?_ _ | (with_reducible refine bw_set ?_ ?_ _; focus (dsimp only; omega)) | (with_reducible apply bw_behind; with_reducible assumption) | (with_reducible refine below_behindN (by with_reducible assumption) ?_ ?_; focus omega) | (with_reducible refine below_out (by with_reducible assumption) ?_ ?_; focus omega))
              case measure => simp [intOf]; omega
            · have e3 : (DK == 3) = false := by simpa using k3
              by_cases k4 : DK = 4
              · subst k4
                have CC := hide (fun W hh => clear_any w.heap.size M W hh)
                go_upto_region 28 with (first | (go_at_call 15; (with_reducible refine (CC.out _ ?_).mono ?_); (focus (repeat (first | with_reducible assumption | with_reducible refine tm_dr _ ?_ | with_reducible refine tm_d1 ?_ | with_reducible refine tm_al _ ?_ | (with_reducible refine tm_set ?_ ?_; focus (dsimp only; omega)) | (with_reducible apply tm_be; with_reducible assumption) | (with_reducible refine tm_bn (by with_reducible assumption) ?_ ?_; focus omega) | (with_reducible refine tm_out (by with_reducible assumption) ?_ ?_; focus omega)))); rintro e wp0 ⟨rfl, hTp0, hUp0⟩; have hzp0 := hUp0.size; (try simp only [size_al] at hzp0); have hrp0 := out_reads hUp0; obtain ⟨mp0, hsp0⟩ := out_grew hUp0))
                have HM2 : Hid (InvL (clearM M)) := hide (invl_filter _ HM.out)
                have hR9 : ∀ W, RefB W (w.heap.size + 1) (.slice none 0 0) (upF (clearM M) 4) := fun W => by
                  rw [ref_clear]
                  exact rb_nil _ _
                refine wp_abs (fun W => TlbM W w.heap.size (clearM M) ∧ RefB W (w.heap.size + 1) (.slice none 0 0) (upF (clearM M) 4) ∧ Below w.heap.size w W ∧ w.heap.size < W.heap.size) ?_ ?_
                · have hz := hB.size
                  refine ⟨?_, ?_, ?_, ?_⟩
                  · repeat (first | with_reducible assumption | with_reducible refine tm_dr _ ?_ | with_reducible refine tm_d1 ?_ | with_reducible refine tm_al _ ?_ | (with_reducible refine tm_set ?_ ?_; focus (dsimp only; omega)) | (with_reducible apply tm_be; with_reducible assumption) | (with_reducible refine tm_bn (by with_reducible assumption) ?_ ?_; focus omega) | (with_reducible refine tm_out (by with_reducible assumption) ?_ ?_; focus omega))
                  · exact hR9 _
                  · repeat (first | with_reducible assumption | with_reducible exact Below.refl _ _ | with_reducible refine Below.drew ?_ | with_reducible refine below_drewN ?_ _ | with_reducible refine bw_alloc ?_ _ | (with_reducible refine bw_set ?_ ?_ _; focus (dsimp only; omega)) | (with_reducible apply bw_behind; with_reducible assumption) | (with_reducible refine below_behindN (by with_reducible assumption) ?_ ?_; focus omega) | (with_reducible refine below_out (by with_reducible assumption) ?_ ?_; focus omega))
                  · first | omega | (simp only [size_al] at *; omega)
                rintro w1 ⟨hT1, hR1, hB1, hs1⟩
                obtain ⟨M2, hM2⟩ : ∃ M2, (clearM M) = M2 := ⟨_, rfl⟩
                rw [hM2] at hT1 hR1 HM2
                have hm8 := upF_length M2 4 (fun r hr => HM2.out.inv.len r hr)
                have CGx := fun W h => CGA.out M2 W h
                obtain ⟨L, hL⟩ : ∃ L, upF M2 4 = L := ⟨_, rfl⟩
                have HLL := hide hL
                rw [hL] at CGx hm8 hR1
                obtain ⟨m, hm⟩ : ∃ m, L.length = m := ⟨_, rfl⟩
                rw [hm] at CGx hm8
                have CG := hide CGx
                have CS := hide (fun (A : Nat) (W : World) hA hR => same_any A m (.slice none 0 0) L hm (by omega) W hA hR)
                clear CGx hm hL hM2 hT hR hB
                go_wp2_with (first | (go_at_call 19; (with_reducible refine (CG.out _ ?_).mono ?_); (focus (repeat (first | with_reducible assumption | with_reducible refine tm_dr _ ?_ | with_reducible refine tm_d1 ?_ | with_reducible refine tm_al _ ?_ | (with_reducible refine tm_set ?_ ?_; focus (dsimp only; omega)) | (with_reducible apply tm_be; with_reducible assumption) | (with_reducible refine tm_bn (by with_reducible assumption) ?_ ?_; focus omega) | (with_reducible refine tm_out (by with_reducible assumption) ?_ ?_; focus omega)))); rintro e wg ⟨A, rfl, hrA, hA, hbg⟩; have hzg := hbg.size; try simp only [size_al] at hzg hA) | (go_at_call 18; (with_reducible refine (CS.out _ _ ?_ ?_).mono ?_); (focus (with_reducible assumption)); (focus (refine rb_t (b := (w.heap.size + 1)) ?_; repeat (first | with_reducible assumption | with_reducible refine rb_dr _ ?_ | with_reducible refine rb_d1 ?_ | with_reducible refine rb_al _ ?_ | (with_reducible refine rb_bn (by with_reducible assumption) ?_ ?_; focus (first | omega | (simp; done) | (simp; omega))) | (with_reducible refine rb_out ?_ (by with_reducible assumption) ?_; focus omega)))); rintro e ws ⟨rfl, ns, rfl⟩))
                go_roundw
                case rel =>
                  refine ⟨k + 1, M2, by omega, by omega, by go_num, ?_, HM2, ?_, ?_⟩
                  · repeat (first | with_reducible assumption | with_reducible refine tm_dr _ ?_ | with_reducible refine tm_d1 ?_ | with_reducible refine tm_al _ ?_ | (with_reducible refine tm_set ?_ ?_; focus (dsimp only; omega)) | (with_reducible apply tm_be; with_reducible assumption) | (with_reducible refine tm_bn (by with_reducible assumption) ?_ ?_; focus omega) | (with_reducible refine tm_out (by with_reducible assumption) ?_ ?_; focus omega))
                  · rw [HLL.out]
                    repeat (first | with_reducible assumption | with_reducible refine rb_dr _ ?_ | with_reducible refine rb_d1 ?_ | with_reducible refine rb_al _ ?_ | (with_reducible refine rb_bn (by with_reducible assumption) ?_ ?_; focus (first | omega | (simp; done) | (simp; omega))) | (with_reducible refine rb_out ?_ (by with_reducible assumption) ?_; focus omega))
                  · repeat (first | with_reducible assumption | with_reducible exact Below.refl _ _ | with_reducible refine Below.drew ?_ | with_reducible refine below_drewN ?_ _ | with_reducible refine bw_alloc ?_ _ | (with_reducible refine bw_set ?_ ?_ _; focus (dsimp only; omega)) | (with_reducible apply bw_behind; with_reducible assumption) | (with_reducible refine below_behindN (by with_reducible assumption) ?_ ?_; focus omega) | (with_reducible refine below_out (by with_reducible assumption) ?_ ?_; focus omega))
                case measure => simp [intOf]; omega
              · have e4 : (DK == 4) = false := by simpa using k4
                by_cases k5 : DK = 5
                · subst k5
                  have CE := hide (fun W hh => CEA.out M DP W hh)
                  have HM2 : Hid (InvL (evictM M DP)) := hide (invl_evict _ HM.out)
                  by_cases h0 : upF M 4 = []
                  · have CR := hide (fun (W : World) (hh : RefT W u4 (upF M 4)) => revict_none u4 DP W (by rw [h0] at hh; exact hh))
                    have H0 := hide h0
                    clear h0
                    go_upto_region 28 with (first | (go_at_call 16; (with_reducible refine (CE.out _ ?_).mono ?_); (focus (repeat (first | with_reducible assumption | with_reducible refine tm_dr _ ?_ | with_reducible refine tm_d1 ?_ | with_reducible refine tm_al _ ?_ | (with_reducible refine tm_set ?_ ?_; focus (dsimp only; omega)) | (with_reducible apply tm_be; with_reducible assumption) | (with_reducible refine tm_bn (by with_reducible assumption) ?_ ?_; focus omega) | (with_reducible refine tm_out (by with_reducible assumption) ?_ ?_; focus omega)))); rintro e wp0 ⟨rfl, hTp0, hUp0⟩; have hzp0 := hUp0.size; (try simp only [size_al] at hzp0); have hrp0 := out_reads hUp0; obtain ⟨mp0, hsp0⟩ := out_grew hUp0) | (go_at_call 17; (with_reducible refine (CR.out _ ?_).mono ?_); (focus (refine rb_t (b := (w.heap.size + 1)) ?_; repeat (first | with_reducible assumption | with_reducible refine rb_dr _ ?_ | with_reducible refine rb_d1 ?_ | with_reducible refine rb_al _ ?_ | (with_reducible refine rb_bn (by with_reducible assumption) ?_ ?_; focus (first | omega | (simp; done) | (simp; omega))) | (with_reducible refine rb_out ?_ (by with_reducible assumption) ?_; focus omega)))); rintro e wq ⟨rfl, hbq⟩; have hzq := hbq.size; (try simp only [size_al] at hzq)))
                    have hR9 : RefB wr (w.heap.size + 1) u4 (upF (evictM M DP) 4) := by
                      rw [ref_evict0 M DP H0.out, ← H0.out]
                      exact hR
                    refine wp_abs (fun W => TlbM W w.heap.size (evictM M DP) ∧ RefB W (w.heap.size + 1) (u4) (upF (evictM M DP) 4) ∧ Below w.heap.size w W ∧ w.heap.size < W.heap.size) ?_ ?_
                    · have hz := hB.size
                      refine ⟨?_, ?_, ?_, ?_⟩
                      · repeat (first | with_reducible assumption | with_reducible refine tm_dr _ ?_ | with_reducible refine tm_d1 ?_ | with_reducible refine tm_al _ ?_ | (with_reducible refine tm_set ?_ ?_; focus (dsimp only; omega)) | (with_reducible apply tm_be; with_reducible assumption) | (with_reducible refine tm_bn (by with_reducible assumption) ?_ ?_; focus omega) | (with_reducible refine tm_out (by with_reducible assumption) ?_ ?_; focus omega))
                      · repeat (first | with_reducible assumption | with_reducible refine rb_dr _ ?_ | with_reducible refine rb_d1 ?_ | with_reducible refine rb_al _ ?_ | (with_reducible refine rb_bn (by with_reducible assumption) ?_ ?_; focus (first | omega | (simp; done) | (simp; omega))) | (with_reducible refine rb_out ?_ (by with_reducible assumption) ?_; focus omega))
                      · repeat (first | with_reducible assumption | with_reducible exact Below.refl _ _ | with_reducible refine Below.drew ?_ | with_reducible refine below_drewN ?_ _ | with_reducible refine bw_alloc ?_ _ | (with_reducible refine bw_set ?_ ?_ _; focus (dsimp only; omega)) | (with_reducible apply bw_behind; with_reducible assumption) | (with_reducible refine below_behindN (by with_reducible assumption) ?_ ?_; focus omega) | (with_reducible refine below_out (by with_reducible assumption) ?_ ?_; focus omega))
                      · first | omega | (simp only [size_al] at *; omega)
                    rintro w1 ⟨hT1, hR1, hB1, hs1⟩
                    obtain ⟨M2, hM2⟩ : ∃ M2, (evictM M DP) = M2 := ⟨_, rfl⟩
                    rw [hM2] at hT1 hR1 HM2
                    have hm8 := upF_length M2 4 (fun r hr => HM2.out.inv.len r hr)
                    have CGx := fun W h => CGA.out M2 W h
                    obtain ⟨L, hL⟩ : ∃ L, upF M2 4 = L := ⟨_, rfl⟩
                    have HLL := hide hL
                    rw [hL] at CGx hm8 hR1
                    obtain ⟨m, hm⟩ : ∃ m, L.length = m := ⟨_, rfl⟩
                    rw [hm] at CGx hm8
                    have CG := hide CGx
                    have CS := hide (fun (A : Nat) (W : World) hA hR => same_any A m (u4) L hm (by omega) W hA hR)
                    clear CGx hm hL hM2 hT hR hB
                    go_wp2_with (first | (go_at_call 19; (with_reducible refine (CG.out _ ?_).mono ?_); (focus (repeat (first | with_reducible assumption | with_reducible refine tm_dr _ ?_ | with_reducible refine tm_d1 ?_ | with_reducible refine tm_al _ ?_ | (with_reducible refine tm_set ?_ ?_; focus (dsimp only; omega)) | (with_reducible apply tm_be; with_reducible assumption) | (with_reducible refine tm_bn (by with_reducible assumption) ?_ ?_; focus omega) | (with_reducible refine tm_out (by with_reducible assumption) ?_ ?_; focus omega)))); rintro e wg ⟨A, rfl, hrA, hA, hbg⟩; have hzg := hbg.size; try simp only [size_al] at hzg hA) | (go_at_call 18; (with_reducible refine (CS.out _ _ ?_ ?_).mono ?_); (focus (with_reducible assumption)); (focus (refine rb_t (b := (w.heap.size + 1)) ?_; repeat (first | with_reducible assumption | with_reducible refine rb_dr _ ?_ | with_reducible refine rb_d1 ?_ | with_reducible refine rb_al _ ?_ | (with_reducible refine rb_bn (by with_reducible assumption) ?_ ?_; focus (first | omega | (simp; done) | (simp; omega))) | (with_reducible refine rb_out ?_ (by with_reducible assumption) ?_; focus omega)))); rintro e ws ⟨rfl, ns, rfl⟩))
                    go_roundw
                    case rel =>
                      refine ⟨k + 1, M2, by omega, by omega, by go_num, ?_, HM2, ?_, ?_⟩
                      · repeat (first | with_reducible assumption | with_reducible refine tm_dr _ ?_ | with_reducible refine tm_d1 ?_ | with_reducible refine tm_al _ ?_ | (with_reducible refine tm_set ?_ ?_; focus (dsimp only; omega)) | (with_reducible apply tm_be; with_reducible assumption) | (with_reducible refine tm_bn (by with_reducible assumption) ?_ ?_; focus omega) | (with_reducible refine tm_out (by with_reducible assumption) ?_ ?_; focus omega))
                      · rw [HLL.out]
                        repeat (first | with_reducible assumption | with_reducible refine rb_dr _ ?_ | with_reducible refine rb_d1 ?_ | with_reducible refine rb_al _ ?_ | (with_reducible refine rb_bn (by with_reducible assumption) ?_ ?_; focus (first | omega | (simp; done) | (simp; omega))) | (with_reducible refine rb_out ?_ (by with_reducible assumption) ?_; focus omega))
                      · repeat (first | with_reducible assumption | with_reducible exact Below.refl _ _ | with_reducible refine Below.drew ?_ | with_reducible refine below_drewN ?_ _ | with_reducible refine bw_alloc ?_ _ | (with_reducible refine bw_set ?_ ?_ _; focus (dsimp only; omega)) | (with_reducible apply bw_behind; with_reducible assumption) | (with_reducible refine below_behindN (by with_reducible assumption) ?_ ?_; focus omega) | (with_reducible refine below_out (by with_reducible assumption) ?_ ?_; focus omega))
                    case measure => simp [intOf]; omega
                  · have hpos : 0 < (upF M 4).length := List.length_pos_iff.2 h0
                    obtain ⟨kk, hkk⟩ : ∃ kk : Nat, DP % ((upF M 4).length : Int) = (kk : Int) := ⟨(DP % ((upF M 4).length : Int)).toNat, by have := Int.emod_nonneg DP (show ((upF M 4).length : Int) ≠ 0 by omega); omega⟩
                    have CR := hide (fun W hh => revict_any u4 DP kk (upF M 4) (by omega) hpos hkk W hh)
                    have HK := hide hkk
                    have HP := hide hpos
                    clear h0 hkk hpos
                    go_upto_region 28 with (first | (go_at_call 16; (with_reducible refine (CE.out _ ?_).mono ?_); (focus (repeat (first | with_reducible assumption | with_reducible refine tm_dr _ ?_ | with_reducible refine tm_d1 ?_ | with_reducible refine tm_al _ ?_ | (with_reducible refine tm_set ?_ ?_; focus (dsimp only; omega)) | (with_reducible apply tm_be; with_reducible assumption) | (with_reducible refine tm_bn (by with_reducible assumption) ?_ ?_; focus omega) | (with_reducible refine tm_out (by with_reducible assumption) ?_ ?_; focus omega)))); rintro e wp0 ⟨rfl, hTp0, hUp0⟩; have hzp0 := hUp0.size; (try simp only [size_al] at hzp0); have hrp0 := out_reads hUp0; obtain ⟨mp0, hsp0⟩ := out_grew hUp0) | (go_at_call 17; (with_reducible refine (CR.out _ ?_).mono ?_); (focus (refine rb_t (b := (w.heap.size + 1)) ?_; repeat (first | with_reducible assumption | with_reducible refine rb_dr _ ?_ | with_reducible refine rb_d1 ?_ | with_reducible refine rb_al _ ?_ | (with_reducible refine rb_bn (by with_reducible assumption) ?_ ?_; focus (first | omega | (simp; done) | (simp; omega))) | (with_reducible refine rb_out ?_ (by with_reducible assumption) ?_; focus omega)))); rintro e wq ⟨u, rfl, hRq, hbq⟩; have hzq := hbq.size; (try simp only [size_al] at hzq)))
                    have hR9 : RefB wq (w.heap.size + 1) u (upF (evictM M DP) 4) := by
                      rw [← ref_evict HM.out DP kk HP.out HK.out]
                      exact rb_less (by omega) hRq
                    clear hRq
                    refine wp_abs (fun W => TlbM W w.heap.size (evictM M DP) ∧ RefB W (w.heap.size + 1) (u) (upF (evictM M DP) 4) ∧ Below w.heap.size w W ∧ w.heap.size < W.heap.size) ?_ ?_
                    · have hz := hB.size
                      refine ⟨?_, ?_, ?_, ?_⟩
                      · repeat (first | with_reducible assumption | with_reducible refine tm_dr _ ?_ | with_reducible refine tm_d1 ?_ | with_reducible refine tm_al _ ?_ | (with_reducible refine tm_set ?_ ?_; focus (dsimp only; omega)) | (with_reducible apply tm_be; with_reducible assumption) | (with_reducible refine tm_bn (by with_reducible assumption) ?_ ?_; focus omega) | (with_reducible refine tm_out (by with_reducible assumption) ?_ ?_; focus omega))
                      · repeat (first | with_reducible assumption | with_reducible refine rb_dr _ ?_ | with_reducible refine rb_d1 ?_ | with_reducible refine rb_al _ ?_ | (with_reducible refine rb_bn (by with_reducible assumption) ?_ ?_; focus (first | omega | (simp; done) | (simp; omega))) | (with_reducible refine rb_out ?_ (by with_reducible assumption) ?_; focus omega))
                      · repeat (first | with_reducible assumption | with_reducible exact Below.refl _ _ | with_reducible refine Below.drew ?_ | with_reducible refine below_drewN ?_ _ | with_reducible refine bw_alloc ?_ _ | (with_reducible refine bw_set ?_ ?_ _; focus (dsimp only; omega)) | (with_reducible apply bw_behind; with_reducible assumption) | (with_reducible refine below_behindN (by with_reducible assumption) ?_ ?_; focus omega) | (with_reducible refine below_out (by with_reducible assumption) ?_ ?_; focus omega))
                      · first | omega | (simp only [size_al] at *; omega)
                    rintro w1 ⟨hT1, hR1, hB1, hs1⟩
                    obtain ⟨M2, hM2⟩ : ∃ M2, (evictM M DP) = M2 := ⟨_, rfl⟩
                    rw [hM2] at hT1 hR1 HM2
                    have hm8 := upF_length M2 4 (fun r hr => HM2.out.inv.len r hr)
                    have CGx := fun W h => CGA.out M2 W h
                    obtain ⟨L, hL⟩ : ∃ L, upF M2 4 = L := ⟨_, rfl⟩
                    have HLL := hide hL
                    rw [hL] at CGx hm8 hR1
                    obtain ⟨m, hm⟩ : ∃ m, L.length = m := ⟨_, rfl⟩
                    rw [hm] at CGx hm8
                    have CG := hide CGx
                    have CS := hide (fun (A : Nat) (W : World) hA hR => same_any A m (u) L hm (by omega) W hA hR)
                    clear CGx hm hL hM2 hT hR hB
                    go_wp2_with (first | (go_at_call 19; (with_reducible refine (CG.out _ ?_).mono ?_); (focus (repeat (first | with_reducible assumption | with_reducible refine tm_dr _ ?_ | with_reducible refine tm_d1 ?_ | with_reducible refine tm_al _ ?_ | (with_reducible refine tm_set ?_ ?_; focus (dsimp only; omega)) | (with_reducible apply tm_be; with_reducible assumption) | (with_reducible refine tm_bn (by with_reducible assumption) ?_ ?_; focus omega) | (with_reducible refine tm_out (by with_reducible assumption) ?_ ?_; focus omega)))); rintro e wg ⟨A, rfl, hrA, hA, hbg⟩; have hzg := hbg.size; try simp only [size_al] at hzg hA) | (go_at_call 18; (with_reducible refine (CS.out _ _ ?_ ?_).mono ?_); (focus (with_reducible assumption)); (focus (refine rb_t (b := (w.heap.size + 1)) ?_; repeat (first | with_reducible assumption | with_reducible refine rb_dr _ ?_ | with_reducible refine rb_d1 ?_ | with_reducible refine rb_al _ ?_ | (with_reducible refine rb_bn (by with_reducible assumption) ?_ ?_; focus (first | omega | (simp; done) | (simp; omega))) | (with_reducible refine rb_out ?_ (by with_reducible assumption) ?_; focus omega)))); rintro e ws ⟨rfl, ns, rfl⟩))
                    go_roundw
                    case rel =>
                      refine ⟨k + 1, M2, by omega, by omega, by go_num, ?_, HM2, ?_, ?_⟩
                      · repeat (first | with_reducible assumption | with_reducible refine tm_dr _ ?_ | with_reducible refine tm_d1 ?_ | with_reducible refine tm_al _ ?_ | (with_reducible refine tm_set ?_ ?_; focus (dsimp only; omega)) | (with_reducible apply tm_be; with_reducible assumption) | (with_reducible refine tm_bn (by with_reducible assumption) ?_ ?_; focus omega) | (with_reducible refine tm_out (by with_reducible assumption) ?_ ?_; focus omega))
                      · rw [HLL.out]
                        repeat (first | with_reducible assumption | with_reducible refine rb_dr _ ?_ | with_reducible refine rb_d1 ?_ | with_reducible refine rb_al _ ?_ | (with_reducible refine rb_bn (by with_reducible assumption) ?_ ?_; focus (first | omega | (simp; done) | (simp; omega))) | (with_reducible refine rb_out ?_ (by with_reducible assumption) ?_; focus omega))
                      · repeat (first | with_reducible assumption | with_reducible exact Below.refl _ _ | with_reducible refine Below.drew ?_ | with_reducible refine below_drewN ?_ _ | with_reducible refine bw_alloc ?_ _ | (with_reducible refine bw_set ?_ ?_ _; focus (dsimp only; omega)) | (with_reducible apply bw_behind; with_reducible assumption) | (with_reducible refine below_behindN (by with_reducible assumption) ?_ ?_; focus omega) | (with_reducible refine below_out (by with_reducible assumption) ?_ ?_; focus omega))
                    case measure => simp [intOf]; omega
                · have e5 : (DK == 5) = false := by simpa using k5
                  go_upto_region 28 with (first | fail)
                  have HM2 := HM
                  refine wp_abs (fun W => TlbM W w.heap.size (M) ∧ RefB W (w.heap.size + 1) (u4) (upF (M) 4) ∧ Below w.heap.size w W ∧ w.heap.size < W.heap.size) ?_ ?_
                  · have hz := hB.size
                    refine ⟨?_, ?_, ?_, ?_⟩
                    · repeat (first | with_reducible assumption | with_reducible refine tm_dr _ ?_ | with_reducible refine tm_d1 ?_ | with_reducible refine tm_al _ ?_ | (with_reducible refine tm_set ?_ ?_; focus (dsimp only; omega)) | (with_reducible apply tm_be; with_reducible assumption) | (with_reducible refine tm_bn (by with_reducible assumption) ?_ ?_; focus omega) | (with_reducible refine tm_out (by with_reducible assumption) ?_ ?_; focus omega))
                    · repeat (first | with_reducible assumption | with_reducible refine rb_dr _ ?_ | with_reducible refine rb_d1 ?_ | with_reducible refine rb_al _ ?_ | (with_reducible refine rb_bn (by with_reducible assumption) ?_ ?_; focus (first | omega | (simp; done) | (simp; omega))) | (with_reducible refine rb_out ?_ (by with_reducible assumption) ?_; focus omega))
                    · repeat (first | with_reducible assumption | with_reducible exact Below.refl _ _ | with_reducible refine Below.drew ?_ | with_reducible refine below_drewN ?_ _ | with_reducible refine bw_alloc ?_ _ | (with_reducible refine bw_set ?_ ?_ _; focus (dsimp only; omega)) | (with_reducible apply bw_behind; with_reducible assumption) | (with_reducible refine below_behindN (by with_reducible assumption) ?_ ?_; focus omega) | (with_reducible refine below_out (by with_reducible assumption) ?_ ?_; focus omega))
                    · first | omega | (simp only [size_al] at *; omega)
                  rintro w1 ⟨hT1, hR1, hB1, hs1⟩
                  obtain ⟨M2, hM2⟩ : ∃ M2, (M) = M2 := ⟨_, rfl⟩
                  rw [hM2] at hT1 hR1 HM2
                  have hm8 := upF_length M2 4 (fun r hr => HM2.out.inv.len r hr)
                  have CGx := fun W h => CGA.out M2 W h
                  obtain ⟨L, hL⟩ : ∃ L, upF M2 4 = L := ⟨_, rfl⟩
                  have HLL := hide hL
                  rw [hL] at CGx hm8 hR1
                  obtain ⟨m, hm⟩ : ∃ m, L.length = m := ⟨_, rfl⟩
                  rw [hm] at CGx hm8
                  have CG := hide CGx
                  have CS := hide (fun (A : Nat) (W : World) hA hR => same_any A m (u4) L hm (by omega) W hA hR)
                  clear CGx hm hL hM2 hT hR hB
                  go_wp2_with (first | (go_at_call 19; (with_reducible refine (CG.out _ ?_).mono ?_); (focus (repeat (first | with_reducible assumption | with_reducible refine tm_dr _ ?_ | with_reducible refine tm_d1 ?_ | with_reducible refine tm_al _ ?_ | (with_reducible refine tm_set ?_ ?_; focus (dsimp only; omega)) | (with_reducible apply tm_be; with_reducible assumption) | (with_reducible refine tm_bn (by with_reducible assumption) ?_ ?_; focus omega) | (with_reducible refine tm_out (by with_reducible assumption) ?_ ?_; focus omega)))); rintro e wg ⟨A, rfl, hrA, hA, hbg⟩; have hzg := hbg.size; try simp only [size_al] at hzg hA) | (go_at_call 18; (with_reducible refine (CS.out _ _ ?_ ?_).mono ?_); (focus (with_reducible assumption)); (focus (refine rb_t (b := (w.heap.size + 1)) ?_; repeat (first | with_reducible assumption | with_reducible refine rb_dr _ ?_ | with_reducible refine rb_d1 ?_ | with_reducible refine rb_al _ ?_ | (with_reducible refine rb_bn (by with_reducible assumption) ?_ ?_; focus (first | omega | (simp; done) | (simp; omega))) | (with_reducible refine rb_out ?_ (by with_reducible assumption) ?_; focus omega)))); rintro e ws ⟨rfl, ns, rfl⟩))
                  go_roundw
                  case rel =>
                    refine ⟨k + 1, M2, by omega, by omega, by go_num, ?_, HM2, ?_, ?_⟩
                    · repeat (first | with_reducible assumption | with_reducible refine tm_dr _ ?_ | with_reducible refine tm_d1 ?_ | with_reducible refine tm_al _ ?_ | (with_reducible refine tm_set ?_ ?_; focus (dsimp only; omega)) | (with_reducible apply tm_be; with_reducible assumption) | (with_reducible refine tm_bn (by with_reducible assumption) ?_ ?_; focus omega) | (with_reducible refine tm_out (by with_reducible assumption) ?_ ?_; focus omega))
                    · rw [HLL.out]
                      repeat (first | with_reducible assumption | with_reducible refine rb_dr _ ?_ | with_reducible refine rb_d1 ?_ | with_reducible refine rb_al _ ?_ | (with_reducible refine rb_bn (by with_reducible assumption) ?_ ?_; focus (first | omega | (simp; done) | (simp; omega))) | (with_reducible refine rb_out ?_ (by with_reducible assumption) ?_; focus omega))
                    · repeat (first | with_reducible assumption | with_reducible exact Below.refl _ _ | with_reducible refine Below.drew ?_ | with_reducible refine below_drewN ?_ _ | with_reducible refine bw_alloc ?_ _ | (with_reducible refine bw_set ?_ ?_ _; focus (dsimp only; omega)) | (with_reducible apply bw_behind; with_reducible assumption) | (with_reducible refine below_behindN (by with_reducible assumption) ?_ ?_; focus omega) | (with_reducible refine below_out (by with_reducible assumption) ?_ ?_; focus omega))
                  case measure => simp [intOf]; omega
    · rcases Nat.lt_or_ge k l.length with h9 | h9
      · have g1 : (k : Int) < (l.length : Int) := by omega
        have g2 : ¬ ((k : Int) < 100) := by omega
        clear CL CPA CGA CKA CDA CFA CEA HCL
        go_wp2_with (go_at_call 20; (with_reducible refine (CO.out _).mono ?_); rintro e wo ⟨rfl, hbo⟩; have hzo := hbo.size)
        go_ret
        refine ⟨rfl, ?_⟩
        repeat (first | with_reducible assumption | with_reducible exact Below.refl _ _ | with_reducible refine Below.drew ?_ | with_reducible refine below_drewN ?_ _ | with_reducible refine bw_alloc ?_ _ | (with_reducible refine bw_set ?_ ?_ _; focus (dsimp only; omega)) | (with_reducible apply bw_behind; with_reducible assumption) | (with_reducible refine below_behindN (by with_reducible assumption) ?_ ?_; focus omega) | (with_reducible refine below_out (by with_reducible assumption) ?_ ?_; focus omega))
      · have g1 : ¬ ((k : Int) < (l.length : Int)) := by omega
        clear CL CPA CGA CKA CDA CFA CEA HCL
        go_wp2_with (go_at_call 20; (with_reducible refine (CO.out _).mono ?_); rintro e wo ⟨rfl, hbo⟩; have hzo := hbo.size)
        go_ret
        refine ⟨rfl, ?_⟩
        repeat (first | with_reducible assumption | with_reducible exact Below.refl _ _ | with_reducible refine Below.drew ?_ | with_reducible refine below_drewN ?_ _ | with_reducible refine bw_alloc ?_ _ | (with_reducible refine bw_set ?_ ?_ _; focus (dsimp only; omega)) | (with_reducible apply bw_behind; with_reducible assumption) | (with_reducible refine below_behindN (by with_reducible assumption) ?_ ?_; focus omega) | (with_reducible refine below_out (by with_reducible assumption) ?_ ?_; focus omega))

open Go.ChangeShapes Go.WideShapes Go.ChangeAt
theorem walks : Frame.Walks 3 Try.f3 := by
  intro H enc W base args ds ps hval hA
  rw [Try.params3] at hA hval
  obtain ⟨v0, d0, hargs, rfl, h0⟩ := trodAll_one hA
  obtain rfl : args = #[v0] := by cases args; simp_all
  obtain ⟨l, e0⟩ := open_acts (hval 0 22 v0 rfl rfl) h0
  exact walk v0 l W e0
set_option maxRecDepth 100000 in
theorem proved : Rows.TlbPlaysSaid :=
  OpenClaim.holds_of_wide 3 Try.f3 rfl rfl rfl rfl rfl rfl rfl ⟨rfl, rfl, rfl, rfl, rfl⟩ rfl rfl rfl rfl rfl (by kernel_rfl) Try.func3 (by kernel_rfl)
    (of_decide_eq_true (by kernel_rfl)) (by unfold Func.isWrapper; first | (rw [if_pos (by decide +kernel)]; kernel_rfl) | (rw [if_neg (by decide +kernel)]; exact ⟨rfl, rfl⟩))
    (fun os started H enc _ => Frame.lift os started H enc _ _ Rows.tlbPlaysSpec 4 (by kernel_rfl) Try.func3 Try.underlying4 (by kernel_rfl) rfl (by kernel_rfl)
      (fun ds h => by match ds, h with | [_], _ => exact ⟨rfl, rfl, rfl⟩)
      (ChangeSpec.witness6 (enc := enc) (C := Try.checked) false ⟨#[], #[.slice none 0 0], []⟩ 8 (by kernel_rfl) (by kernel_rfl) (by kernel_rfl) (by kernel_rfl)) walks)
end Go.Proofs.Ytikdoknfcikfgaa.TlbPlays
