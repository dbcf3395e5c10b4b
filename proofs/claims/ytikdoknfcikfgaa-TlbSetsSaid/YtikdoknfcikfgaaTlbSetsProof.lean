/-
  TlbSets holds: for every l and number the law returns true, and turns nothing that was there.
-/
import Derived.Test.YtikdoknfcikfgaaTlbMath
import Derived.Test.YtikdoknfcikfgaaTlbArg
import Derived.Test.YtikdoknfcikfgaaTlb9
import Derived.Test.YtikdoknfcikfgaaLawFrame
import Derived.Deep.DeepCutAuto
import Derived.Deep.CutBlock
import Derived.BigQuiet
namespace Go.Proofs.Ytikdoknfcikfgaa.TlbSets
open Go.RowKit

set_option maxRecDepth 100000 in
set_option maxHeartbeats 16000000 in
theorem walk (num : BitVec 64) (v : Value) (l : List ActD) (w : World) (hl : IsActs w l v) : Calls Try.prog 5 #[v, .int .u64 (num.toNat : Int)] w (Makes (.bool true) w) := by
  have SS := cell_same
  have LB' := ltB_add
  have LS := ltB_self
  have LA' := alloc_reads
  have LH := alloc_holds
  obtain ⟨Z, hz, hZ⟩ := zero_tlb
  obtain ⟨s, cap, rfl, hcell⟩ := acts_form hl
  obtain ⟨q, hq⟩ : ∃ q : Nat, (num.toNat : Int) % 4 = (q : Int) := ⟨num.toNat % 4, by omega⟩
  have hn0 : (0 : Int) ≤ (num.toNat : Int) := by omega
  have hq4 : q < 4 := by omega
  have CL := hide line_any
  have CP0 := hide (fun W h => put_any w.heap.size q 77 (num.toNat : Int) 0 (fun _ => []) hq hn0 W h)
  have CO := hide one_any
  have CPA := hide (fun (M : Nat → List Ln) (r : Nat) (a n x : Int) (h1 : n % 4 = (r : Int)) (h2 : 0 ≤ n) W h => put_any w.heap.size r a n x M h1 h2 W h)
  have CGA := hide (fun (M : Nat → List Ln) W h => lines_any w.heap.size M W h)
  have CKA := hide (fun (M : Nat → List Ln) W h => look_any w.heap.size M 77 (num.toNat : Int) q hq hn0 W h)
  have HI0 : Inv (putM (fun _ => []) q (77, (num.toNat : Int), 0)) := inv_put inv_nil hq hn0
  have HQ0 : putM (fun _ => []) q (77, (num.toNat : Int), 0) q = [(77, (num.toNat : Int), 0)] := by rw [putM_at]; rfl
  have e1 : (num.toNat : Int).tmod 4 = (q : Int) := by rw [Int.tmod_eq_emod_of_nonneg hn0]; exact hq
  have e2 : IntKind.u64.wrap (q : Int) = (q : Int) := by rw [IntKind.wrap_u64]; omega
  have HQ := hide hq
  have HCL := hide hcell
  have HZ := hide hZ
  clear hq hcell hl hZ
  generalize (num.toNat : Int) = num' at *
  go_enter Try.func5, Try.ntmps5
  go_wp2_with (first | (go_at_call 6; (with_reducible refine (CP0.out _ ?_).mono ?_); (focus (have h0 := HZ.out w 34; repeat (first | with_reducible assumption | with_reducible refine tm_dr _ ?_ | with_reducible refine tm_d1 ?_ | with_reducible refine tm_al _ ?_ | (with_reducible refine tm_set ?_ ?_; focus (dsimp only; omega)) | (with_reducible apply tm_be; with_reducible assumption) | (with_reducible refine tm_bn (by with_reducible assumption) ?_ ?_; focus omega) | (with_reducible refine tm_out (by with_reducible assumption) ?_ ?_; focus omega)))); rintro e wp ⟨rfl, hTp, hUp⟩; have hzp := hUp.size; try simp only [size_al] at hzp))
  go_loopw [6] (fun i wr => ∃ (k : Nat) (M : Nat → List Ln), k ≤ l.length ∧ k ≤ 60 ∧ i = .int .i64 (k : Int) ∧ TlbM wr w.heap.size M ∧ Hid (Inv M ∧ M q = [(77, num', 0)]) ∧ Below w.heap.size w wr) (fun i _ => 60 - (intOf i).toNat)
  case atStart =>
    refine ⟨0, _, by omega, by omega, rfl, hTp, hide ⟨HI0, HQ0⟩, ?_⟩
    repeat (first | with_reducible assumption | with_reducible exact Below.refl _ _ | with_reducible refine Below.drew ?_ | with_reducible refine below_drewN ?_ _ | with_reducible refine bw_alloc ?_ _ | (with_reducible refine bw_set ?_ ?_ _; focus (dsimp only; omega)) | (with_reducible apply bw_behind; with_reducible assumption) | (with_reducible refine below_behindN (by with_reducible assumption) ?_ ?_; focus omega) | (with_reducible refine below_out (by with_reducible assumption) ?_ ?_; focus omega))
  case round =>
    obtain ⟨k, M, hk, hk60, rfl, hT, HM, hB⟩ := hrel
    have hzr : w.heap.size < wr.heap.size := hT.here
    have CK := hide (fun W h => (by have := CKA.out M W h; rw [HM.out.2] at this; rw [show List.find? (pageQ 77 num') [(77, num', 0)] = some (77, num', 0) by simp [List.find?, pageQ]] at this; exact this : Calls Try.prog 9 #[.pointer (some ⟨w.heap.size, 0, none⟩), .int .u64 77, .int .u64 num'] W (Makes (.tuple #[.agg #[.int .u64 77, .int .u64 num', .bool false, .bool false, .bool false, .bool false, .bool false, .bool false, .bool false, .bool false, .bool false, .bool false, .bool false, .bool false, .int .u64 0, .int .u64 0], .bool true]) W)))
    by_cases hlt : k < l.length ∧ k < 60
    · obtain ⟨hk1, hk2⟩ := hlt
      obtain ⟨d, hd⟩ : ∃ d, l[k]? = some d := ⟨_, List.getElem?_eq_getElem hk1⟩
      obtain ⟨b, off, rfl, hc⟩ := HCL.out k d hd
      have y0 : wr.cell? ⟨b, off + k * 5, none⟩ = some (.int .i64 d.kind) := c_be hB (hc 0 _ rfl)
      have y1 := c_be hB (hc 1 _ rfl)
      have y2 := c_be hB (hc 2 _ rfl)
      have y3 := c_be hB (hc 3 _ rfl)
      have y4 := c_be hB (hc 4 _ rfl)
      obtain ⟨rn, hrn⟩ : ∃ r : Nat, (d.n.toNat : Int) % 4 = (r : Int) := ⟨d.n.toNat % 4, by omega⟩
      have g1 : (k : Int) < (l.length : Int) := by omega
      have g2 : (k : Int) < 60 := by omega
      have g3 : (0 : Int) ≤ (k : Int) := by omega
      have f0 : (0 : Int) ≤ (d.n.toNat : Int) := by omega
      have f1 : (d.n.toNat : Int).tmod 4 = (rn : Int) := by rw [Int.tmod_eq_emod_of_nonneg f0]; exact hrn
      have f2 : IntKind.u64.wrap (rn : Int) = (rn : Int) := by rw [IntKind.wrap_u64]; omega
      clear hc
      by_cases heq : rn = q
      · -- the number is moved on
        subst heq
        obtain ⟨n1, hn1⟩ : ∃ n1, IntKind.u64.wrap ((d.n.toNat : Int) + 1) = n1 := ⟨_, rfl⟩
        have hn1b : n1 = ((d.n.toNat : Int) + 1) % 18446744073709551616 := by rw [← hn1, IntKind.wrap_u64]
        obtain ⟨r1, hr1⟩ : ∃ r : Nat, n1 % 4 = (r : Int) := ⟨(n1 % 4).toNat, by omega⟩
        have hne : r1 ≠ rn := by omega
        have hr4 : r1 < 4 := by omega
        have m0 : (0 : Int) ≤ n1 := by omega
        have m1 : n1.tmod 4 = (r1 : Int) := by rw [Int.tmod_eq_emod_of_nonneg m0]; exact hr1
        have m2 : IntKind.u64.wrap (r1 : Int) = (r1 : Int) := by rw [IntKind.wrap_u64]; omega
        have m3 : ((r1 : Int) != (rn : Int)) = true := by simp; omega
        have m4 : ((r1 : Int) == (rn : Int)) = false := by simp; omega
        have CP := hide (fun W h => CPA.out M r1 (d.a.toNat : Int) n1 (d.x.toNat : Int) hr1 m0 W h)
        obtain ⟨M2, hM2⟩ : ∃ M2, putM M r1 ((d.a.toNat : Int), n1, (d.x.toNat : Int)) = M2 := ⟨_, rfl⟩
        have HM2 : Hid (Inv M2 ∧ M2 rn = [(77, num', 0)]) := by
          rw [← hM2]
          exact hide ⟨inv_put HM.out.1 hr1 m0, by rw [put_keep HM.out.1.sets hr1 hr4 hq4 (fun e => hne e.symm)]; exact HM.out.2⟩
        rw [hM2] at CP
        have CGx := fun W h => CGA.out M2 W h
        have HLSx : (upF M2 4).Pairwise (fun a b => a.2.1 % 4 ≤ b.2.1 % 4) ∧ (∀ r : Nat, r < 4 → ((upF M2 4).filter (fun l : Ln => l.2.1 % 4 == (r : Int))).length ≤ 2) ∧ ∀ (j : Nat) (l : Ln), (upF M2 4)[j]? = some l → ∃ r : Nat, r < 4 ∧ l.2.1 % 4 = (r : Int) := by
          refine ⟨sorted_upF HM2.out.1.sets 4 (by omega), fun r hr => ?_, fun j l hl => ?_⟩
          · have := cnt_all HM2.out.1.sets r hr (HM2.out.1.len r hr) 4 (by omega)
            rw [if_pos hr] at this
            exact this
          · obtain ⟨r, hr, hm⟩ := mem_upF (List.mem_of_getElem? hl)
            exact ⟨r, hr, HM2.out.1.sets r hr _ hm⟩
        have HLNx : ∀ (j : Nat) (l : Ln), (upF M2 4)[j]? = some l → 0 ≤ l.2.1 := fun j l hl => by
          obtain ⟨r, hr, hm⟩ := mem_upF (List.mem_of_getElem? hl)
          exact HM2.out.1.nn r hr _ hm
        have hm8 := upF_length M2 4 (fun r hr => HM2.out.1.len r hr)
        obtain ⟨L, hL⟩ : ∃ L, upF M2 4 = L := ⟨_, rfl⟩
        rw [hL] at CGx HLSx HLNx hm8
        obtain ⟨m, hm⟩ : ∃ m, L.length = m := ⟨_, rfl⟩
        rw [hm] at CGx hm8
        have CG := hide CGx
        have HLS := hide HLSx
        have HLN := hide HLNx
        have HLM := hide hm
        clear CGx HLSx HLNx hm hL
        generalize (d.a.toNat : Int) = DA at *
        generalize (d.n.toNat : Int) = DN at *
        generalize (d.x.toNat : Int) = DX at *
        generalize d.kind = DK at *
        generalize d.place = DP at *
        clear hM2 hn1b hr1 hrn hd CPA CGA CKA CP0 CK
        go_upto_region 11 with (first | (go_at_call 7; (with_reducible refine (CL.out _ _ _ _ _ _).mono ?_); rintro e wl ⟨rfl, hbl⟩; have hzl := hbl.size; try simp only [size_al] at hzl) | (go_at_call 6; (with_reducible refine (CP.out _ ?_).mono ?_); (focus (repeat (first | with_reducible assumption | with_reducible refine tm_dr _ ?_ | with_reducible refine tm_d1 ?_ | with_reducible refine tm_al _ ?_ | (with_reducible refine tm_set ?_ ?_; focus (dsimp only; omega)) | (with_reducible apply tm_be; with_reducible assumption) | (with_reducible refine tm_bn (by with_reducible assumption) ?_ ?_; focus omega) | (with_reducible refine tm_out (by with_reducible assumption) ?_ ?_; focus omega)))); rintro e wp ⟨rfl, hTp, hUp⟩; have hzp := hUp.size; try simp only [size_al] at hzp))
        refine wp_abs (fun W => TlbM W w.heap.size M2 ∧ Below w.heap.size w W ∧ w.heap.size < W.heap.size) ?_ ?_
        · have hz := hB.size
          refine ⟨?_, ?_, ?_⟩
          · repeat (first | with_reducible assumption | with_reducible refine tm_dr _ ?_ | with_reducible refine tm_d1 ?_ | with_reducible refine tm_al _ ?_ | (with_reducible refine tm_set ?_ ?_; focus (dsimp only; omega)) | (with_reducible apply tm_be; with_reducible assumption) | (with_reducible refine tm_bn (by with_reducible assumption) ?_ ?_; focus omega) | (with_reducible refine tm_out (by with_reducible assumption) ?_ ?_; focus omega))
          · repeat (first | with_reducible assumption | with_reducible exact Below.refl _ _ | with_reducible refine Below.drew ?_ | with_reducible refine below_drewN ?_ _ | with_reducible refine bw_alloc ?_ _ | (with_reducible refine bw_set ?_ ?_ _; focus (dsimp only; omega)) | (with_reducible apply bw_behind; with_reducible assumption) | (with_reducible refine below_behindN (by with_reducible assumption) ?_ ?_; focus omega) | (with_reducible refine below_out (by with_reducible assumption) ?_ ?_; focus omega))
          · first | omega | (simp only [size_al] at *; omega)
        rintro w1 ⟨hT1, hB1, hs1⟩
        go_wp2_with (first | (go_at_call 19; (with_reducible refine (CG.out _ ?_).mono ?_); (focus (repeat (first | with_reducible assumption | with_reducible refine tm_dr _ ?_ | with_reducible refine tm_d1 ?_ | with_reducible refine tm_al _ ?_ | (with_reducible refine tm_set ?_ ?_; focus (dsimp only; omega)) | (with_reducible apply tm_be; with_reducible assumption) | (with_reducible refine tm_bn (by with_reducible assumption) ?_ ?_; focus omega) | (with_reducible refine tm_out (by with_reducible assumption) ?_ ?_; focus omega)))); rintro e wg ⟨A, rfl, hrA, hA, hbg⟩; have hzg := hbg.size; try simp only [size_al] at hzg hA))
        have hz0 := hB1.size
        refine wp_abs (fun W => TlbM W w.heap.size M2 ∧ Below w.heap.size w W ∧ W.rangeAt A 0 (flatC L) ∧ Own W w1.heap.size 4 ∧ (∀ r, r < 4 → W.cell? ⟨w1.heap.size, r, none⟩ = some (.int .i64 ((cntS L r 0 : Nat) : Int))) ∧ w1.heap.size < A) ?_ ?_
        · refine ⟨?_, ?_, hrA, ?_, fun r hr => ?_, by omega⟩
          · repeat (first | with_reducible assumption | with_reducible refine tm_dr _ ?_ | with_reducible refine tm_d1 ?_ | with_reducible refine tm_al _ ?_ | (with_reducible refine tm_set ?_ ?_; focus (dsimp only; omega)) | (with_reducible apply tm_be; with_reducible assumption) | (with_reducible refine tm_bn (by with_reducible assumption) ?_ ?_; focus omega) | (with_reducible refine tm_out (by with_reducible assumption) ?_ ?_; focus omega))
          · repeat (first | with_reducible assumption | with_reducible exact Below.refl _ _ | with_reducible refine Below.drew ?_ | with_reducible refine below_drewN ?_ _ | with_reducible refine bw_alloc ?_ _ | (with_reducible refine bw_set ?_ ?_ _; focus (dsimp only; omega)) | (with_reducible apply bw_behind; with_reducible assumption) | (with_reducible refine below_behindN (by with_reducible assumption) ?_ ?_; focus omega) | (with_reducible refine below_out (by with_reducible assumption) ?_ ?_; focus omega))
          · exact o_be hbg (o_new rfl (by simp))
          · refine c_be hbg ?_
            rw [show cntS L r 0 = 0 from rfl]
            have : r = 0 ∨ r = 1 ∨ r = 2 ∨ r = 3 := by omega
            rcases this with rfl | rfl | rfl | rfl <;> simp [go_sem]
        rintro w2 ⟨hT2, hB2, hR2, hO2, hC2, hA2⟩
        generalize w1.heap.size = B at *
        have HR2 := hide hR2
        have HB2 := hide hB2
        have HT2 := hide hT2
        have HC2 := hide hC2
        have hTB : w.heap.size < B := by omega
        have hAB : ¬ (B = A) := by omega
        have hBA : ¬ (A = B) := by omega
        clear hR2 hB2 hT2 hC2 hT1 hB1 hT CG CP CL hrA hbg y0 y1 y2 y3 y4
        go_loopw [10] (fun i wr => ∃ j : Nat, j ≤ m ∧ i = .int .i64 (j : Int) ∧ Hid (∀ r, r < 4 → wr.cell? ⟨B, r, none⟩ = some (.int .i64 ((cntS L r j : Nat) : Int))) ∧ Own wr B 4 ∧ Out1 B w2 wr) (fun i _ => m - (intOf i).toNat)
        case atStart => exact ⟨0, by omega, rfl, HC2, hO2, Out1.refl _ _⟩
        case round =>
          obtain ⟨j, hj, rfl, HC, hO, hU⟩ := hrel
          by_cases hjm : j < m
          · obtain ⟨⟨la, ln, lx⟩, hll⟩ : ∃ x, L[j]? = some x := ⟨_, List.getElem?_eq_getElem (by rw [HLM.out]; exact hjm)⟩
            obtain ⟨rk, hrk4, hrk⟩ := HLS.out.2.2 j _ hll
            have c1 : w2.cell? ⟨A, j * 16 + 1, none⟩ = some (.int .u64 ln) := flat_at HR2.out _ hll 1 _ rfl
            have c2 := hU.reads (p := ⟨A, j * 16 + 1, none⟩) (fun e => hBA e) c1
            obtain ⟨c, hc⟩ : ∃ c, cntS L rk j = c := ⟨_, rfl⟩
            have c3 : _ = some (Value.int .i64 ((c : Nat) : Int)) := hc ▸ HC.out rk hrk4
            have c4 := hO.free rk hrk4
            have hc2 : c ≤ 2 := by rw [← hc]; exact cnt_le (HLS.out.2.1 rk hrk4) j
            have a0 : (0 : Int) ≤ ln := HLN.out j _ hll
            have a1 : ln.tmod 4 = (rk : Int) := by rw [Int.tmod_eq_emod_of_nonneg a0]; exact hrk
            have a2 : IntKind.u64.wrap (rk : Int) = (rk : Int) := by rw [IntKind.wrap_u64]; omega
            have a3 : ¬ ((4 : Int) ≤ (rk : Int)) := by omega
            have a4 : (rk : Int) < 4 := by omega
            have a5 : (0 : Int) ≤ (rk : Int) := by omega
            have a6 : IntKind.i64.wrap ((c : Int) + 1) = ((c + 1 : Nat) : Int) := by rw [IntKind.wrap_i64]; omega
            have b1 : (j : Int) < (m : Int) := by omega
            have b2 : ¬ ((m : Int) ≤ (j : Int)) := by omega
            have b3 : (0 : Int) ≤ (j : Int) := by omega
            have HC1 := hide hc
            have HLL := hide hll
            have HRK := hide hrk
            clear hc hll hrk
            go_upto_region 17 with (first | fail)
            refine wp_abs (fun W => (∀ r, r < 4 → W.cell? ⟨B, r, none⟩ = some (.int .i64 ((cntS L r (j + 1) : Nat) : Int))) ∧ Own W B 4 ∧ Out1 B w2 W) ?_ ?_
            · refine ⟨fun r hr => ?_, o_set hO, u_in _ hU⟩
              rw [cnt_step HLL.out HRK.out]
              by_cases e : r = rk
              · subst e
                rw [if_pos rfl, HC1.out]
                exact cell_same _ _ _ (hO.some r hr)
              · rw [if_neg e, World.cell?_setCell_other _ _ _ _ (fun x => e (congrArg Addr.off x).symm)]
                exact HC.out r hr
            rintro w3 ⟨hC3, hO3, hU3⟩
            have HC3 := hide hC3
            clear hC3 c2 c3 c4 a6
            have c5 := hU3.reads (p := ⟨A, j * 16 + 1, none⟩) (fun e => hBA e) c1
            by_cases j0 : j = 0
            · have d1 : ¬ ((0 : Int) < (j : Int)) := by omega
              have d2 : ¬ (0 < j) := by omega
              have J0 := hide j0
              clear j0
              go_quiet (fail)
              go_wp2_with fail
              go_roundw
              case rel => exact ⟨j + 1, by omega, by go_num, HC3, hO3, u_dr _ hU3⟩
              case measure => simp [intOf]; omega
            · obtain ⟨j1, hj1⟩ : ∃ j1, j = j1 + 1 := ⟨j - 1, by omega⟩
              obtain ⟨⟨ka, kn, kx⟩, hkk⟩ : ∃ x, L[j1]? = some x := ⟨_, List.getElem?_eq_getElem (by rw [HLM.out]; omega)⟩
              obtain ⟨rj, hrj4, hrj⟩ := HLS.out.2.2 j1 _ hkk
              have k1 : w2.cell? ⟨A, j1 * 16 + 1, none⟩ = some (.int .u64 kn) := flat_at HR2.out _ hkk 1 _ rfl
              have k2 := hU3.reads (p := ⟨A, j1 * 16 + 1, none⟩) (fun e => hBA e) k1
              have k0 : (0 : Int) ≤ kn := HLN.out j1 _ hkk
              have k3 : kn.tmod 4 = (rj : Int) := by rw [Int.tmod_eq_emod_of_nonneg k0]; exact hrj
              have k4 : IntKind.u64.wrap (rj : Int) = (rj : Int) := by rw [IntKind.wrap_u64]; omega
              have k5 : ¬ ((rk : Int) < (rj : Int)) := by
                have := sorted_at HLS.out.1 hkk HLL.out (by omega)
                have h2 := HRK.out
                dsimp only at this h2 hrj
                omega
              have k6 : IntKind.i64.wrap ((j : Int) - 1) = (j1 : Int) := by rw [IntKind.wrap_i64]; omega
              have d1 : (0 : Int) < (j : Int) := by omega
              have d2 : 0 < j := by omega
              have d3 : (j1 : Int) < (m : Int) := by omega
              have d4 : (0 : Int) ≤ (j1 : Int) := by omega
              clear hj1 hkk hrj j0 k0 k1 c1
              go_quiet (fail)
              go_wp2_with fail
              go_roundw
              case rel => exact ⟨j + 1, by omega, by go_num, HC3, hO3, u_dr _ hU3⟩
              case measure => simp [intOf]; omega
          · obtain rfl : j = m := by omega
            have q0 := HC.out 0 (by omega)
            have q1 := HC.out 1 (by omega)
            have q2 := HC.out 2 (by omega)
            have q3 := HC.out 3 (by omega)
            have p0 := cnt_le (HLS.out.2.1 0 (by omega)) j
            have p1 := cnt_le (HLS.out.2.1 1 (by omega)) j
            have p2 := cnt_le (HLS.out.2.1 2 (by omega)) j
            have p3 := cnt_le (HLS.out.2.1 3 (by omega)) j
            generalize cntS L 0 j = C0 at *
            generalize cntS L 1 j = C1 at *
            generalize cntS L 2 j = C2 at *
            generalize cntS L 3 j = C3 at *
            have s0 : ¬ ((2 : Int) < (C0 : Int)) := by omega
            have s1 : ¬ ((2 : Int) < (C1 : Int)) := by omega
            have s2 : ¬ ((2 : Int) < (C2 : Int)) := by omega
            have s3 : ¬ ((2 : Int) < (C3 : Int)) := by omega
            go_wp2_with fail
            go_roundw
            case rel =>
              refine ⟨k + 1, M2, by omega, by omega, by go_num, ?_, HM2, ?_⟩
              · have hT2 := HT2.out
                exact tm_out hU (by omega) hT2
              · have hB2 := HB2.out
                exact below_out hU (by omega) hB2
            case measure => simp [intOf]; omega
      · -- the number serves as it is
        have hne : rn ≠ q := heq
        have hr4 : rn < 4 := by omega
        have m3 : ((rn : Int) == (q : Int)) = false := by simp; omega
        have m4 : ((rn : Int) != (q : Int)) = true := by simp; omega
        have CP := hide (fun W h => CPA.out M rn (d.a.toNat : Int) (d.n.toNat : Int) (d.x.toNat : Int) hrn f0 W h)
        obtain ⟨M2, hM2⟩ : ∃ M2, putM M rn ((d.a.toNat : Int), (d.n.toNat : Int), (d.x.toNat : Int)) = M2 := ⟨_, rfl⟩
        have HM2 : Hid (Inv M2 ∧ M2 q = [(77, num', 0)]) := by
          rw [← hM2]
          exact hide ⟨inv_put HM.out.1 hrn f0, by rw [put_keep HM.out.1.sets hrn hr4 hq4 (fun e => hne e.symm)]; exact HM.out.2⟩
        rw [hM2] at CP
        have CGx := fun W h => CGA.out M2 W h
        have HLSx : (upF M2 4).Pairwise (fun a b => a.2.1 % 4 ≤ b.2.1 % 4) ∧ (∀ r : Nat, r < 4 → ((upF M2 4).filter (fun l : Ln => l.2.1 % 4 == (r : Int))).length ≤ 2) ∧ ∀ (j : Nat) (l : Ln), (upF M2 4)[j]? = some l → ∃ r : Nat, r < 4 ∧ l.2.1 % 4 = (r : Int) := by
          refine ⟨sorted_upF HM2.out.1.sets 4 (by omega), fun r hr => ?_, fun j l hl => ?_⟩
          · have := cnt_all HM2.out.1.sets r hr (HM2.out.1.len r hr) 4 (by omega)
            rw [if_pos hr] at this
            exact this
          · obtain ⟨r, hr, hm⟩ := mem_upF (List.mem_of_getElem? hl)
            exact ⟨r, hr, HM2.out.1.sets r hr _ hm⟩
        have HLNx : ∀ (j : Nat) (l : Ln), (upF M2 4)[j]? = some l → 0 ≤ l.2.1 := fun j l hl => by
          obtain ⟨r, hr, hm⟩ := mem_upF (List.mem_of_getElem? hl)
          exact HM2.out.1.nn r hr _ hm
        have hm8 := upF_length M2 4 (fun r hr => HM2.out.1.len r hr)
        obtain ⟨L, hL⟩ : ∃ L, upF M2 4 = L := ⟨_, rfl⟩
        rw [hL] at CGx HLSx HLNx hm8
        obtain ⟨m, hm⟩ : ∃ m, L.length = m := ⟨_, rfl⟩
        rw [hm] at CGx hm8
        have CG := hide CGx
        have HLS := hide HLSx
        have HLN := hide HLNx
        have HLM := hide hm
        clear CGx HLSx HLNx hm hL
        generalize (d.a.toNat : Int) = DA at *
        generalize (d.n.toNat : Int) = DN at *
        generalize (d.x.toNat : Int) = DX at *
        generalize d.kind = DK at *
        generalize d.place = DP at *
        clear hM2 hrn hd CPA CGA CKA CP0 CK
        go_upto_region 11 with (first | (go_at_call 7; (with_reducible refine (CL.out _ _ _ _ _ _).mono ?_); rintro e wl ⟨rfl, hbl⟩; have hzl := hbl.size; try simp only [size_al] at hzl) | (go_at_call 6; (with_reducible refine (CP.out _ ?_).mono ?_); (focus (repeat (first | with_reducible assumption | with_reducible refine tm_dr _ ?_ | with_reducible refine tm_d1 ?_ | with_reducible refine tm_al _ ?_ | (with_reducible refine tm_set ?_ ?_; focus (dsimp only; omega)) | (with_reducible apply tm_be; with_reducible assumption) | (with_reducible refine tm_bn (by with_reducible assumption) ?_ ?_; focus omega) | (with_reducible refine tm_out (by with_reducible assumption) ?_ ?_; focus omega)))); rintro e wp ⟨rfl, hTp, hUp⟩; have hzp := hUp.size; try simp only [size_al] at hzp))
        refine wp_abs (fun W => TlbM W w.heap.size M2 ∧ Below w.heap.size w W ∧ w.heap.size < W.heap.size) ?_ ?_
        · have hz := hB.size
          refine ⟨?_, ?_, ?_⟩
          · repeat (first | with_reducible assumption | with_reducible refine tm_dr _ ?_ | with_reducible refine tm_d1 ?_ | with_reducible refine tm_al _ ?_ | (with_reducible refine tm_set ?_ ?_; focus (dsimp only; omega)) | (with_reducible apply tm_be; with_reducible assumption) | (with_reducible refine tm_bn (by with_reducible assumption) ?_ ?_; focus omega) | (with_reducible refine tm_out (by with_reducible assumption) ?_ ?_; focus omega))
          · repeat (first | with_reducible assumption | with_reducible exact Below.refl _ _ | with_reducible refine Below.drew ?_ | with_reducible refine below_drewN ?_ _ | with_reducible refine bw_alloc ?_ _ | (with_reducible refine bw_set ?_ ?_ _; focus (dsimp only; omega)) | (with_reducible apply bw_behind; with_reducible assumption) | (with_reducible refine below_behindN (by with_reducible assumption) ?_ ?_; focus omega) | (with_reducible refine below_out (by with_reducible assumption) ?_ ?_; focus omega))
          · first | omega | (simp only [size_al] at *; omega)
        rintro w1 ⟨hT1, hB1, hs1⟩
        go_wp2_with (first | (go_at_call 19; (with_reducible refine (CG.out _ ?_).mono ?_); (focus (repeat (first | with_reducible assumption | with_reducible refine tm_dr _ ?_ | with_reducible refine tm_d1 ?_ | with_reducible refine tm_al _ ?_ | (with_reducible refine tm_set ?_ ?_; focus (dsimp only; omega)) | (with_reducible apply tm_be; with_reducible assumption) | (with_reducible refine tm_bn (by with_reducible assumption) ?_ ?_; focus omega) | (with_reducible refine tm_out (by with_reducible assumption) ?_ ?_; focus omega)))); rintro e wg ⟨A, rfl, hrA, hA, hbg⟩; have hzg := hbg.size; try simp only [size_al] at hzg hA))
        have hz0 := hB1.size
        refine wp_abs (fun W => TlbM W w.heap.size M2 ∧ Below w.heap.size w W ∧ W.rangeAt A 0 (flatC L) ∧ Own W w1.heap.size 4 ∧ (∀ r, r < 4 → W.cell? ⟨w1.heap.size, r, none⟩ = some (.int .i64 ((cntS L r 0 : Nat) : Int))) ∧ w1.heap.size < A) ?_ ?_
        · refine ⟨?_, ?_, hrA, ?_, fun r hr => ?_, by omega⟩
          · repeat (first | with_reducible assumption | with_reducible refine tm_dr _ ?_ | with_reducible refine tm_d1 ?_ | with_reducible refine tm_al _ ?_ | (with_reducible refine tm_set ?_ ?_; focus (dsimp only; omega)) | (with_reducible apply tm_be; with_reducible assumption) | (with_reducible refine tm_bn (by with_reducible assumption) ?_ ?_; focus omega) | (with_reducible refine tm_out (by with_reducible assumption) ?_ ?_; focus omega))
          · repeat (first | with_reducible assumption | with_reducible exact Below.refl _ _ | with_reducible refine Below.drew ?_ | with_reducible refine below_drewN ?_ _ | with_reducible refine bw_alloc ?_ _ | (with_reducible refine bw_set ?_ ?_ _; focus (dsimp only; omega)) | (with_reducible apply bw_behind; with_reducible assumption) | (with_reducible refine below_behindN (by with_reducible assumption) ?_ ?_; focus omega) | (with_reducible refine below_out (by with_reducible assumption) ?_ ?_; focus omega))
          · exact o_be hbg (o_new rfl (by simp))
          · refine c_be hbg ?_
            rw [show cntS L r 0 = 0 from rfl]
            have : r = 0 ∨ r = 1 ∨ r = 2 ∨ r = 3 := by omega
            rcases this with rfl | rfl | rfl | rfl <;> simp [go_sem]
        rintro w2 ⟨hT2, hB2, hR2, hO2, hC2, hA2⟩
        generalize w1.heap.size = B at *
        have HR2 := hide hR2
        have HB2 := hide hB2
        have HT2 := hide hT2
        have HC2 := hide hC2
        have hTB : w.heap.size < B := by omega
        have hAB : ¬ (B = A) := by omega
        have hBA : ¬ (A = B) := by omega
        clear hR2 hB2 hT2 hC2 hT1 hB1 hT CG CP CL hrA hbg y0 y1 y2 y3 y4
        go_loopw [10] (fun i wr => ∃ j : Nat, j ≤ m ∧ i = .int .i64 (j : Int) ∧ Hid (∀ r, r < 4 → wr.cell? ⟨B, r, none⟩ = some (.int .i64 ((cntS L r j : Nat) : Int))) ∧ Own wr B 4 ∧ Out1 B w2 wr) (fun i _ => m - (intOf i).toNat)
        case atStart => exact ⟨0, by omega, rfl, HC2, hO2, Out1.refl _ _⟩
        case round =>
          obtain ⟨j, hj, rfl, HC, hO, hU⟩ := hrel
          by_cases hjm : j < m
          · obtain ⟨⟨la, ln, lx⟩, hll⟩ : ∃ x, L[j]? = some x := ⟨_, List.getElem?_eq_getElem (by rw [HLM.out]; exact hjm)⟩
            obtain ⟨rk, hrk4, hrk⟩ := HLS.out.2.2 j _ hll
            have c1 : w2.cell? ⟨A, j * 16 + 1, none⟩ = some (.int .u64 ln) := flat_at HR2.out _ hll 1 _ rfl
            have c2 := hU.reads (p := ⟨A, j * 16 + 1, none⟩) (fun e => hBA e) c1
            obtain ⟨c, hc⟩ : ∃ c, cntS L rk j = c := ⟨_, rfl⟩
            have c3 : _ = some (Value.int .i64 ((c : Nat) : Int)) := hc ▸ HC.out rk hrk4
            have c4 := hO.free rk hrk4
            have hc2 : c ≤ 2 := by rw [← hc]; exact cnt_le (HLS.out.2.1 rk hrk4) j
            have a0 : (0 : Int) ≤ ln := HLN.out j _ hll
            have a1 : ln.tmod 4 = (rk : Int) := by rw [Int.tmod_eq_emod_of_nonneg a0]; exact hrk
            have a2 : IntKind.u64.wrap (rk : Int) = (rk : Int) := by rw [IntKind.wrap_u64]; omega
            have a3 : ¬ ((4 : Int) ≤ (rk : Int)) := by omega
            have a4 : (rk : Int) < 4 := by omega
            have a5 : (0 : Int) ≤ (rk : Int) := by omega
            have a6 : IntKind.i64.wrap ((c : Int) + 1) = ((c + 1 : Nat) : Int) := by rw [IntKind.wrap_i64]; omega
            have b1 : (j : Int) < (m : Int) := by omega
            have b2 : ¬ ((m : Int) ≤ (j : Int)) := by omega
            have b3 : (0 : Int) ≤ (j : Int) := by omega
            have HC1 := hide hc
            have HLL := hide hll
            have HRK := hide hrk
            clear hc hll hrk
            go_upto_region 17 with (first | fail)
            refine wp_abs (fun W => (∀ r, r < 4 → W.cell? ⟨B, r, none⟩ = some (.int .i64 ((cntS L r (j + 1) : Nat) : Int))) ∧ Own W B 4 ∧ Out1 B w2 W) ?_ ?_
            · refine ⟨fun r hr => ?_, o_set hO, u_in _ hU⟩
              rw [cnt_step HLL.out HRK.out]
              by_cases e : r = rk
              · subst e
                rw [if_pos rfl, HC1.out]
                exact cell_same _ _ _ (hO.some r hr)
              · rw [if_neg e, World.cell?_setCell_other _ _ _ _ (fun x => e (congrArg Addr.off x).symm)]
                exact HC.out r hr
            rintro w3 ⟨hC3, hO3, hU3⟩
            have HC3 := hide hC3
            clear hC3 c2 c3 c4 a6
            have c5 := hU3.reads (p := ⟨A, j * 16 + 1, none⟩) (fun e => hBA e) c1
            by_cases j0 : j = 0
            · have d1 : ¬ ((0 : Int) < (j : Int)) := by omega
              have d2 : ¬ (0 < j) := by omega
              have J0 := hide j0
              clear j0
              go_quiet (fail)
              go_wp2_with fail
              go_roundw
              case rel => exact ⟨j + 1, by omega, by go_num, HC3, hO3, u_dr _ hU3⟩
              case measure => simp [intOf]; omega
            · obtain ⟨j1, hj1⟩ : ∃ j1, j = j1 + 1 := ⟨j - 1, by omega⟩
              obtain ⟨⟨ka, kn, kx⟩, hkk⟩ : ∃ x, L[j1]? = some x := ⟨_, List.getElem?_eq_getElem (by rw [HLM.out]; omega)⟩
              obtain ⟨rj, hrj4, hrj⟩ := HLS.out.2.2 j1 _ hkk
              have k1 : w2.cell? ⟨A, j1 * 16 + 1, none⟩ = some (.int .u64 kn) := flat_at HR2.out _ hkk 1 _ rfl
              have k2 := hU3.reads (p := ⟨A, j1 * 16 + 1, none⟩) (fun e => hBA e) k1
              have k0 : (0 : Int) ≤ kn := HLN.out j1 _ hkk
              have k3 : kn.tmod 4 = (rj : Int) := by rw [Int.tmod_eq_emod_of_nonneg k0]; exact hrj
              have k4 : IntKind.u64.wrap (rj : Int) = (rj : Int) := by rw [IntKind.wrap_u64]; omega
              have k5 : ¬ ((rk : Int) < (rj : Int)) := by
                have := sorted_at HLS.out.1 hkk HLL.out (by omega)
                have h2 := HRK.out
                dsimp only at this h2 hrj
                omega
              have k6 : IntKind.i64.wrap ((j : Int) - 1) = (j1 : Int) := by rw [IntKind.wrap_i64]; omega
              have d1 : (0 : Int) < (j : Int) := by omega
              have d2 : 0 < j := by omega
              have d3 : (j1 : Int) < (m : Int) := by omega
              have d4 : (0 : Int) ≤ (j1 : Int) := by omega
              clear hj1 hkk hrj j0 k0 k1 c1
              go_quiet (fail)
              go_wp2_with fail
              go_roundw
              case rel => exact ⟨j + 1, by omega, by go_num, HC3, hO3, u_dr _ hU3⟩
              case measure => simp [intOf]; omega
          · obtain rfl : j = m := by omega
            have q0 := HC.out 0 (by omega)
            have q1 := HC.out 1 (by omega)
            have q2 := HC.out 2 (by omega)
            have q3 := HC.out 3 (by omega)
            have p0 := cnt_le (HLS.out.2.1 0 (by omega)) j
            have p1 := cnt_le (HLS.out.2.1 1 (by omega)) j
            have p2 := cnt_le (HLS.out.2.1 2 (by omega)) j
            have p3 := cnt_le (HLS.out.2.1 3 (by omega)) j
            generalize cntS L 0 j = C0 at *
            generalize cntS L 1 j = C1 at *
            generalize cntS L 2 j = C2 at *
            generalize cntS L 3 j = C3 at *
            have s0 : ¬ ((2 : Int) < (C0 : Int)) := by omega
            have s1 : ¬ ((2 : Int) < (C1 : Int)) := by omega
            have s2 : ¬ ((2 : Int) < (C2 : Int)) := by omega
            have s3 : ¬ ((2 : Int) < (C3 : Int)) := by omega
            go_wp2_with fail
            go_roundw
            case rel =>
              refine ⟨k + 1, M2, by omega, by omega, by go_num, ?_, HM2, ?_⟩
              · have hT2 := HT2.out
                exact tm_out hU (by omega) hT2
              · have hB2 := HB2.out
                exact below_out hU (by omega) hB2
            case measure => simp [intOf]; omega
    · rcases Nat.lt_or_ge k l.length with h | h
      · have g1 : (k : Int) < (l.length : Int) := by omega
        have g2 : ¬ ((k : Int) < 60) := by omega
        clear CL CPA CGA CKA CP0 HCL
        go_wp2_with (first | (go_at_call 9; (with_reducible refine (CK.out _ ?_).mono ?_); (focus (repeat (first | with_reducible assumption | with_reducible refine tm_dr _ ?_ | with_reducible refine tm_d1 ?_ | with_reducible refine tm_al _ ?_ | (with_reducible refine tm_set ?_ ?_; focus (dsimp only; omega)) | (with_reducible apply tm_be; with_reducible assumption) | (with_reducible refine tm_bn (by with_reducible assumption) ?_ ?_; focus omega) | (with_reducible refine tm_out (by with_reducible assumption) ?_ ?_; focus omega)))); rintro e wk ⟨rfl, hbk⟩; have hzk := hbk.size) | (go_at_call 20; (with_reducible refine (CO.out _).mono ?_); rintro e wo ⟨rfl, hbo⟩; have hzo := hbo.size) | ((refine wpList_store_box rfl _ _ _ rfl _ (77) (num) (0) rfl rfl infoL ?_ ?_); (focus ((repeat (first | with_reducible assumption | with_reducible refine o_dr _ ?_ | with_reducible refine o_d1 ?_ | with_reducible refine o_set ?_ | (with_reducible refine o_new ?_ ?_; (focus (simp)); (focus (simp))) | (with_reducible refine o_new ?_ ?_; (focus (simp [*]; done)); (focus (simp))) | (with_reducible refine o_new ?_ ?_; (focus (simp [*]; omega)); (focus (simp))) | with_reducible refine o_al _ ?_ | (with_reducible apply o_be; with_reducible assumption) | (with_reducible refine o_bn (by with_reducible assumption) ?_ ?_; focus omega))); done)); intro wz hrz hbz hoz hsz; (try simp only [size_al] at hsz)))
        go_ret
        refine ⟨rfl, ?_⟩
        repeat (first | with_reducible assumption | with_reducible exact Below.refl _ _ | with_reducible refine Below.drew ?_ | with_reducible refine below_drewN ?_ _ | with_reducible refine bw_alloc ?_ _ | (with_reducible refine bw_set ?_ ?_ _; focus (dsimp only; omega)) | (with_reducible apply bw_behind; with_reducible assumption) | (with_reducible refine below_behindN (by with_reducible assumption) ?_ ?_; focus omega) | (with_reducible refine below_out (by with_reducible assumption) ?_ ?_; focus omega))
      · have g1 : ¬ ((k : Int) < (l.length : Int)) := by omega
        clear CL CPA CGA CKA CP0 HCL
        go_wp2_with (first | (go_at_call 9; (with_reducible refine (CK.out _ ?_).mono ?_); (focus (repeat (first | with_reducible assumption | with_reducible refine tm_dr _ ?_ | with_reducible refine tm_d1 ?_ | with_reducible refine tm_al _ ?_ | (with_reducible refine tm_set ?_ ?_; focus (dsimp only; omega)) | (with_reducible apply tm_be; with_reducible assumption) | (with_reducible refine tm_bn (by with_reducible assumption) ?_ ?_; focus omega) | (with_reducible refine tm_out (by with_reducible assumption) ?_ ?_; focus omega)))); rintro e wk ⟨rfl, hbk⟩; have hzk := hbk.size) | (go_at_call 20; (with_reducible refine (CO.out _).mono ?_); rintro e wo ⟨rfl, hbo⟩; have hzo := hbo.size) | ((refine wpList_store_box rfl _ _ _ rfl _ (77) (num) (0) rfl rfl infoL ?_ ?_); (focus ((repeat (first | with_reducible assumption | with_reducible refine o_dr _ ?_ | with_reducible refine o_d1 ?_ | with_reducible refine o_set ?_ | (with_reducible refine o_new ?_ ?_; (focus (simp)); (focus (simp))) | (with_reducible refine o_new ?_ ?_; (focus (simp [*]; done)); (focus (simp))) | (with_reducible refine o_new ?_ ?_; (focus (simp [*]; omega)); (focus (simp))) | with_reducible refine o_al _ ?_ | (with_reducible apply o_be; with_reducible assumption) | (with_reducible refine o_bn (by with_reducible assumption) ?_ ?_; focus omega))); done)); intro wz hrz hbz hoz hsz; (try simp only [size_al] at hsz)))
        go_ret
        refine ⟨rfl, ?_⟩
        repeat (first | with_reducible assumption | with_reducible exact Below.refl _ _ | with_reducible refine Below.drew ?_ | with_reducible refine below_drewN ?_ _ | with_reducible refine bw_alloc ?_ _ | (with_reducible refine bw_set ?_ ?_ _; focus (dsimp only; omega)) | (with_reducible apply bw_behind; with_reducible assumption) | (with_reducible refine below_behindN (by with_reducible assumption) ?_ ?_; focus omega) | (with_reducible refine below_out (by with_reducible assumption) ?_ ?_; focus omega))

open Go.ChangeShapes Go.WideShapes Go.ChangeAt
theorem walks : Frame.Walks 5 Try.f5 := by
  intro H enc W base args ds ps hval hA
  rw [Try.params5] at hA hval
  obtain ⟨v0, v1, d0, d1, p0, p1, hargs, rfl, rfl, h0, h1⟩ := trodAll_two hA
  obtain rfl : args = #[v0, v1] := by cases args; simp_all
  obtain ⟨l, e0⟩ := open_acts (hval 0 22 v0 rfl rfl) h0
  obtain ⟨x1, rfl, rfl, rfl, w1⟩ := open_int Try.underlying23 (hval 1 23 v1 rfl rfl) h1
  obtain ⟨X1, rfl⟩ := Frame.wf_u64 w1
  exact walk X1 v0 l W e0
set_option maxRecDepth 100000 in
theorem proved : Rows.TlbSetsSaid :=
  OpenClaim.holds_of_wide 5 Try.f5 rfl rfl rfl rfl rfl rfl rfl ⟨rfl, rfl, rfl, rfl, rfl⟩ rfl rfl rfl rfl rfl (by kernel_rfl) Try.func5 (by kernel_rfl)
    (of_decide_eq_true (by kernel_rfl)) (by unfold Func.isWrapper; first | (rw [if_pos (by decide +kernel)]; kernel_rfl) | (rw [if_neg (by decide +kernel)]; exact ⟨rfl, rfl⟩))
    (fun os started H enc _ => Frame.lift os started H enc _ _ Rows.tlbSetsSpec 4 (by kernel_rfl) Try.func5 Try.underlying4 (by kernel_rfl) rfl (by kernel_rfl)
      (fun ds h => by match ds, h with | [_, _], _ => exact ⟨rfl, rfl, rfl⟩)
      (ChangeSpec.witness6 (enc := enc) (C := Try.checked) false ⟨#[], #[.slice none 0 0, .int .u64 0], []⟩ 8 (by kernel_rfl) (by kernel_rfl) (by kernel_rfl) (by kernel_rfl)) walks)
end Go.Proofs.Ytikdoknfcikfgaa.TlbSets
