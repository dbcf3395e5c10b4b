/-
  TagsBytes holds: for every off, n and cut the law returns true and turns nothing that was there.
-/
import Derived.Test.YtpikipfchkhnbaaTag7
import Derived.Test.YtpikipfchkhnbaaLawFrame
namespace Go.Proofs.Ytpikipfchkhnbaa.TagsBytes
open Go.RowKit Words

set_option maxRecDepth 100000 in
set_option maxHeartbeats 40000000 in
theorem walk_y (X Y C O N R K Q A0 A1 A2 A3 B0 B1 B2 B3 D0 D1 D2 D3 E0 E1 E2 E3 : Int) (fa fb fd : Nat → Bool) (c1 : ∀ W, Calls Try.prog 17 #[.int .i64 O, .int .i64 K] W (Makes (.agg #[.int .u64 A0, .int .u64 A1, .int .u64 A2, .int .u64 A3]) W)) (c2 : ∀ W, Calls Try.prog 17 #[.int .i64 (O + K), .int .i64 (N - K)] W (Makes (.agg #[.int .u64 B0, .int .u64 B1, .int .u64 B2, .int .u64 B3]) W)) (c3 : ∀ W, Calls Try.prog 17 #[.int .i64 O, .int .i64 N] W (Makes (.agg #[.int .u64 D0, .int .u64 D1, .int .u64 D2, .int .u64 D3]) W)) (c4 : ∀ W, Calls Try.prog 17 #[.int .i64 O, .int .i64 1] W (Makes (.agg #[.int .u64 E0, .int .u64 E1, .int .u64 E2, .int .u64 E3]) W)) (ga : ∀ k : Nat, k < 256 → ∀ W, Calls Try.prog 11 #[.agg #[.int .u64 A0, .int .u64 A1, .int .u64 A2, .int .u64 A3], .int .i64 (k : Int)] W (Makes (.bool (fa k)) W)) (gb : ∀ k : Nat, k < 256 → ∀ W, Calls Try.prog 11 #[.agg #[.int .u64 B0, .int .u64 B1, .int .u64 B2, .int .u64 B3], .int .i64 (k : Int)] W (Makes (.bool (fb k)) W)) (gd : ∀ k : Nat, k < 256 → ∀ W, Calls Try.prog 11 #[.agg #[.int .u64 D0, .int .u64 D1, .int .u64 D2, .int .u64 D3], .int .i64 (k : Int)] W (Makes (.bool (fd k)) W)) (c5 : ∀ W, Calls Try.prog 9 #[.agg #[.int .u64 E0, .int .u64 E1, .int .u64 E2, .int .u64 E3]] W (Makes (.int .i64 1) W)) (c6 : ∀ W, Calls Try.prog 11 #[.agg #[.int .u64 E0, .int .u64 E1, .int .u64 E2, .int .u64 E3], .int .i64 Q] W (Makes (.bool true) W)) (c7 : ∀ W, Calls Try.prog 10 #[.agg #[.int .u64 D0, .int .u64 D1, .int .u64 D2, .int .u64 D3]] W (Makes (.bool true) W)) (c8 : ∀ W, Calls Try.prog 17 #[.int .i64 4096, .int .i64 5] W (Makes (.agg #[.int .u64 0, .int .u64 0, .int .u64 0, .int .u64 0]) W)) (c9 : ∀ W, Calls Try.prog 10 #[.agg #[.int .u64 0, .int .u64 0, .int .u64 0, .int .u64 0]] W (Makes (.bool false) W)) (c10 : ∀ W, Calls Try.prog 15 #[.agg #[.int .u64 D0, .int .u64 D1, .int .u64 D2, .int .u64 D3], .agg #[.int .u64 D0, .int .u64 D1, .int .u64 D2, .int .u64 D3]] W (Makes (.agg #[.int .u64 0, .int .u64 0, .int .u64 0, .int .u64 0]) W)) (hd : ∀ k : Nat, k < 256 → fd k = (fa k || fb k)) (_hO : bits .and .i64 X 4095 = O) (_hN : bits .and .i64 Y 8191 = N) (_o0 : 0 ≤ O) (_o1 : O < 4096) (_hq : O / 16 = Q) (_hqt : O.tdiv 16 = Q) (_n0 : 0 < N) (_n1 : N < 8192) (_hR : C.tmod N = R) (_r0 : -N < R) (_r1 : R < N) (_hK : (R + N).tmod N = K) (_hK2 : (R + N) % N = K) (_k0 : 0 ≤ K) (_k1 : K < N) (_hn : N ≠ 0) (_hnb : (N == 0) = false) (w : World) :
    Calls Try.prog 5 #[.int .i64 X, .int .i64 Y, .int .i64 C] w (Makes (.bool true) w) := by
  have Cc1 := hide c1
  have Cc2 := hide c2
  have Cc3 := hide c3
  have Cc4 := hide c4
  have Cga := hide ga
  have Cgb := hide gb
  have Cgd := hide gd
  have Cc5 := hide c5
  have Cc6 := hide c6
  have Cc7 := hide c7
  have Cc8 := hide c8
  have Cc9 := hide c9
  have Cc10 := hide c10
  have Chd := hide hd
  clear c1 c2 c3 c4 ga gb gd c5 c6 c7 c8 c9 c10 hd
  have ED := fun W => eqi_arr 0 0 0 0 0 0 0 0 W
  rw [decide_eq_true ⟨rfl, rfl, rfl, rfl⟩] at ED
  have EE : ∀ W, (binOp .eql 24 (.agg #[.int .u64 0, .int .u64 0, .int .u64 0, .int .u64 0]) (.agg #[.int .u64 0, .int .u64 0, .int .u64 0, .int .u64 0])).run Try.prog W = .ok (.bool true) W := fun W => by
    rw [run_eql_struct, ED]
    rfl
  clear ED
  have SS := cell_same
  have LB' := ltB_add
  have LS := ltB_self
  have LA' := alloc_reads
  have LH := alloc_holds
  go_enter Try.func5, Try.ntmps5
  go_upto_region 7 with (first | (go_at_call 17; (with_reducible first | refine (Cc1.out _).mono ?_); rintro e wa ⟨rfl, hba⟩; have hra := below_reads hba; have hha := below_holds hba; obtain ⟨ma, hsa⟩ := below_grew hba) | (go_at_call 17; (with_reducible first | refine (Cc2.out _).mono ?_); rintro e wb ⟨rfl, hbb⟩; have hrb := below_reads hbb; have hhb := below_holds hbb; obtain ⟨mb, hsb⟩ := below_grew hbb) | (go_at_call 17; (with_reducible first | refine (Cc3.out _).mono ?_); rintro e wc ⟨rfl, hbc⟩; have hrc := below_reads hbc; have hhc := below_holds hbc; obtain ⟨mc, hsc⟩ := below_grew hbc))
  refine wp_abs (fun W => Below w.heap.size w W ∧ W.cell? ⟨w.heap.size + ma + mb, 0, none⟩ = some (.int .u64 A0) ∧ W.cell? ⟨w.heap.size + ma + mb, 1, none⟩ = some (.int .u64 A1) ∧ W.cell? ⟨w.heap.size + ma + mb, 2, none⟩ = some (.int .u64 A2) ∧ W.cell? ⟨w.heap.size + ma + mb, 3, none⟩ = some (.int .u64 A3) ∧ W.cell? ⟨w.heap.size + ma + mb + 1, 0, none⟩ = some (.int .u64 B0) ∧ W.cell? ⟨w.heap.size + ma + mb + 1, 1, none⟩ = some (.int .u64 B1) ∧ W.cell? ⟨w.heap.size + ma + mb + 1, 2, none⟩ = some (.int .u64 B2) ∧ W.cell? ⟨w.heap.size + ma + mb + 1, 3, none⟩ = some (.int .u64 B3) ∧ W.cell? ⟨w.heap.size + ma + mb + 1 + 1 + mc, 0, none⟩ = some (.int .u64 D0) ∧ W.cell? ⟨w.heap.size + ma + mb + 1 + 1 + mc, 1, none⟩ = some (.int .u64 D1) ∧ W.cell? ⟨w.heap.size + ma + mb + 1 + 1 + mc, 2, none⟩ = some (.int .u64 D2) ∧ W.cell? ⟨w.heap.size + ma + mb + 1 + 1 + mc, 3, none⟩ = some (.int .u64 D3)) ?_ ?_
  · refine ⟨?_, ?_, ?_, ?_, ?_, ?_, ?_, ?_, ?_, ?_, ?_, ?_, ?_⟩
    all_goals (first | with_reducible assumption | ((repeat (first | with_reducible assumption | with_reducible refine c_dr _ ?_ | with_reducible refine c_d1 ?_ | with_reducible refine c_al _ ?_ | (with_reducible refine c_set ?_ ?_; focus (dsimp only; omega)) | (with_reducible apply c_be; with_reducible assumption))); done) | ((repeat (first | with_reducible assumption | with_reducible refine o_dr _ ?_ | with_reducible refine o_d1 ?_ | with_reducible refine o_set ?_ | (with_reducible refine o_new ?_ ?_; (focus (simp)); (focus (simp))) | with_reducible refine o_al _ ?_ | (with_reducible apply o_be; with_reducible assumption))); done) | ((repeat (first | with_reducible assumption | with_reducible exact Below.refl _ _ | with_reducible refine Below.drew ?_ | with_reducible refine below_drewN ?_ _ | with_reducible refine bw_alloc ?_ _ | (with_reducible refine bw_set ?_ ?_ _; focus (dsimp only; omega)) | (with_reducible apply bw_behind; with_reducible assumption))); done) | (simp [go_sem, *]; omega) | (simp (maxDischargeDepth := 4) [go_sem, *]; done))
  rintro w3 ⟨hB3, p0, p1, p2, p3, p4, p5, p6, p7, p8, p9, p10, p11⟩
  clear hra hha hsa hrb hhb hrc hhc hsb hsc hbb hbc
  generalize w.heap.size + ma + mb + 1 + 1 + mc = n10 at *
  generalize w.heap.size + ma + mb = n8 at *
  go_wp2_with fail
  go_loopw [11] (fun i wr => ∃ k : Nat, k ≤ 256 ∧ i = .int .i64 (k : Int) ∧ Below w3.heap.size w3 wr) (fun i _ => 256 - (intOf i).toNat)
  case atStart =>
    refine ⟨0, by omega, rfl, ?_⟩
    repeat (first | with_reducible assumption | with_reducible exact Below.refl _ _ | with_reducible refine Below.drew ?_ | with_reducible refine below_drewN ?_ _ | with_reducible refine bw_alloc ?_ _ | (with_reducible refine bw_set ?_ ?_ _; focus (dsimp only; omega)) | (with_reducible apply bw_behind; with_reducible assumption))
  case round =>
    obtain ⟨k, hk, rfl, hB⟩ := hrel
    have q0 := c_be hB p0
    have q1 := c_be hB p1
    have q2 := c_be hB p2
    have q3 := c_be hB p3
    have q4 := c_be hB p4
    have q5 := c_be hB p5
    have q6 := c_be hB p6
    have q7 := c_be hB p7
    have q8 := c_be hB p8
    have q9 := c_be hB p9
    have q10 := c_be hB p10
    have q11 := c_be hB p11
    by_cases h2 : k < 256
    · have ga := Cga.out k h2
      have gb := Cgb.out k h2
      have gd := Cgd.out k h2
      have hd := Chd.out k h2
      generalize fa k = a at *
      generalize fb k = b at *
      generalize fd k = d at *
      subst hd
      cases a with
      | true =>
        have Ga := hide ga
        have Gd := hide gd
        clear ga gb gd
        go_upto_region 10 with fail
        refine wp_abs (fun W => Below w3.heap.size w3 W ∧ W.cell? ⟨n8, 0, none⟩ = some (.int .u64 A0) ∧ W.cell? ⟨n8, 1, none⟩ = some (.int .u64 A1) ∧ W.cell? ⟨n8, 2, none⟩ = some (.int .u64 A2) ∧ W.cell? ⟨n8, 3, none⟩ = some (.int .u64 A3) ∧ W.cell? ⟨n8 + 1, 0, none⟩ = some (.int .u64 B0) ∧ W.cell? ⟨n8 + 1, 1, none⟩ = some (.int .u64 B1) ∧ W.cell? ⟨n8 + 1, 2, none⟩ = some (.int .u64 B2) ∧ W.cell? ⟨n8 + 1, 3, none⟩ = some (.int .u64 B3) ∧ W.cell? ⟨n10, 0, none⟩ = some (.int .u64 D0) ∧ W.cell? ⟨n10, 1, none⟩ = some (.int .u64 D1) ∧ W.cell? ⟨n10, 2, none⟩ = some (.int .u64 D2) ∧ W.cell? ⟨n10, 3, none⟩ = some (.int .u64 D3)) ?_ ?_
        · refine ⟨?_, ?_, ?_, ?_, ?_, ?_, ?_, ?_, ?_, ?_, ?_, ?_, ?_⟩
          all_goals (first | with_reducible assumption | ((repeat (first | with_reducible assumption | with_reducible refine c_dr _ ?_ | with_reducible refine c_d1 ?_ | with_reducible refine c_al _ ?_ | (with_reducible refine c_set ?_ ?_; focus (dsimp only; omega)) | (with_reducible apply c_be; with_reducible assumption))); done) | ((repeat (first | with_reducible assumption | with_reducible refine o_dr _ ?_ | with_reducible refine o_d1 ?_ | with_reducible refine o_set ?_ | (with_reducible refine o_new ?_ ?_; (focus (simp)); (focus (simp))) | with_reducible refine o_al _ ?_ | (with_reducible apply o_be; with_reducible assumption))); done) | ((repeat (first | with_reducible assumption | with_reducible exact Below.refl _ _ | with_reducible refine Below.drew ?_ | with_reducible refine below_drewN ?_ _ | with_reducible refine bw_alloc ?_ _ | (with_reducible refine bw_set ?_ ?_ _; focus (dsimp only; omega)) | (with_reducible apply bw_behind; with_reducible assumption))); done) | (simp [go_sem, *]; omega) | (simp (maxDischargeDepth := 4) [go_sem, *]; done))
        rintro w0r ⟨hB0r, cr0, cr1, cr2, cr3, cr4, cr5, cr6, cr7, cr8, cr9, cr10, cr11⟩
        have yr0 := behind_cell0 cr0
        have yr1 := behind_cell0 cr1
        have yr2 := behind_cell0 cr2
        have yr3 := behind_cell0 cr3
        have yr4 := behind_cell0 cr4
        have yr5 := behind_cell0 cr5
        have yr6 := behind_cell0 cr6
        have yr7 := behind_cell0 cr7
        have yr8 := behind_cell0 cr8
        have yr9 := behind_cell0 cr9
        have yr10 := behind_cell0 cr10
        have yr11 := behind_cell0 cr11
        have hsome := Behind.any w0r
        clear cr0 cr1 cr2 cr3 cr4 cr5 cr6 cr7 cr8 cr9 cr10 cr11
        refine wp_region_behind w0r (by kernel_rfl) (by kernel_rfl) (Below.refl _ _) ?_
        repeat (go_big_quiet_step (first | (go_at_call 11; with_reducible first | exact behind_one Gd.out _ | exact behind_one Ga.out _)))
        refine wpQuiet_nil ?_
        rintro _ ⟨y, rfl⟩
        have hBy := bw_behind y.below hB0r
        have xr0 := yr0 y
        have xr1 := yr1 y
        have xr2 := yr2 y
        have xr3 := yr3 y
        have xr4 := yr4 y
        have xr5 := yr5 y
        have xr6 := yr6 y
        have xr7 := yr7 y
        have xr8 := yr8 y
        have xr9 := yr9 y
        have xr10 := yr10 y
        have xr11 := yr11 y
        clear hsome yr0 yr1 yr2 yr3 yr4 yr5 yr6 yr7 yr8 yr9 yr10 yr11
        obtain ⟨w1r, hw1⟩ : ∃ W, W = y.world := ⟨_, rfl⟩
        rw [← hw1] at hBy xr0 xr1 xr2 xr3 xr4 xr5 xr6 xr7 xr8 xr9 xr10 xr11 ⊢
        clear hw1 y hB0r
        go_wp2_with fail
        go_roundw
        case rel =>
          refine ⟨k + 1, by omega, by go_num, ?_⟩
          repeat (first | with_reducible assumption | with_reducible exact Below.refl _ _ | with_reducible refine Below.drew ?_ | with_reducible refine below_drewN ?_ _ | with_reducible refine bw_alloc ?_ _ | (with_reducible refine bw_set ?_ ?_ _; focus (dsimp only; omega)) | (with_reducible apply bw_behind; with_reducible assumption))
        case measure => simp [intOf]; omega
      | false =>
        cases b with
        | true =>
          have Ga := hide ga
          have Gb := hide gb
          have Gd := hide gd
          clear ga gb gd
          go_upto_region 10 with fail
          refine wp_abs (fun W => Below w3.heap.size w3 W ∧ W.cell? ⟨n8, 0, none⟩ = some (.int .u64 A0) ∧ W.cell? ⟨n8, 1, none⟩ = some (.int .u64 A1) ∧ W.cell? ⟨n8, 2, none⟩ = some (.int .u64 A2) ∧ W.cell? ⟨n8, 3, none⟩ = some (.int .u64 A3) ∧ W.cell? ⟨n8 + 1, 0, none⟩ = some (.int .u64 B0) ∧ W.cell? ⟨n8 + 1, 1, none⟩ = some (.int .u64 B1) ∧ W.cell? ⟨n8 + 1, 2, none⟩ = some (.int .u64 B2) ∧ W.cell? ⟨n8 + 1, 3, none⟩ = some (.int .u64 B3) ∧ W.cell? ⟨n10, 0, none⟩ = some (.int .u64 D0) ∧ W.cell? ⟨n10, 1, none⟩ = some (.int .u64 D1) ∧ W.cell? ⟨n10, 2, none⟩ = some (.int .u64 D2) ∧ W.cell? ⟨n10, 3, none⟩ = some (.int .u64 D3)) ?_ ?_
          · refine ⟨?_, ?_, ?_, ?_, ?_, ?_, ?_, ?_, ?_, ?_, ?_, ?_, ?_⟩
            all_goals (first | with_reducible assumption | ((repeat (first | with_reducible assumption | with_reducible refine c_dr _ ?_ | with_reducible refine c_d1 ?_ | with_reducible refine c_al _ ?_ | (with_reducible refine c_set ?_ ?_; focus (dsimp only; omega)) | (with_reducible apply c_be; with_reducible assumption))); done) | ((repeat (first | with_reducible assumption | with_reducible refine o_dr _ ?_ | with_reducible refine o_d1 ?_ | with_reducible refine o_set ?_ | (with_reducible refine o_new ?_ ?_; (focus (simp)); (focus (simp))) | with_reducible refine o_al _ ?_ | (with_reducible apply o_be; with_reducible assumption))); done) | ((repeat (first | with_reducible assumption | with_reducible exact Below.refl _ _ | with_reducible refine Below.drew ?_ | with_reducible refine below_drewN ?_ _ | with_reducible refine bw_alloc ?_ _ | (with_reducible refine bw_set ?_ ?_ _; focus (dsimp only; omega)) | (with_reducible apply bw_behind; with_reducible assumption))); done) | (simp [go_sem, *]; omega) | (simp (maxDischargeDepth := 4) [go_sem, *]; done))
          rintro w0r ⟨hB0r, cr0, cr1, cr2, cr3, cr4, cr5, cr6, cr7, cr8, cr9, cr10, cr11⟩
          have yr0 := behind_cell0 cr0
          have yr1 := behind_cell0 cr1
          have yr2 := behind_cell0 cr2
          have yr3 := behind_cell0 cr3
          have yr4 := behind_cell0 cr4
          have yr5 := behind_cell0 cr5
          have yr6 := behind_cell0 cr6
          have yr7 := behind_cell0 cr7
          have yr8 := behind_cell0 cr8
          have yr9 := behind_cell0 cr9
          have yr10 := behind_cell0 cr10
          have yr11 := behind_cell0 cr11
          have hsome := Behind.any w0r
          clear cr0 cr1 cr2 cr3 cr4 cr5 cr6 cr7 cr8 cr9 cr10 cr11
          refine wp_region_behind w0r (by kernel_rfl) (by kernel_rfl) (Below.refl _ _) ?_
          repeat (go_big_quiet_step (first | (go_at_call 11; with_reducible first | exact behind_one Gd.out _ | exact behind_one Ga.out _ | exact behind_one Gb.out _)))
          refine wpQuiet_nil ?_
          rintro _ ⟨y, rfl⟩
          have hBy := bw_behind y.below hB0r
          have xr0 := yr0 y
          have xr1 := yr1 y
          have xr2 := yr2 y
          have xr3 := yr3 y
          have xr4 := yr4 y
          have xr5 := yr5 y
          have xr6 := yr6 y
          have xr7 := yr7 y
          have xr8 := yr8 y
          have xr9 := yr9 y
          have xr10 := yr10 y
          have xr11 := yr11 y
          clear hsome yr0 yr1 yr2 yr3 yr4 yr5 yr6 yr7 yr8 yr9 yr10 yr11
          obtain ⟨w1r, hw1⟩ : ∃ W, W = y.world := ⟨_, rfl⟩
          rw [← hw1] at hBy xr0 xr1 xr2 xr3 xr4 xr5 xr6 xr7 xr8 xr9 xr10 xr11 ⊢
          clear hw1 y hB0r
          go_wp2_with fail
          go_roundw
          case rel =>
            refine ⟨k + 1, by omega, by go_num, ?_⟩
            repeat (first | with_reducible assumption | with_reducible exact Below.refl _ _ | with_reducible refine Below.drew ?_ | with_reducible refine below_drewN ?_ _ | with_reducible refine bw_alloc ?_ _ | (with_reducible refine bw_set ?_ ?_ _; focus (dsimp only; omega)) | (with_reducible apply bw_behind; with_reducible assumption))
          case measure => simp [intOf]; omega
        | false =>
          have Ga := hide ga
          have Gb := hide gb
          have Gd := hide gd
          clear ga gb gd
          go_upto_region 10 with fail
          refine wp_abs (fun W => Below w3.heap.size w3 W ∧ W.cell? ⟨n8, 0, none⟩ = some (.int .u64 A0) ∧ W.cell? ⟨n8, 1, none⟩ = some (.int .u64 A1) ∧ W.cell? ⟨n8, 2, none⟩ = some (.int .u64 A2) ∧ W.cell? ⟨n8, 3, none⟩ = some (.int .u64 A3) ∧ W.cell? ⟨n8 + 1, 0, none⟩ = some (.int .u64 B0) ∧ W.cell? ⟨n8 + 1, 1, none⟩ = some (.int .u64 B1) ∧ W.cell? ⟨n8 + 1, 2, none⟩ = some (.int .u64 B2) ∧ W.cell? ⟨n8 + 1, 3, none⟩ = some (.int .u64 B3) ∧ W.cell? ⟨n10, 0, none⟩ = some (.int .u64 D0) ∧ W.cell? ⟨n10, 1, none⟩ = some (.int .u64 D1) ∧ W.cell? ⟨n10, 2, none⟩ = some (.int .u64 D2) ∧ W.cell? ⟨n10, 3, none⟩ = some (.int .u64 D3)) ?_ ?_
          · refine ⟨?_, ?_, ?_, ?_, ?_, ?_, ?_, ?_, ?_, ?_, ?_, ?_, ?_⟩
            all_goals (first | with_reducible assumption | ((repeat (first | with_reducible assumption | with_reducible refine c_dr _ ?_ | with_reducible refine c_d1 ?_ | with_reducible refine c_al _ ?_ | (with_reducible refine c_set ?_ ?_; focus (dsimp only; omega)) | (with_reducible apply c_be; with_reducible assumption))); done) | ((repeat (first | with_reducible assumption | with_reducible refine o_dr _ ?_ | with_reducible refine o_d1 ?_ | with_reducible refine o_set ?_ | (with_reducible refine o_new ?_ ?_; (focus (simp)); (focus (simp))) | with_reducible refine o_al _ ?_ | (with_reducible apply o_be; with_reducible assumption))); done) | ((repeat (first | with_reducible assumption | with_reducible exact Below.refl _ _ | with_reducible refine Below.drew ?_ | with_reducible refine below_drewN ?_ _ | with_reducible refine bw_alloc ?_ _ | (with_reducible refine bw_set ?_ ?_ _; focus (dsimp only; omega)) | (with_reducible apply bw_behind; with_reducible assumption))); done) | (simp [go_sem, *]; omega) | (simp (maxDischargeDepth := 4) [go_sem, *]; done))
          rintro w0r ⟨hB0r, cr0, cr1, cr2, cr3, cr4, cr5, cr6, cr7, cr8, cr9, cr10, cr11⟩
          have yr0 := behind_cell0 cr0
          have yr1 := behind_cell0 cr1
          have yr2 := behind_cell0 cr2
          have yr3 := behind_cell0 cr3
          have yr4 := behind_cell0 cr4
          have yr5 := behind_cell0 cr5
          have yr6 := behind_cell0 cr6
          have yr7 := behind_cell0 cr7
          have yr8 := behind_cell0 cr8
          have yr9 := behind_cell0 cr9
          have yr10 := behind_cell0 cr10
          have yr11 := behind_cell0 cr11
          have hsome := Behind.any w0r
          clear cr0 cr1 cr2 cr3 cr4 cr5 cr6 cr7 cr8 cr9 cr10 cr11
          refine wp_region_behind w0r (by kernel_rfl) (by kernel_rfl) (Below.refl _ _) ?_
          repeat (go_big_quiet_step (first | (go_at_call 11; with_reducible first | exact behind_one Gd.out _ | exact behind_one Ga.out _ | exact behind_one Gb.out _)))
          refine wpQuiet_nil ?_
          rintro _ ⟨y, rfl⟩
          have hBy := bw_behind y.below hB0r
          have xr0 := yr0 y
          have xr1 := yr1 y
          have xr2 := yr2 y
          have xr3 := yr3 y
          have xr4 := yr4 y
          have xr5 := yr5 y
          have xr6 := yr6 y
          have xr7 := yr7 y
          have xr8 := yr8 y
          have xr9 := yr9 y
          have xr10 := yr10 y
          have xr11 := yr11 y
          clear hsome yr0 yr1 yr2 yr3 yr4 yr5 yr6 yr7 yr8 yr9 yr10 yr11
          obtain ⟨w1r, hw1⟩ : ∃ W, W = y.world := ⟨_, rfl⟩
          rw [← hw1] at hBy xr0 xr1 xr2 xr3 xr4 xr5 xr6 xr7 xr8 xr9 xr10 xr11 ⊢
          clear hw1 y hB0r
          go_wp2_with fail
          go_roundw
          case rel =>
            refine ⟨k + 1, by omega, by go_num, ?_⟩
            repeat (first | with_reducible assumption | with_reducible exact Below.refl _ _ | with_reducible refine Below.drew ?_ | with_reducible refine below_drewN ?_ _ | with_reducible refine bw_alloc ?_ _ | (with_reducible refine bw_set ?_ ?_ _; focus (dsimp only; omega)) | (with_reducible apply bw_behind; with_reducible assumption))
          case measure => simp [intOf]; omega
    · obtain rfl : k = 256 := by omega
      have hl : ltB n10 wr.heap.size = true := by unfold ltB; simpa using World.block_lt_of_cell? _ _ q8
      have hlt : n10 < wr.heap.size := World.block_lt_of_cell? _ _ q8
      clear q0 q1 q2 q3 q4 q5 q6 q7 p0 p1 p2 p3 p4 p5 p6 p7
      go_wp2_with (first | (go_at_call 17; (with_reducible first | refine (Cc4.out _).mono ?_); rintro e we ⟨rfl, hbe⟩; have hre := below_reads hbe; have hhe := below_holds hbe; obtain ⟨me, hse⟩ := below_grew hbe) | (go_at_call 9; (with_reducible first | refine (Cc5.out _).mono ?_); rintro e wf ⟨rfl, hbf⟩; have hrf := below_reads hbf; have hhf := below_holds hbf; obtain ⟨mf, hsf⟩ := below_grew hbf) | (go_at_call 11; (with_reducible first | refine (Cc6.out _).mono ?_); rintro e wg ⟨rfl, hbg⟩; have hrg := below_reads hbg; have hhg := below_holds hbg; obtain ⟨mg, hsg⟩ := below_grew hbg) | (go_at_call 10; (with_reducible first | refine (Cc7.out _).mono ?_); rintro e wi ⟨rfl, hbi⟩; have hri := below_reads hbi; have hhi := below_holds hbi; obtain ⟨mi, hsi⟩ := below_grew hbi) | (go_at_call 10; (with_reducible first | refine (Cc9.out _).mono ?_); rintro e wj ⟨rfl, hbj⟩; have hrj := below_reads hbj; have hhj := below_holds hbj; obtain ⟨mj, hsj⟩ := below_grew hbj) | (go_at_call 17; (with_reducible first | refine (Cc8.out _).mono ?_); rintro e wl ⟨rfl, hbl⟩; have hrl := below_reads hbl; have hhl := below_holds hbl; obtain ⟨ml, hsl⟩ := below_grew hbl) | (go_at_call 15; (with_reducible first | refine (Cc10.out _).mono ?_); rintro e wm ⟨rfl, hbm⟩; have hrm := below_reads hbm; have hhm := below_holds hbm; obtain ⟨mm, hsm⟩ := below_grew hbm))
      refine bodyPost_ret (v := .bool true) (by simp (maxDischargeDepth := 4) [results, Try.results5, go_sem, *]) rfl ?_
      refine ⟨rfl, ?_⟩
      repeat (first | with_reducible assumption | with_reducible exact Below.refl _ _ | with_reducible refine Below.drew ?_ | with_reducible refine below_drewN ?_ _ | with_reducible refine bw_alloc ?_ _ | (with_reducible refine bw_set ?_ ?_ _; focus (dsimp only; omega)) | (with_reducible apply bw_behind; with_reducible assumption))

set_option maxRecDepth 100000 in
set_option maxHeartbeats 40000000 in
theorem walk_0 (X Y C O Q A0 A1 A2 A3 E0 E1 E2 E3 : Int) (fa : Nat → Bool) (c1 : ∀ W, Calls Try.prog 17 #[.int .i64 O, .int .i64 0] W (Makes (.agg #[.int .u64 A0, .int .u64 A1, .int .u64 A2, .int .u64 A3]) W)) (c4 : ∀ W, Calls Try.prog 17 #[.int .i64 O, .int .i64 1] W (Makes (.agg #[.int .u64 E0, .int .u64 E1, .int .u64 E2, .int .u64 E3]) W)) (ga : ∀ k : Nat, k < 256 → ∀ W, Calls Try.prog 11 #[.agg #[.int .u64 A0, .int .u64 A1, .int .u64 A2, .int .u64 A3], .int .i64 (k : Int)] W (Makes (.bool (fa k)) W)) (c5 : ∀ W, Calls Try.prog 9 #[.agg #[.int .u64 E0, .int .u64 E1, .int .u64 E2, .int .u64 E3]] W (Makes (.int .i64 1) W)) (c6 : ∀ W, Calls Try.prog 11 #[.agg #[.int .u64 E0, .int .u64 E1, .int .u64 E2, .int .u64 E3], .int .i64 Q] W (Makes (.bool true) W)) (c7 : ∀ W, Calls Try.prog 10 #[.agg #[.int .u64 A0, .int .u64 A1, .int .u64 A2, .int .u64 A3]] W (Makes (.bool false) W)) (c8 : ∀ W, Calls Try.prog 17 #[.int .i64 4096, .int .i64 5] W (Makes (.agg #[.int .u64 0, .int .u64 0, .int .u64 0, .int .u64 0]) W)) (c9 : ∀ W, Calls Try.prog 10 #[.agg #[.int .u64 0, .int .u64 0, .int .u64 0, .int .u64 0]] W (Makes (.bool false) W)) (c10 : ∀ W, Calls Try.prog 15 #[.agg #[.int .u64 A0, .int .u64 A1, .int .u64 A2, .int .u64 A3], .agg #[.int .u64 A0, .int .u64 A1, .int .u64 A2, .int .u64 A3]] W (Makes (.agg #[.int .u64 0, .int .u64 0, .int .u64 0, .int .u64 0]) W)) (_hO : bits .and .i64 X 4095 = O) (_hN : bits .and .i64 Y 8191 = 0) (_o0 : 0 ≤ O) (_o1 : O < 4096) (_hq : O / 16 = Q) (_hqt : O.tdiv 16 = Q) (w : World) :
    Calls Try.prog 5 #[.int .i64 X, .int .i64 Y, .int .i64 C] w (Makes (.bool true) w) := by
  have Cc1 := hide c1
  have Cc4 := hide c4
  have Cga := hide ga
  have Cc5 := hide c5
  have Cc6 := hide c6
  have Cc7 := hide c7
  have Cc8 := hide c8
  have Cc9 := hide c9
  have Cc10 := hide c10
  clear c1 c4 ga c5 c6 c7 c8 c9 c10
  have ED := fun W => eqi_arr 0 0 0 0 0 0 0 0 W
  rw [decide_eq_true ⟨rfl, rfl, rfl, rfl⟩] at ED
  have EE : ∀ W, (binOp .eql 24 (.agg #[.int .u64 0, .int .u64 0, .int .u64 0, .int .u64 0]) (.agg #[.int .u64 0, .int .u64 0, .int .u64 0, .int .u64 0])).run Try.prog W = .ok (.bool true) W := fun W => by
    rw [run_eql_struct, ED]
    rfl
  clear ED
  have SS := cell_same
  have LB' := ltB_add
  have LS := ltB_self
  have LA' := alloc_reads
  have LH := alloc_holds
  go_enter Try.func5, Try.ntmps5
  go_upto_region 7 with (first | (go_at_call 17; (with_reducible first | refine (Cc1.out _).mono ?_); (have _t := hbb; clear _t); rintro e wc ⟨rfl, hbc⟩; have hrc := below_reads hbc; have hhc := below_holds hbc; obtain ⟨mc, hsc⟩ := below_grew hbc) | (go_at_call 17; (with_reducible first | refine (Cc1.out _).mono ?_); (have _t := hba; clear _t); rintro e wb ⟨rfl, hbb⟩; have hrb := below_reads hbb; have hhb := below_holds hbb; obtain ⟨mb, hsb⟩ := below_grew hbb) | (go_at_call 17; (with_reducible first | refine (Cc1.out _).mono ?_); rintro e wa ⟨rfl, hba⟩; have hra := below_reads hba; have hha := below_holds hba; obtain ⟨ma, hsa⟩ := below_grew hba))
  refine wp_abs (fun W => Below w.heap.size w W ∧ W.cell? ⟨w.heap.size + ma + mb, 0, none⟩ = some (.int .u64 A0) ∧ W.cell? ⟨w.heap.size + ma + mb, 1, none⟩ = some (.int .u64 A1) ∧ W.cell? ⟨w.heap.size + ma + mb, 2, none⟩ = some (.int .u64 A2) ∧ W.cell? ⟨w.heap.size + ma + mb, 3, none⟩ = some (.int .u64 A3) ∧ W.cell? ⟨w.heap.size + ma + mb + 1, 0, none⟩ = some (.int .u64 A0) ∧ W.cell? ⟨w.heap.size + ma + mb + 1, 1, none⟩ = some (.int .u64 A1) ∧ W.cell? ⟨w.heap.size + ma + mb + 1, 2, none⟩ = some (.int .u64 A2) ∧ W.cell? ⟨w.heap.size + ma + mb + 1, 3, none⟩ = some (.int .u64 A3) ∧ W.cell? ⟨w.heap.size + ma + mb + 1 + 1 + mc, 0, none⟩ = some (.int .u64 A0) ∧ W.cell? ⟨w.heap.size + ma + mb + 1 + 1 + mc, 1, none⟩ = some (.int .u64 A1) ∧ W.cell? ⟨w.heap.size + ma + mb + 1 + 1 + mc, 2, none⟩ = some (.int .u64 A2) ∧ W.cell? ⟨w.heap.size + ma + mb + 1 + 1 + mc, 3, none⟩ = some (.int .u64 A3)) ?_ ?_
  · refine ⟨?_, ?_, ?_, ?_, ?_, ?_, ?_, ?_, ?_, ?_, ?_, ?_, ?_⟩
    all_goals (first | with_reducible assumption | ((repeat (first | with_reducible assumption | with_reducible refine c_dr _ ?_ | with_reducible refine c_d1 ?_ | with_reducible refine c_al _ ?_ | (with_reducible refine c_set ?_ ?_; focus (dsimp only; omega)) | (with_reducible apply c_be; with_reducible assumption))); done) | ((repeat (first | with_reducible assumption | with_reducible refine o_dr _ ?_ | with_reducible refine o_d1 ?_ | with_reducible refine o_set ?_ | (with_reducible refine o_new ?_ ?_; (focus (simp)); (focus (simp))) | with_reducible refine o_al _ ?_ | (with_reducible apply o_be; with_reducible assumption))); done) | ((repeat (first | with_reducible assumption | with_reducible exact Below.refl _ _ | with_reducible refine Below.drew ?_ | with_reducible refine below_drewN ?_ _ | with_reducible refine bw_alloc ?_ _ | (with_reducible refine bw_set ?_ ?_ _; focus (dsimp only; omega)) | (with_reducible apply bw_behind; with_reducible assumption))); done) | (simp [go_sem, *]; omega) | (simp (maxDischargeDepth := 4) [go_sem, *]; done))
  rintro w3 ⟨hB3, p0, p1, p2, p3, p4, p5, p6, p7, p8, p9, p10, p11⟩
  clear hra hha hsa hrb hhb hrc hhc hsb hsc hbb hbc
  generalize w.heap.size + ma + mb + 1 + 1 + mc = n10 at *
  generalize w.heap.size + ma + mb = n8 at *
  go_wp2_with fail
  go_loopw [11] (fun i wr => ∃ k : Nat, k ≤ 256 ∧ i = .int .i64 (k : Int) ∧ Below w3.heap.size w3 wr) (fun i _ => 256 - (intOf i).toNat)
  case atStart =>
    refine ⟨0, by omega, rfl, ?_⟩
    repeat (first | with_reducible assumption | with_reducible exact Below.refl _ _ | with_reducible refine Below.drew ?_ | with_reducible refine below_drewN ?_ _ | with_reducible refine bw_alloc ?_ _ | (with_reducible refine bw_set ?_ ?_ _; focus (dsimp only; omega)) | (with_reducible apply bw_behind; with_reducible assumption))
  case round =>
    obtain ⟨k, hk, rfl, hB⟩ := hrel
    have q0 := c_be hB p0
    have q1 := c_be hB p1
    have q2 := c_be hB p2
    have q3 := c_be hB p3
    have q4 := c_be hB p4
    have q5 := c_be hB p5
    have q6 := c_be hB p6
    have q7 := c_be hB p7
    have q8 := c_be hB p8
    have q9 := c_be hB p9
    have q10 := c_be hB p10
    have q11 := c_be hB p11
    by_cases h2 : k < 256
    · have ga := Cga.out k h2
      generalize fa k = a at *
      cases a with
      | true =>
        have Ga := hide ga
        clear ga
        go_upto_region 10 with fail
        refine wp_abs (fun W => Below w3.heap.size w3 W ∧ W.cell? ⟨n8, 0, none⟩ = some (.int .u64 A0) ∧ W.cell? ⟨n8, 1, none⟩ = some (.int .u64 A1) ∧ W.cell? ⟨n8, 2, none⟩ = some (.int .u64 A2) ∧ W.cell? ⟨n8, 3, none⟩ = some (.int .u64 A3) ∧ W.cell? ⟨n8 + 1, 0, none⟩ = some (.int .u64 A0) ∧ W.cell? ⟨n8 + 1, 1, none⟩ = some (.int .u64 A1) ∧ W.cell? ⟨n8 + 1, 2, none⟩ = some (.int .u64 A2) ∧ W.cell? ⟨n8 + 1, 3, none⟩ = some (.int .u64 A3) ∧ W.cell? ⟨n10, 0, none⟩ = some (.int .u64 A0) ∧ W.cell? ⟨n10, 1, none⟩ = some (.int .u64 A1) ∧ W.cell? ⟨n10, 2, none⟩ = some (.int .u64 A2) ∧ W.cell? ⟨n10, 3, none⟩ = some (.int .u64 A3)) ?_ ?_
        · refine ⟨?_, ?_, ?_, ?_, ?_, ?_, ?_, ?_, ?_, ?_, ?_, ?_, ?_⟩
          all_goals (first | with_reducible assumption | ((repeat (first | with_reducible assumption | with_reducible refine c_dr _ ?_ | with_reducible refine c_d1 ?_ | with_reducible refine c_al _ ?_ | (with_reducible refine c_set ?_ ?_; focus (dsimp only; omega)) | (with_reducible apply c_be; with_reducible assumption))); done) | ((repeat (first | with_reducible assumption | with_reducible refine o_dr _ ?_ | with_reducible refine o_d1 ?_ | with_reducible refine o_set ?_ | (with_reducible refine o_new ?_ ?_; (focus (simp)); (focus (simp))) | with_reducible refine o_al _ ?_ | (with_reducible apply o_be; with_reducible assumption))); done) | ((repeat (first | with_reducible assumption | with_reducible exact Below.refl _ _ | with_reducible refine Below.drew ?_ | with_reducible refine below_drewN ?_ _ | with_reducible refine bw_alloc ?_ _ | (with_reducible refine bw_set ?_ ?_ _; focus (dsimp only; omega)) | (with_reducible apply bw_behind; with_reducible assumption))); done) | (simp [go_sem, *]; omega) | (simp (maxDischargeDepth := 4) [go_sem, *]; done))
        rintro w0r ⟨hB0r, cr0, cr1, cr2, cr3, cr4, cr5, cr6, cr7, cr8, cr9, cr10, cr11⟩
        have yr0 := behind_cell0 cr0
        have yr1 := behind_cell0 cr1
        have yr2 := behind_cell0 cr2
        have yr3 := behind_cell0 cr3
        have yr4 := behind_cell0 cr4
        have yr5 := behind_cell0 cr5
        have yr6 := behind_cell0 cr6
        have yr7 := behind_cell0 cr7
        have yr8 := behind_cell0 cr8
        have yr9 := behind_cell0 cr9
        have yr10 := behind_cell0 cr10
        have yr11 := behind_cell0 cr11
        have hsome := Behind.any w0r
        clear cr0 cr1 cr2 cr3 cr4 cr5 cr6 cr7 cr8 cr9 cr10 cr11
        refine wp_region_behind w0r (by kernel_rfl) (by kernel_rfl) (Below.refl _ _) ?_
        repeat (go_big_quiet_step (first | (go_at_call 11; with_reducible first | exact behind_one Ga.out _)))
        refine wpQuiet_nil ?_
        rintro _ ⟨y, rfl⟩
        have hBy := bw_behind y.below hB0r
        have xr0 := yr0 y
        have xr1 := yr1 y
        have xr2 := yr2 y
        have xr3 := yr3 y
        have xr4 := yr4 y
        have xr5 := yr5 y
        have xr6 := yr6 y
        have xr7 := yr7 y
        have xr8 := yr8 y
        have xr9 := yr9 y
        have xr10 := yr10 y
        have xr11 := yr11 y
        clear hsome yr0 yr1 yr2 yr3 yr4 yr5 yr6 yr7 yr8 yr9 yr10 yr11
        obtain ⟨w1r, hw1⟩ : ∃ W, W = y.world := ⟨_, rfl⟩
        rw [← hw1] at hBy xr0 xr1 xr2 xr3 xr4 xr5 xr6 xr7 xr8 xr9 xr10 xr11 ⊢
        clear hw1 y hB0r
        go_wp2_with fail
        go_roundw
        case rel =>
          refine ⟨k + 1, by omega, by go_num, ?_⟩
          repeat (first | with_reducible assumption | with_reducible exact Below.refl _ _ | with_reducible refine Below.drew ?_ | with_reducible refine below_drewN ?_ _ | with_reducible refine bw_alloc ?_ _ | (with_reducible refine bw_set ?_ ?_ _; focus (dsimp only; omega)) | (with_reducible apply bw_behind; with_reducible assumption))
        case measure => simp [intOf]; omega
      | false =>
        have Ga := hide ga
        clear ga
        go_upto_region 10 with fail
        refine wp_abs (fun W => Below w3.heap.size w3 W ∧ W.cell? ⟨n8, 0, none⟩ = some (.int .u64 A0) ∧ W.cell? ⟨n8, 1, none⟩ = some (.int .u64 A1) ∧ W.cell? ⟨n8, 2, none⟩ = some (.int .u64 A2) ∧ W.cell? ⟨n8, 3, none⟩ = some (.int .u64 A3) ∧ W.cell? ⟨n8 + 1, 0, none⟩ = some (.int .u64 A0) ∧ W.cell? ⟨n8 + 1, 1, none⟩ = some (.int .u64 A1) ∧ W.cell? ⟨n8 + 1, 2, none⟩ = some (.int .u64 A2) ∧ W.cell? ⟨n8 + 1, 3, none⟩ = some (.int .u64 A3) ∧ W.cell? ⟨n10, 0, none⟩ = some (.int .u64 A0) ∧ W.cell? ⟨n10, 1, none⟩ = some (.int .u64 A1) ∧ W.cell? ⟨n10, 2, none⟩ = some (.int .u64 A2) ∧ W.cell? ⟨n10, 3, none⟩ = some (.int .u64 A3)) ?_ ?_
        · refine ⟨?_, ?_, ?_, ?_, ?_, ?_, ?_, ?_, ?_, ?_, ?_, ?_, ?_⟩
          all_goals (first | with_reducible assumption | ((repeat (first | with_reducible assumption | with_reducible refine c_dr _ ?_ | with_reducible refine c_d1 ?_ | with_reducible refine c_al _ ?_ | (with_reducible refine c_set ?_ ?_; focus (dsimp only; omega)) | (with_reducible apply c_be; with_reducible assumption))); done) | ((repeat (first | with_reducible assumption | with_reducible refine o_dr _ ?_ | with_reducible refine o_d1 ?_ | with_reducible refine o_set ?_ | (with_reducible refine o_new ?_ ?_; (focus (simp)); (focus (simp))) | with_reducible refine o_al _ ?_ | (with_reducible apply o_be; with_reducible assumption))); done) | ((repeat (first | with_reducible assumption | with_reducible exact Below.refl _ _ | with_reducible refine Below.drew ?_ | with_reducible refine below_drewN ?_ _ | with_reducible refine bw_alloc ?_ _ | (with_reducible refine bw_set ?_ ?_ _; focus (dsimp only; omega)) | (with_reducible apply bw_behind; with_reducible assumption))); done) | (simp [go_sem, *]; omega) | (simp (maxDischargeDepth := 4) [go_sem, *]; done))
        rintro w0r ⟨hB0r, cr0, cr1, cr2, cr3, cr4, cr5, cr6, cr7, cr8, cr9, cr10, cr11⟩
        have yr0 := behind_cell0 cr0
        have yr1 := behind_cell0 cr1
        have yr2 := behind_cell0 cr2
        have yr3 := behind_cell0 cr3
        have yr4 := behind_cell0 cr4
        have yr5 := behind_cell0 cr5
        have yr6 := behind_cell0 cr6
        have yr7 := behind_cell0 cr7
        have yr8 := behind_cell0 cr8
        have yr9 := behind_cell0 cr9
        have yr10 := behind_cell0 cr10
        have yr11 := behind_cell0 cr11
        have hsome := Behind.any w0r
        clear cr0 cr1 cr2 cr3 cr4 cr5 cr6 cr7 cr8 cr9 cr10 cr11
        refine wp_region_behind w0r (by kernel_rfl) (by kernel_rfl) (Below.refl _ _) ?_
        repeat (go_big_quiet_step (first | (go_at_call 11; with_reducible first | exact behind_one Ga.out _)))
        refine wpQuiet_nil ?_
        rintro _ ⟨y, rfl⟩
        have hBy := bw_behind y.below hB0r
        have xr0 := yr0 y
        have xr1 := yr1 y
        have xr2 := yr2 y
        have xr3 := yr3 y
        have xr4 := yr4 y
        have xr5 := yr5 y
        have xr6 := yr6 y
        have xr7 := yr7 y
        have xr8 := yr8 y
        have xr9 := yr9 y
        have xr10 := yr10 y
        have xr11 := yr11 y
        clear hsome yr0 yr1 yr2 yr3 yr4 yr5 yr6 yr7 yr8 yr9 yr10 yr11
        obtain ⟨w1r, hw1⟩ : ∃ W, W = y.world := ⟨_, rfl⟩
        rw [← hw1] at hBy xr0 xr1 xr2 xr3 xr4 xr5 xr6 xr7 xr8 xr9 xr10 xr11 ⊢
        clear hw1 y hB0r
        go_wp2_with fail
        go_roundw
        case rel =>
          refine ⟨k + 1, by omega, by go_num, ?_⟩
          repeat (first | with_reducible assumption | with_reducible exact Below.refl _ _ | with_reducible refine Below.drew ?_ | with_reducible refine below_drewN ?_ _ | with_reducible refine bw_alloc ?_ _ | (with_reducible refine bw_set ?_ ?_ _; focus (dsimp only; omega)) | (with_reducible apply bw_behind; with_reducible assumption))
        case measure => simp [intOf]; omega
    · obtain rfl : k = 256 := by omega
      have hl : ltB n10 wr.heap.size = true := by unfold ltB; simpa using World.block_lt_of_cell? _ _ q8
      have hlt : n10 < wr.heap.size := World.block_lt_of_cell? _ _ q8
      clear q0 q1 q2 q3 q4 q5 q6 q7 p0 p1 p2 p3 p4 p5 p6 p7
      go_wp2_with (first | (go_at_call 17; (with_reducible first | refine (Cc4.out _).mono ?_); rintro e we ⟨rfl, hbe⟩; have hre := below_reads hbe; have hhe := below_holds hbe; obtain ⟨me, hse⟩ := below_grew hbe) | (go_at_call 9; (with_reducible first | refine (Cc5.out _).mono ?_); rintro e wf ⟨rfl, hbf⟩; have hrf := below_reads hbf; have hhf := below_holds hbf; obtain ⟨mf, hsf⟩ := below_grew hbf) | (go_at_call 11; (with_reducible first | refine (Cc6.out _).mono ?_); rintro e wg ⟨rfl, hbg⟩; have hrg := below_reads hbg; have hhg := below_holds hbg; obtain ⟨mg, hsg⟩ := below_grew hbg) | (go_at_call 10; (with_reducible first | refine (Cc7.out _).mono ?_); rintro e wi ⟨rfl, hbi⟩; have hri := below_reads hbi; have hhi := below_holds hbi; obtain ⟨mi, hsi⟩ := below_grew hbi) | (go_at_call 10; (with_reducible first | refine (Cc9.out _).mono ?_); rintro e wj ⟨rfl, hbj⟩; have hrj := below_reads hbj; have hhj := below_holds hbj; obtain ⟨mj, hsj⟩ := below_grew hbj) | (go_at_call 17; (with_reducible first | refine (Cc8.out _).mono ?_); rintro e wl ⟨rfl, hbl⟩; have hrl := below_reads hbl; have hhl := below_holds hbl; obtain ⟨ml, hsl⟩ := below_grew hbl) | (go_at_call 15; (with_reducible first | refine (Cc10.out _).mono ?_); rintro e wm ⟨rfl, hbm⟩; have hrm := below_reads hbm; have hhm := below_holds hbm; obtain ⟨mm, hsm⟩ := below_grew hbm))
      refine bodyPost_ret (v := .bool true) (by simp (maxDischargeDepth := 4) [results, Try.results5, go_sem, *]) rfl ?_
      refine ⟨rfl, ?_⟩
      repeat (first | with_reducible assumption | with_reducible exact Below.refl _ _ | with_reducible refine Below.drew ?_ | with_reducible refine below_drewN ?_ _ | with_reducible refine bw_alloc ?_ _ | (with_reducible refine bw_set ?_ ?_ _; focus (dsimp only; omega)) | (with_reducible apply bw_behind; with_reducible assumption))

theorem touch_cut (O N K : Int) (k0 : 0 ≤ K) (k1 : K ≤ N) (k : Nat) : touch O N k = (touch O K k || touch (O + K) (N - K) k) := by
  unfold touch
  rw [Bool.eq_iff_iff]
  simp
  omega
theorem cnt_one (q n : Nat) : cnt (fun i => decide (i = q)) n = if q < n then 1 else 0 := by
  induction n with
  | zero => rfl
  | succ n ih =>
    rw [cnt, ih]
    by_cases h : q < n
    · have : ¬ n = q := by omega
      have h2 : q < n + 1 := by omega
      simp [h, this, h2]
    · by_cases h3 : n = q
      · subst h3; simp
      · have h4 : ¬ q < n + 1 := by omega
        simp [h, h3, h4]
theorem one_bit (O : Int) (o0 : 0 ≤ O) (k : Nat) : touch O 1 k = decide (k = (O / 16).toNat) := by
  unfold touch
  rw [Bool.eq_iff_iff]
  simp
  omega
theorem one_count (O : Int) (o0 : 0 ≤ O) (o1 : O < 4096) : cntS (coverS O 1) = 1 := by
  unfold cntS
  rw [cnt_congr (g := fun i => decide (i = (O / 16).toNat)) (fun i hi => by rw [cover_bit _ _ _ hi, one_bit O o0]), cnt_one, if_pos (by omega)]
theorem one_get (O : Int) (o0 : 0 ≤ O) (o1 : O < 4096) : getS (coverS O 1) (O / 16) = true := by
  have hg : granB (O / 16) = true := by unfold granB; simp; omega
  unfold getS
  rw [hg, cover_bit _ _ _ (by omega), one_bit O o0]
  simp
theorem less_self (s : BitVec 256) : lessS s s = 0#256 := by
  refine ext256 (fun i hi => ?_)
  rw [less_bit _ _ _ hi]
  simp
theorem cover_some (O N : Int) (o0 : 0 ≤ O) (o1 : O < 4096) (n0 : 0 < N) : coverS O N ≠ 0#256 := by
  intro e
  have h := cover_bit O N (O / 16).toNat (by omega)
  rw [e] at h
  have ht : touch O N (O / 16).toNat = true := by
    unfold touch
    simp
    omega
  rw [ht] at h
  simp at h
theorem cover_far : coverS 4096 5 = 0#256 := by
  refine ext256 (fun i hi => ?_)
  rw [cover_bit _ _ _ hi]
  unfold touch
  rw [decide_eq_false (show ¬ (4096 : Int) ≤ 16 * (i : Int) + 15 by omega)]
  simp
theorem zero_made {f : FuncId} {args : Array Value} {s : BitVec 256} (h : s = 0#256) (c : ∀ W, Calls Try.prog f args W (Makes (.agg #[.int .u64 ((wd s 0).toNat : Int), .int .u64 ((wd s 1).toNat : Int), .int .u64 ((wd s 2).toNat : Int), .int .u64 ((wd s 3).toNat : Int)]) W)) : ∀ W, Calls Try.prog f args W (Makes (.agg #[.int .u64 0, .int .u64 0, .int .u64 0, .int .u64 0]) W) := fun W => by
  have := c W
  rw [h, wd_zero, wd_zero, wd_zero, wd_zero] at this
  exact this
theorem zero_asked {f : FuncId} {s : BitVec 256} {v : Value} (h : s = 0#256) (c : ∀ W, Calls Try.prog f #[.agg #[.int .u64 ((wd s 0).toNat : Int), .int .u64 ((wd s 1).toNat : Int), .int .u64 ((wd s 2).toNat : Int), .int .u64 ((wd s 3).toNat : Int)]] W (Makes v W)) : ∀ W, Calls Try.prog f #[.agg #[.int .u64 0, .int .u64 0, .int .u64 0, .int .u64 0]] W (Makes v W) := fun W => by
  have := c W
  rw [h, wd_zero, wd_zero, wd_zero, wd_zero] at this
  exact this
theorem getK (s : BitVec 256) : ∀ k : Nat, k < 256 → ∀ W, Calls Try.prog 11 #[.agg #[.int .u64 ((wd s 0).toNat : Int), .int .u64 ((wd s 1).toNat : Int), .int .u64 ((wd s 2).toNat : Int), .int .u64 ((wd s 3).toNat : Int)], .int .i64 (k : Int)] W (Makes (.bool (s.getLsbD k)) W) := fun k hk W => by
  have h := get_any s (k : Int) W
  unfold getS at h
  rw [gran_nat hk, Bool.true_and, Int.toNat_natCast] at h
  exact h
theorem and_mod (x : Int) (m k : Nat) (hm : m + 1 = 2 ^ k) (hk : k < 63) : bits .and .i64 x (m : Int) = x % (2 ^ k : Nat) := by
  have h2 : bits .and .i64 x (m : Int) = IntKind.i64.wrap ((BitVec.ofInt 64 x &&& BitVec.ofInt 64 (m : Int)).toNat : Int) := rfl
  have hp : 2 ^ k ≤ 2 ^ 62 := Nat.pow_le_pow_right (by omega) (by omega)
  have hpos := Nat.two_pow_pos k
  have h62 : (2 : Nat) ^ 62 = 4611686018427387904 := rfl
  have hm2 : (BitVec.ofInt 64 (m : Int)).toNat = m := by
    rw [BitVec.ofInt_natCast, BitVec.toNat_ofNat, Nat.mod_eq_of_lt (by omega)]
  have h3 : (BitVec.ofInt 64 x &&& BitVec.ofInt 64 (m : Int)).toNat = (BitVec.ofInt 64 x).toNat % 2 ^ k := by
    rw [BitVec.toNat_and, hm2, show m = 2 ^ k - 1 by omega, Nat.and_two_pow_sub_one_eq_mod]
  rw [h2, h3, BitVec.toNat_ofInt, IntKind.wrap_i64]
  have h4 : ((x % ((2 ^ 64 : Nat) : Int)).toNat % 2 ^ k : Nat) = (x % ((2 ^ k : Nat) : Int)).toNat := by
    have hd : ((2 ^ k : Nat) : Int) ∣ ((2 ^ 64 : Nat) : Int) := by
      refine Int.natCast_dvd_natCast.2 (Nat.pow_dvd_pow 2 (by omega))
    have h5 := Int.emod_emod_of_dvd x hd
    have h6 : 0 ≤ x % ((2 ^ 64 : Nat) : Int) := Int.emod_nonneg _ (by omega)
    generalize x % ((2 ^ 64 : Nat) : Int) = y at *
    obtain ⟨z, rfl⟩ := Int.eq_ofNat_of_zero_le h6
    rw [← h5, Int.toNat_natCast, ← Int.natCast_emod, Int.toNat_natCast]
  rw [h4]
  have h7 : 0 ≤ x % ((2 ^ k : Nat) : Int) := Int.emod_nonneg _ (by omega)
  have h8 : x % ((2 ^ k : Nat) : Int) < ((2 ^ k : Nat) : Int) := Int.emod_lt_of_pos _ (by omega)
  omega

theorem walk (X Y C : Int) (w : World) (_x0 : -9223372036854775808 ≤ X) (_x1 : X < 9223372036854775808) (_y0 : -9223372036854775808 ≤ Y) (_y1 : Y < 9223372036854775808) (_c0 : -9223372036854775808 ≤ C) (_c1 : C < 9223372036854775808) :
    Calls Try.prog 5 #[.int .i64 X, .int .i64 Y, .int .i64 C] w fun e w' => e = .returned (.bool true) ∧ Below w.heap.size w w' := by
  have hO := and_mod X 4095 12 rfl (by omega)
  have hN := and_mod Y 8191 13 rfl (by omega)
  have o0 : 0 ≤ X % (2 ^ 12 : Nat) := by omega
  have o1 : X % (2 ^ 12 : Nat) < 4096 := by omega
  have n0 : 0 ≤ Y % (2 ^ 13 : Nat) := by omega
  have n1 : Y % (2 ^ 13 : Nat) < 8192 := by omega
  generalize X % (2 ^ 12 : Nat) = O at *
  generalize Y % (2 ^ 13 : Nat) = N at *
  have cov := fun (a b : Int) (h1 : -9223372036854775808 ≤ a) (h2 : b < 9223372036854775808) W => cover_any a b h1 h2 W
  have c4 := cov O 1 (by omega) (by omega)
  have c5 : ∀ W, Calls Try.prog 9 #[.agg #[.int .u64 ((wd (coverS O 1) 0).toNat : Int), .int .u64 ((wd (coverS O 1) 1).toNat : Int), .int .u64 ((wd (coverS O 1) 2).toNat : Int), .int .u64 ((wd (coverS O 1) 3).toNat : Int)]] W (Makes (.int .i64 1) W) := fun W => by
    have h := count_any (coverS O 1) W
    rw [one_count O o0 o1] at h
    exact h
  have c6 : ∀ W, Calls Try.prog 11 #[.agg #[.int .u64 ((wd (coverS O 1) 0).toNat : Int), .int .u64 ((wd (coverS O 1) 1).toNat : Int), .int .u64 ((wd (coverS O 1) 2).toNat : Int), .int .u64 ((wd (coverS O 1) 3).toNat : Int)], .int .i64 (O / 16)] W (Makes (.bool true) W) := fun W => by
    have h := get_any (coverS O 1) (O / 16) W
    rw [one_get O o0 o1] at h
    exact h
  have c8 := zero_made cover_far (cov 4096 5 (by omega) (by omega))
  have c9 := zero_asked (s := 0#256) rfl (fun W => any_any 0#256 W)
  rw [show (!decide (0#256 = 0#256)) = false by simp] at c9
  have ht : O.tdiv 16 = O / 16 := Int.tdiv_eq_ediv_of_nonneg o0
  by_cases h0 : N = 0
  · subst h0
    have c7 : ∀ W, Calls Try.prog 10 #[.agg #[.int .u64 ((wd (coverS O 0) 0).toNat : Int), .int .u64 ((wd (coverS O 0) 1).toNat : Int), .int .u64 ((wd (coverS O 0) 2).toNat : Int), .int .u64 ((wd (coverS O 0) 3).toNat : Int)]] W (Makes (.bool false) W) := fun W => by
      have h := any_any (coverS O 0) W
      rw [show (!decide (coverS O 0 = 0#256)) = false by rw [cover_none O 0 (by omega)]; simp] at h
      exact h
    exact walk_0 X Y C O (O / 16) _ _ _ _ _ _ _ _ _ (cov O 0 (by omega) (by omega)) c4 (getK (coverS O 0)) c5 c6 c7 c8 c9 (zero_made (less_self _) (fun W => without_any (coverS O 0) (coverS O 0) W)) hO hN o0 o1 rfl ht w
  · have hp : 0 < N := by omega
    have r0 : -N < C.tmod N := by
      have := Int.lt_tmod_of_pos C hp
      omega
    have r1 : C.tmod N < N := Int.tmod_lt_of_pos C hp
    generalize hR : C.tmod N = R at *
    have hs : 0 ≤ R + N := by omega
    have k0 : 0 ≤ (R + N) % N := Int.emod_nonneg _ (by omega)
    have k1 : (R + N) % N < N := Int.emod_lt_of_pos _ hp
    have hK : (R + N).tmod N = (R + N) % N := Int.tmod_eq_emod_of_nonneg hs
    generalize hK2 : (R + N) % N = K at *
    have c7 : ∀ W, Calls Try.prog 10 #[.agg #[.int .u64 ((wd (coverS O N) 0).toNat : Int), .int .u64 ((wd (coverS O N) 1).toNat : Int), .int .u64 ((wd (coverS O N) 2).toNat : Int), .int .u64 ((wd (coverS O N) 3).toNat : Int)]] W (Makes (.bool true) W) := fun W => by
      have h := any_any (coverS O N) W
      rw [show (!decide (coverS O N = 0#256)) = true by simp [cover_some O N o0 o1 hp]] at h
      exact h
    exact walk_y X Y C O N R K (O / 16) _ _ _ _ _ _ _ _ _ _ _ _ _ _ _ _ _ _ _ (cov O K (by omega) (by omega)) (cov (O + K) (N - K) (by omega) (by omega)) (cov O N (by omega) (by omega)) c4 (getK (coverS O K)) (getK (coverS (O + K) (N - K))) (getK (coverS O N)) c5 c6 c7 c8 c9 (zero_made (less_self _) (fun W => without_any (coverS O N) (coverS O N) W))
      (fun k hk => by rw [cover_bit _ _ _ hk, cover_bit _ _ _ hk, cover_bit _ _ _ hk]; exact touch_cut O N K k0 (by omega) k) hO hN o0 o1 rfl ht hp n1 hR r0 r1 hK hK2 k0 k1 h0 (by simpa using h0) w
open Go.ChangeShapes Go.WideShapes Go.ChangeAt
theorem walks : Frame.Walks 5 Try.f5 := by
  intro H enc W base args ds ps hval hA
  rw [Try.params5] at hA hval
  obtain ⟨v0, v1, v2, d0, d1, d2, p0, p1, p2, hargs, rfl, rfl, h0, h1, h2⟩ := trodAll_three hA
  obtain rfl : args = #[v0, v1, v2] := by cases args; simp_all
  obtain ⟨x0, rfl, rfl, rfl, w0⟩ := open_int Try.underlying3 (hval 0 3 v0 rfl rfl) h0
  obtain ⟨x1, rfl, rfl, rfl, w1⟩ := open_int Try.underlying3 (hval 1 3 v1 rfl rfl) h1
  obtain ⟨x2, rfl, rfl, rfl, w2⟩ := open_int Try.underlying3 (hval 2 3 v2 rfl rfl) h2
  exact walk x0 x1 x2 W (Frame.wf_i64 w0).1 (Frame.wf_i64 w0).2 (Frame.wf_i64 w1).1 (Frame.wf_i64 w1).2 (Frame.wf_i64 w2).1 (Frame.wf_i64 w2).2
set_option maxRecDepth 100000 in
theorem proved : Rows.TagsBytesSaid :=
  OpenClaim.holds_of_wide 5 Try.f5 rfl rfl rfl rfl rfl rfl rfl ⟨rfl, rfl, rfl, rfl, rfl⟩ rfl rfl rfl rfl rfl (by kernel_rfl) Try.func5 (by kernel_rfl)
    (of_decide_eq_true (by kernel_rfl)) (by unfold Func.isWrapper; first | (rw [if_pos (by decide +kernel)]; kernel_rfl) | (rw [if_neg (by decide +kernel)]; exact ⟨rfl, rfl⟩))
    (fun os started H enc _ => Frame.lift os started H enc _ _ Rows.tagsBytesSpec 4 (by kernel_rfl) Try.func5 Try.underlying4 (by kernel_rfl) rfl (by kernel_rfl)
      (fun ds h => by match ds, h with | [_, _, _], _ => exact ⟨rfl, rfl, rfl⟩)
      (ChangeSpec.witness6 (enc := enc) (C := Try.checked) false ⟨#[], #[.int .i64 0, .int .i64 0, .int .i64 0], []⟩ 8 (by kernel_rfl) (by kernel_rfl) (by kernel_rfl) (by kernel_rfl)) walks)
end Go.Proofs.Ytpikipfchkhnbaa.TagsBytes
