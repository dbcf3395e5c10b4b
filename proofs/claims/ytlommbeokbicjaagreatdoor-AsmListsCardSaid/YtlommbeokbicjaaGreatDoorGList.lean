/-
  Texts laid one behind the other: AsmTarget, AsmListed, AsmBuild.
  asm.target: where a branch goes.
  asm.listed: the line of a word.
  A strings.Builder; a slice of truths that is made; the words of a listing.
-/
import Derived.Test.YtlommbeokbicjaaGreatDoorGHex
import Derived.Test.YtlommbeokbicjaaGreatDoorGWord
import Derived.Test.YtlommbeokbicjaaGreatDoorGWrite
import Derived.Laws.MakeOwn
namespace Go.Proofs.YtlommbeokbicjaaGreatDoor
open Go.RowKit InstMath AsmMath
open Go.Lib (itoa)

/-- The place to which instruction k with number m goes, as the word j of n. -/
def goesQ (k : Nat) (m : Int) (j n : Nat) : Option Nat := if brB (shp k) = true ∧ 0 ≤ 4 * (j : Int) + m ∧ 4 * (j : Int) + m ≤ 4 * (n : Int) ∧ (4 * (j : Int) + m) % 4 = 0 then some ((4 * (j : Int) + m) / 4).toNat else none
def goesV : Option Nat → Value
  | some t => .tuple #[.int .i64 (t : Int), .bool true]
  | none => .tuple #[.int .i64 0, .bool false]
theorem goes_le {k : Nat} {m : Int} {j n t : Nat} (h : goesQ k m j n = some t) : t ≤ n := by
  unfold goesQ at h
  split at h
  · injection h with h
    omega
  · cases h
theorem shape_any (k : Nat) (h : k ≤ 69) (W : World) : Calls Tryz.prog 15 #[.int .i64 (k : Int)] W (Makes (.int .u8 ((if k = 0 then 0 else shp k : Nat) : Int)) W) := by
  by_cases h0 : k = 0
  · subst h0
    exact (shape_no 0 (by omega) W).mono fun _ _ h => quiet_makes h
  · rw [if_neg h0]
    exact (shape_yes k ⟨by omega, h⟩ W).mono fun _ _ h => quiet_makes h
set_option maxRecDepth 100000 in
set_option maxHeartbeats 4000000 in
theorem target_any (k : Nat) (hk : k ≤ 69) (x0 x1 x2 m : Int) (hm : -100000000000 < m ∧ m < 100000000000) (j n : Nat) (hj : j ≤ 10000) (hn : n ≤ 10000) (w : World) :
    Calls Tryz.prog 26 #[.agg #[.int .i64 (k : Int), .int .i64 x0, .int .i64 x1, .int .i64 x2, .int .i64 m], .int .i64 (j : Int), .int .i64 (n : Int)] w (Makes (goesV (goesQ k m j n)) w) := by
  have C1 := hide (shape_any k hk)
  obtain ⟨s, hs⟩ : ∃ s, (if k = 0 then 0 else shp k : Nat) = s := ⟨_, rfl⟩
  have C2 : Hid (∀ W, Calls Tryz.prog 62 #[.int .u8 (s : Int)] W (Makes (.bool (brB s)) W)) := hide (fun W => (branches_any s W).mono fun _ _ h => quiet_makes h)
  rw [hs] at C1
  have hbr : brB (shp k) = brB s := by
    rw [← hs]
    by_cases h0 : k = 0
    · subst h0
      decide +kernel
    · rw [if_neg h0]
  unfold goesQ
  rw [hbr]
  clear hbr hs
  have w1 : IntKind.i64.wrap (4 * (j : Int)) = 4 * (j : Int) := by rw [IntKind.wrap_i64]; omega
  have w3 : IntKind.i64.wrap (4 * (n : Int)) = 4 * (n : Int) := by rw [IntKind.wrap_i64]; omega
  have hb1 : -200000000000 < 4 * (j : Int) + m ∧ 4 * (j : Int) + m < 200000000000 := by omega
  obtain ⟨T, hT⟩ : ∃ T, 4 * (j : Int) + m = T := ⟨_, rfl⟩
  rw [hT] at hb1 ⊢
  have w2 : IntKind.i64.wrap (4 * (j : Int) + m) = T := by rw [IntKind.wrap_i64]; omega
  have w4 : 4 * (j : Int) + m = T := hT
  obtain ⟨J, hJ⟩ : ∃ J, 4 * (j : Int) = J := ⟨_, rfl⟩
  obtain ⟨N, hN⟩ : ∃ N, 4 * (n : Int) = N := ⟨_, rfl⟩
  rw [hJ] at w1 w2 w4
  clear hT
  rw [hN] at w3 ⊢
  generalize brB s = b at *
  by_cases hc : b = true ∧ 0 ≤ T ∧ T ≤ N ∧ T % 4 = 0
  · rw [if_pos hc]
    obtain ⟨rfl, h1, h2, h3⟩ := hc
    have a1 : ¬ T < 0 := by omega
    have a2 : ¬ N < T := by omega
    have a3 : T.tmod 4 = 0 := by rw [Int.tmod_eq_emod_of_nonneg h1]; exact h3
    obtain ⟨q, hq⟩ : ∃ q, (T / 4).toNat = q := ⟨_, rfl⟩
    have a4 : T.tdiv 4 = (q : Int) := by rw [Int.tdiv_eq_ediv_of_nonneg h1]; omega
    rw [hq]
    show Calls _ _ _ _ (Makes (.tuple #[.int .i64 (q : Int), .bool true]) w)
    have SS := cell_same
    have LB' := ltB_add
    have LS := ltB_self
    have LA' := alloc_reads
    have LH := alloc_holds
    go_enter Tryz.func26, Tryz.ntmps26
    go_wp2_with (first | (go_at_call 15; (with_reducible refine (C1.out _).mono ?_); rintro e w1 ⟨rfl, hb1⟩; have hr1 := below_reads hb1; have hh1 := below_holds hb1; obtain ⟨m1, hs1⟩ := below_grew hb1) | (go_at_call 62; (with_reducible refine (C2.out _).mono ?_); rintro e w2 ⟨rfl, hb2⟩; have hr2 := below_reads hb2; have hh2 := below_holds hb2; obtain ⟨m2, hs2⟩ := below_grew hb2))
    refine bodyPost_ret (v := .tuple #[.int .i64 (q : Int), .bool true]) (by simp (maxDischargeDepth := 4) [results, Tryz.results26, go_sem, *]) rfl ?_
    refine ⟨rfl, ?_⟩
    repeat (first | with_reducible assumption | with_reducible exact Below.refl _ _ | with_reducible refine Below.drew ?_ | with_reducible refine below_drewN ?_ _ | with_reducible refine bw_alloc ?_ _ | (with_reducible refine bw_set ?_ ?_ _; focus (dsimp only; omega)) | (with_reducible apply bw_behind; with_reducible assumption))
  · rw [if_neg hc]
    show Calls _ _ _ _ (Makes (.tuple #[.int .i64 0, .bool false]) w)
    cases b with
    | false =>
      clear hc
      have SS := cell_same
      have LB' := ltB_add
      have LS := ltB_self
      have LA' := alloc_reads
      have LH := alloc_holds
      go_enter Tryz.func26, Tryz.ntmps26
      go_wp2_with (first | (go_at_call 15; (with_reducible refine (C1.out _).mono ?_); rintro e w1 ⟨rfl, hb1⟩; have hr1 := below_reads hb1; have hh1 := below_holds hb1; obtain ⟨m1, hs1⟩ := below_grew hb1) | (go_at_call 62; (with_reducible refine (C2.out _).mono ?_); rintro e w2 ⟨rfl, hb2⟩; have hr2 := below_reads hb2; have hh2 := below_holds hb2; obtain ⟨m2, hs2⟩ := below_grew hb2))
      refine bodyPost_ret (v := .tuple #[.int .i64 0, .bool false]) (by simp (maxDischargeDepth := 4) [results, Tryz.results26, go_sem, *]) rfl ?_
      refine ⟨rfl, ?_⟩
      repeat (first | with_reducible assumption | with_reducible exact Below.refl _ _ | with_reducible refine Below.drew ?_ | with_reducible refine below_drewN ?_ _ | with_reducible refine bw_alloc ?_ _ | (with_reducible refine bw_set ?_ ?_ _; focus (dsimp only; omega)) | (with_reducible apply bw_behind; with_reducible assumption))
    | true =>
      by_cases h1 : T < 0
      · clear hc
        have SS := cell_same
        have LB' := ltB_add
        have LS := ltB_self
        have LA' := alloc_reads
        have LH := alloc_holds
        go_enter Tryz.func26, Tryz.ntmps26
        go_wp2_with (first | (go_at_call 15; (with_reducible refine (C1.out _).mono ?_); rintro e w1 ⟨rfl, hb1⟩; have hr1 := below_reads hb1; have hh1 := below_holds hb1; obtain ⟨m1, hs1⟩ := below_grew hb1) | (go_at_call 62; (with_reducible refine (C2.out _).mono ?_); rintro e w2 ⟨rfl, hb2⟩; have hr2 := below_reads hb2; have hh2 := below_holds hb2; obtain ⟨m2, hs2⟩ := below_grew hb2))
        refine bodyPost_ret (v := .tuple #[.int .i64 0, .bool false]) (by simp (maxDischargeDepth := 4) [results, Tryz.results26, go_sem, *]) rfl ?_
        refine ⟨rfl, ?_⟩
        repeat (first | with_reducible assumption | with_reducible exact Below.refl _ _ | with_reducible refine Below.drew ?_ | with_reducible refine below_drewN ?_ _ | with_reducible refine bw_alloc ?_ _ | (with_reducible refine bw_set ?_ ?_ _; focus (dsimp only; omega)) | (with_reducible apply bw_behind; with_reducible assumption))
      · by_cases h2 : N < T
        · clear hc
          have SS := cell_same
          have LB' := ltB_add
          have LS := ltB_self
          have LA' := alloc_reads
          have LH := alloc_holds
          go_enter Tryz.func26, Tryz.ntmps26
          go_wp2_with (first | (go_at_call 15; (with_reducible refine (C1.out _).mono ?_); rintro e w1 ⟨rfl, hb1⟩; have hr1 := below_reads hb1; have hh1 := below_holds hb1; obtain ⟨m1, hs1⟩ := below_grew hb1) | (go_at_call 62; (with_reducible refine (C2.out _).mono ?_); rintro e w2 ⟨rfl, hb2⟩; have hr2 := below_reads hb2; have hh2 := below_holds hb2; obtain ⟨m2, hs2⟩ := below_grew hb2))
          refine bodyPost_ret (v := .tuple #[.int .i64 0, .bool false]) (by simp (maxDischargeDepth := 4) [results, Tryz.results26, go_sem, *]) rfl ?_
          refine ⟨rfl, ?_⟩
          repeat (first | with_reducible assumption | with_reducible exact Below.refl _ _ | with_reducible refine Below.drew ?_ | with_reducible refine below_drewN ?_ _ | with_reducible refine bw_alloc ?_ _ | (with_reducible refine bw_set ?_ ?_ _; focus (dsimp only; omega)) | (with_reducible apply bw_behind; with_reducible assumption))
        · have h3 : ¬ T.tmod 4 = 0 := by
            rw [Int.tmod_eq_emod_of_nonneg (by omega)]
            intro h
            exact hc ⟨rfl, by omega, by omega, h⟩
          have h5 : ¬ T % 4 = 0 := fun h => hc ⟨rfl, by omega, by omega, h⟩
          have h6 : (T % 4 == 0) = false := by simpa using h5
          have h7 : (T % 4 != 0) = true := by simpa using h5
          clear hc
          have SS := cell_same
          have LB' := ltB_add
          have LS := ltB_self
          have LA' := alloc_reads
          have LH := alloc_holds
          go_enter Tryz.func26, Tryz.ntmps26
          go_wp2_with (first | (go_at_call 15; (with_reducible refine (C1.out _).mono ?_); rintro e w1 ⟨rfl, hb1⟩; have hr1 := below_reads hb1; have hh1 := below_holds hb1; obtain ⟨m1, hs1⟩ := below_grew hb1) | (go_at_call 62; (with_reducible refine (C2.out _).mono ?_); rintro e w2 ⟨rfl, hb2⟩; have hr2 := below_reads hb2; have hh2 := below_holds hb2; obtain ⟨m2, hs2⟩ := below_grew hb2))
          refine bodyPost_ret (v := .tuple #[.int .i64 0, .bool false]) (by simp (maxDischargeDepth := 4) [results, Tryz.results26, go_sem, *]) rfl ?_
          refine ⟨rfl, ?_⟩
          repeat (first | with_reducible assumption | with_reducible exact Below.refl _ _ | with_reducible refine Below.drew ?_ | with_reducible refine below_drewN ?_ _ | with_reducible refine bw_alloc ?_ _ | (with_reducible refine bw_set ?_ ?_ _; focus (dsimp only; omega)) | (with_reducible apply bw_behind; with_reducible assumption))

end Go.Proofs.YtlommbeokbicjaaGreatDoor

namespace Go.Proofs.YtlommbeokbicjaaGreatDoor
open Go.RowKit InstMath AsmMath
open Go.Lib (itoa)

theorem behind_callG2 {f : FuncId} {args : Array Value} {v : Value} {w0 : World} (c : ∀ W, G2 W → Calls Tryz.prog f args W (Makes v W)) (hT : G2 w0) (y : Behind w0.heap.size w0) :
    Calls Tryz.prog f args y.world fun e w'' => e = .returned v ∧ ∃ z : Behind w0.heap.size w0, w'' = z.world :=
  (c _ (hT.behind y.below)).mono fun _ _ ⟨he, hb⟩ => ⟨he, ⟨_, y.below.trans (hb.mono y.below.size)⟩, rfl⟩

set_option maxRecDepth 100000 in
set_option maxHeartbeats 4000000 in
theorem listed_go (K x0 x1 x2 x3 Y : Int) (b off j n cap : Nat) (hj : j < n) (R : ByteArray) (S : ByteArray) (t : Nat) (d : ∀ W, G2 W → Calls Tryz.prog 13 #[.int .u32 Y] W (Makes (.tuple #[.agg #[.int .i64 K, .int .i64 x0, .int .i64 x1, .int .i64 x2, .int .i64 x3], .bool true]) W)) (tt : ∀ W, G2 W → Calls Tryz.prog 26 #[.agg #[.int .i64 K, .int .i64 x0, .int .i64 x1, .int .i64 x2, .int .i64 x3], .int .i64 (j : Int), .int .i64 (n : Int)] W (Makes (.tuple #[.int .i64 (t : Int), .bool true]) W)) (m : ∀ W, G2 W → Calls Tryz.prog 28 #[.int .i64 (t : Int)] W (Makes (.string S) W)) (r : ∀ W, G2 W → Calls Tryz.prog 19 #[.agg #[.int .i64 K, .int .i64 x0, .int .i64 x1, .int .i64 x2, .int .i64 x3], .string S] W (Makes (.string R) W)) (w : World) (hG : G2 w) (hcell : w.cell? ⟨b, off + j, none⟩ = some (.int .u32 Y)) :
    Calls Tryz.prog 29 #[.slice (some ⟨b, off, none⟩) n cap, .int .i64 (j : Int)] w (Makes (.string R) w) := by
  have Cd := hide d
  have Ct := hide tt
  have Cm := hide m
  have Cr := hide r
  clear d tt m r
  have lB : ltB b w.heap.size = true := by unfold ltB; simpa using World.block_lt_of_cell? _ _ hcell
  have g1 : (j : Int) < (n : Int) := by omega
  have g2 : (0 : Int) ≤ (j : Int) := by omega
  have SS := cell_same
  have LB' := ltB_add
  have LS := ltB_self
  have LA' := alloc_reads
  have LH := alloc_holds
  go_enter Tryz.func29, Tryz.ntmps29
  go_upto_region 6 with (first | (go_at_call 13; (first | ((with_reducible refine (Cd.out _ ?_).mono ?_); (focus (refine hG.behind ?_; repeat (first | with_reducible assumption | with_reducible exact Below.refl _ _ | with_reducible refine Below.drew ?_ | with_reducible refine below_drewN ?_ _ | with_reducible refine bw_alloc ?_ _ | (with_reducible refine bw_set ?_ ?_ _; focus (dsimp only; omega)) | (with_reducible apply bw_behind; with_reducible assumption)))))); rintro e w1 ⟨rfl, hb1⟩; have hr1 := below_reads hb1; have hh1 := below_holds hb1; obtain ⟨m1, hs1⟩ := below_grew hb1) | (go_at_call 26; (first | ((with_reducible refine (Ct.out _ ?_).mono ?_); (focus (refine hG.behind ?_; repeat (first | with_reducible assumption | with_reducible exact Below.refl _ _ | with_reducible refine Below.drew ?_ | with_reducible refine below_drewN ?_ _ | with_reducible refine bw_alloc ?_ _ | (with_reducible refine bw_set ?_ ?_ _; focus (dsimp only; omega)) | (with_reducible apply bw_behind; with_reducible assumption)))))); rintro e w2 ⟨rfl, hb2⟩; have hr2 := below_reads hb2; have hh2 := below_holds hb2; obtain ⟨m2, hs2⟩ := below_grew hb2))

  refine wp_abs (fun W => G2 W ∧ Below w.heap.size w W ∧ W.cell? ⟨w.heap.size + m1, 0, none⟩ = some (.int .i64 K) ∧ W.cell? ⟨w.heap.size + m1, 1, none⟩ = some (.int .i64 x0) ∧ W.cell? ⟨w.heap.size + m1, 2, none⟩ = some (.int .i64 x1) ∧ W.cell? ⟨w.heap.size + m1, 3, none⟩ = some (.int .i64 x2) ∧ W.cell? ⟨w.heap.size + m1, 4, none⟩ = some (.int .i64 x3)) ?_ ?_
  · refine ⟨?_, ?_, ?_, ?_, ?_, ?_, ?_⟩
    all_goals (first | with_reducible assumption | ((repeat (first | with_reducible assumption | with_reducible refine c_dr _ ?_ | with_reducible refine c_d1 ?_ | with_reducible refine c_al _ ?_ | (with_reducible refine c_set ?_ ?_; focus (dsimp only; omega)) | (with_reducible apply c_be; with_reducible assumption))); done) | ((repeat (first | with_reducible assumption | with_reducible refine o_dr _ ?_ | with_reducible refine o_d1 ?_ | with_reducible refine o_set ?_ | (with_reducible refine o_new ?_ ?_; (focus (simp)); (focus (simp))) | with_reducible refine o_al _ ?_ | (with_reducible apply o_be; with_reducible assumption))); done) | ((repeat (first | with_reducible assumption | with_reducible exact Below.refl _ _ | with_reducible refine Below.drew ?_ | with_reducible refine below_drewN ?_ _ | with_reducible refine bw_alloc ?_ _ | (with_reducible refine bw_set ?_ ?_ _; focus (dsimp only; omega)) | (with_reducible apply bw_behind; with_reducible assumption))); done) | (refine hG.behind ?_; (repeat (first | with_reducible assumption | with_reducible exact Below.refl _ _ | with_reducible refine Below.drew ?_ | with_reducible refine below_drewN ?_ _ | with_reducible refine bw_alloc ?_ _ | (with_reducible refine bw_set ?_ ?_ _; focus (dsimp only; omega)) | (with_reducible apply bw_behind; with_reducible assumption))); done) | (simp [go_sem, *]; omega) | (simp (maxDischargeDepth := 4) [go_sem, *]; done))
  rintro w0 ⟨hT0, hB0, c0, c1, c2, c3, c4⟩
  have y0 := behind_cell0 c0
  have y1 := behind_cell0 c1
  have y2 := behind_cell0 c2
  have y3 := behind_cell0 c3
  have y4 := behind_cell0 c4
  have hsome := Behind.any w0
  clear c0 c1 c2 c3 c4
  refine wp_region_behind w0 (by kernel_rfl) (by kernel_rfl) (Below.refl _ _) ?_
  repeat (go_big_quiet_step (first | (go_at_call 28; with_reducible first | exact behind_callG2 Cm.out hT0 _) | (go_at_call 19; with_reducible first | exact behind_callG2 Cr.out hT0 _)))
  refine wpQuiet_nil ?_
  rintro _ ⟨y, rfl⟩
  have hTy := hT0.behind y.below
  have hBy := bw_behind y.below hB0
  have x0 := y0 y
  have x1 := y1 y
  have x2 := y2 y
  have x3 := y3 y
  have x4 := y4 y
  clear hsome y0 y1 y2 y3 y4
  obtain ⟨w1, hw1⟩ : ∃ W, W = y.world := ⟨_, rfl⟩
  rw [← hw1] at hTy hBy x0 x1 x2 x3 x4 ⊢
  clear hw1 y hT0 hB0
  go_wp2
  refine bodyPost_ret (v := .string R) (by simp (maxDischargeDepth := 4) [results, Tryz.results29, go_sem, *]) rfl ?_
  refine ⟨rfl, ?_⟩
  repeat (first | with_reducible assumption | with_reducible exact Below.refl _ _ | with_reducible refine Below.drew ?_ | with_reducible refine below_drewN ?_ _ | with_reducible refine bw_alloc ?_ _ | (with_reducible refine bw_set ?_ ?_ _; focus (dsimp only; omega)) | (with_reducible apply bw_behind; with_reducible assumption))

set_option maxRecDepth 100000 in
set_option maxHeartbeats 4000000 in
theorem listed_no (K x0 x1 x2 x3 Y : Int) (b off j n cap : Nat) (hj : j < n) (R : ByteArray) (S : ByteArray) (d : ∀ W, G2 W → Calls Tryz.prog 13 #[.int .u32 Y] W (Makes (.tuple #[.agg #[.int .i64 K, .int .i64 x0, .int .i64 x1, .int .i64 x2, .int .i64 x3], .bool true]) W)) (t : ∀ W, G2 W → Calls Tryz.prog 26 #[.agg #[.int .i64 K, .int .i64 x0, .int .i64 x1, .int .i64 x2, .int .i64 x3], .int .i64 (j : Int), .int .i64 (n : Int)] W (Makes (.tuple #[.int .i64 0, .bool false]) W)) (m : ∀ W, G2 W → Calls Tryz.prog 20 #[.int .i64 x3] W (Makes (.string S) W)) (r : ∀ W, G2 W → Calls Tryz.prog 19 #[.agg #[.int .i64 K, .int .i64 x0, .int .i64 x1, .int .i64 x2, .int .i64 x3], .string S] W (Makes (.string R) W)) (w : World) (hG : G2 w) (hcell : w.cell? ⟨b, off + j, none⟩ = some (.int .u32 Y)) :
    Calls Tryz.prog 29 #[.slice (some ⟨b, off, none⟩) n cap, .int .i64 (j : Int)] w (Makes (.string R) w) := by
  have Cd := hide d
  have Ct := hide t
  have Cm := hide m
  have Cr := hide r
  clear d t m r
  have lB : ltB b w.heap.size = true := by unfold ltB; simpa using World.block_lt_of_cell? _ _ hcell
  have g1 : (j : Int) < (n : Int) := by omega
  have g2 : (0 : Int) ≤ (j : Int) := by omega
  have SS := cell_same
  have LB' := ltB_add
  have LS := ltB_self
  have LA' := alloc_reads
  have LH := alloc_holds
  go_enter Tryz.func29, Tryz.ntmps29
  go_upto_region 7 with (first | (go_at_call 13; (first | ((with_reducible refine (Cd.out _ ?_).mono ?_); (focus (refine hG.behind ?_; repeat (first | with_reducible assumption | with_reducible exact Below.refl _ _ | with_reducible refine Below.drew ?_ | with_reducible refine below_drewN ?_ _ | with_reducible refine bw_alloc ?_ _ | (with_reducible refine bw_set ?_ ?_ _; focus (dsimp only; omega)) | (with_reducible apply bw_behind; with_reducible assumption)))))); rintro e w1 ⟨rfl, hb1⟩; have hr1 := below_reads hb1; have hh1 := below_holds hb1; obtain ⟨m1, hs1⟩ := below_grew hb1) | (go_at_call 26; (first | ((with_reducible refine (Ct.out _ ?_).mono ?_); (focus (refine hG.behind ?_; repeat (first | with_reducible assumption | with_reducible exact Below.refl _ _ | with_reducible refine Below.drew ?_ | with_reducible refine below_drewN ?_ _ | with_reducible refine bw_alloc ?_ _ | (with_reducible refine bw_set ?_ ?_ _; focus (dsimp only; omega)) | (with_reducible apply bw_behind; with_reducible assumption)))))); rintro e w2 ⟨rfl, hb2⟩; have hr2 := below_reads hb2; have hh2 := below_holds hb2; obtain ⟨m2, hs2⟩ := below_grew hb2))

  refine wp_abs (fun W => G2 W ∧ Below w.heap.size w W ∧ W.cell? ⟨w.heap.size + m1, 0, none⟩ = some (.int .i64 K) ∧ W.cell? ⟨w.heap.size + m1, 1, none⟩ = some (.int .i64 x0) ∧ W.cell? ⟨w.heap.size + m1, 2, none⟩ = some (.int .i64 x1) ∧ W.cell? ⟨w.heap.size + m1, 3, none⟩ = some (.int .i64 x2) ∧ W.cell? ⟨w.heap.size + m1, 4, none⟩ = some (.int .i64 x3)) ?_ ?_
  · refine ⟨?_, ?_, ?_, ?_, ?_, ?_, ?_⟩
    all_goals (first | with_reducible assumption | ((repeat (first | with_reducible assumption | with_reducible refine c_dr _ ?_ | with_reducible refine c_d1 ?_ | with_reducible refine c_al _ ?_ | (with_reducible refine c_set ?_ ?_; focus (dsimp only; omega)) | (with_reducible apply c_be; with_reducible assumption))); done) | ((repeat (first | with_reducible assumption | with_reducible refine o_dr _ ?_ | with_reducible refine o_d1 ?_ | with_reducible refine o_set ?_ | (with_reducible refine o_new ?_ ?_; (focus (simp)); (focus (simp))) | with_reducible refine o_al _ ?_ | (with_reducible apply o_be; with_reducible assumption))); done) | ((repeat (first | with_reducible assumption | with_reducible exact Below.refl _ _ | with_reducible refine Below.drew ?_ | with_reducible refine below_drewN ?_ _ | with_reducible refine bw_alloc ?_ _ | (with_reducible refine bw_set ?_ ?_ _; focus (dsimp only; omega)) | (with_reducible apply bw_behind; with_reducible assumption))); done) | (refine hG.behind ?_; (repeat (first | with_reducible assumption | with_reducible exact Below.refl _ _ | with_reducible refine Below.drew ?_ | with_reducible refine below_drewN ?_ _ | with_reducible refine bw_alloc ?_ _ | (with_reducible refine bw_set ?_ ?_ _; focus (dsimp only; omega)) | (with_reducible apply bw_behind; with_reducible assumption))); done) | (simp [go_sem, *]; omega) | (simp (maxDischargeDepth := 4) [go_sem, *]; done))
  rintro w0 ⟨hT0, hB0, c0, c1, c2, c3, c4⟩
  have y0 := behind_cell0 c0
  have y1 := behind_cell0 c1
  have y2 := behind_cell0 c2
  have y3 := behind_cell0 c3
  have y4 := behind_cell0 c4
  have hsome := Behind.any w0
  clear c0 c1 c2 c3 c4
  refine wp_region_behind w0 (by kernel_rfl) (by kernel_rfl) (Below.refl _ _) ?_
  repeat (go_big_quiet_step (first | (go_at_call 20; with_reducible first | exact behind_callG2 Cm.out hT0 _) | (go_at_call 19; with_reducible first | exact behind_callG2 Cr.out hT0 _)))
  refine wpQuiet_nil ?_
  rintro _ ⟨y, rfl⟩
  have hTy := hT0.behind y.below
  have hBy := bw_behind y.below hB0
  have x0 := y0 y
  have x1 := y1 y
  have x2 := y2 y
  have x3 := y3 y
  have x4 := y4 y
  clear hsome y0 y1 y2 y3 y4
  obtain ⟨w1, hw1⟩ : ∃ W, W = y.world := ⟨_, rfl⟩
  rw [← hw1] at hTy hBy x0 x1 x2 x3 x4 ⊢
  clear hw1 y hT0 hB0
  go_wp2
  refine bodyPost_ret (v := .string R) (by simp (maxDischargeDepth := 4) [results, Tryz.results29, go_sem, *]) rfl ?_
  refine ⟨rfl, ?_⟩
  repeat (first | with_reducible assumption | with_reducible exact Below.refl _ _ | with_reducible refine Below.drew ?_ | with_reducible refine below_drewN ?_ _ | with_reducible refine bw_alloc ?_ _ | (with_reducible refine bw_set ?_ ?_ _; focus (dsimp only; omega)) | (with_reducible apply bw_behind; with_reducible assumption))

set_option maxRecDepth 100000 in
set_option maxHeartbeats 4000000 in
theorem listed_none (Y : Int) (b off j n cap : Nat) (hj : j < n) (R : ByteArray) (S : ByteArray) (hadd : ∀ W, (Op.stringOp .add ⟨#[35, 32, 119, 111, 114, 100, 32]⟩ S).run Tryz.prog W = .ok (.string R) W) (d : ∀ W, G2 W → Calls Tryz.prog 13 #[.int .u32 Y] W (Makes (.tuple #[.agg #[.int .i64 0, .int .i64 0, .int .i64 0, .int .i64 0, .int .i64 0], .bool false]) W)) (m : ∀ W, G2 W → Calls Tryz.prog 65 #[.int .u32 Y] W (Makes (.string S) W)) (w : World) (hG : G2 w) (hcell : w.cell? ⟨b, off + j, none⟩ = some (.int .u32 Y)) :
    Calls Tryz.prog 29 #[.slice (some ⟨b, off, none⟩) n cap, .int .i64 (j : Int)] w (Makes (.string R) w) := by
  have Cd := hide d
  have Cm := hide m
  clear d m
  have lB : ltB b w.heap.size = true := by unfold ltB; simpa using World.block_lt_of_cell? _ _ hcell
  have g1 : (j : Int) < (n : Int) := by omega
  have g2 : (0 : Int) ≤ (j : Int) := by omega
  have SS := cell_same
  have LB' := ltB_add
  have LS := ltB_self
  have LA' := alloc_reads
  have LH := alloc_holds
  go_enter Tryz.func29, Tryz.ntmps29
  go_wp2_with (first | (go_at_call 13; (first | ((with_reducible refine (Cd.out _ ?_).mono ?_); (focus (refine hG.behind ?_; repeat (first | with_reducible assumption | with_reducible exact Below.refl _ _ | with_reducible refine Below.drew ?_ | with_reducible refine below_drewN ?_ _ | with_reducible refine bw_alloc ?_ _ | (with_reducible refine bw_set ?_ ?_ _; focus (dsimp only; omega)) | (with_reducible apply bw_behind; with_reducible assumption)))))); rintro e w1 ⟨rfl, hb1⟩; have hr1 := below_reads hb1; have hh1 := below_holds hb1; obtain ⟨m1, hs1⟩ := below_grew hb1) | (go_at_call 65; (first | ((with_reducible refine (Cm.out _ ?_).mono ?_); (focus (refine hG.behind ?_; repeat (first | with_reducible assumption | with_reducible exact Below.refl _ _ | with_reducible refine Below.drew ?_ | with_reducible refine below_drewN ?_ _ | with_reducible refine bw_alloc ?_ _ | (with_reducible refine bw_set ?_ ?_ _; focus (dsimp only; omega)) | (with_reducible apply bw_behind; with_reducible assumption)))))); rintro e w2 ⟨rfl, hb2⟩; have hr2 := below_reads hb2; have hh2 := below_holds hb2; obtain ⟨m2, hs2⟩ := below_grew hb2))
  refine bodyPost_ret (v := .string R) (by simp (maxDischargeDepth := 4) [results, Tryz.results29, go_sem, *]) rfl ?_
  refine ⟨rfl, ?_⟩
  repeat (first | with_reducible assumption | with_reducible exact Below.refl _ _ | with_reducible refine Below.drew ?_ | with_reducible refine below_drewN ?_ _ | with_reducible refine bw_alloc ?_ _ | (with_reducible refine bw_set ?_ ?_ _; focus (dsimp only; omega)) | (with_reducible apply bw_behind; with_reducible assumption))

end Go.Proofs.YtlommbeokbicjaaGreatDoor

namespace Go.Proofs.YtlommbeokbicjaaGreatDoor
open Go.RowKit InstMath AsmMath
open Go.Lib (itoa)

def IsB (B b : Nat) (l : List UInt8) (W : World) : Prop := Lib.IsBuilder 74 5 B b (Lib.byteCells l) W
theorem isb_be {B b : Nat} {l : List UInt8} {w w' : World} (hb : Below w.heap.size w w') (h : IsB B b l w) : IsB B b l w' := by
  have go : ∀ p, Lib.BuilderAt 74 5 B b p (Lib.byteCells l) w → Lib.BuilderAt 74 5 B b p (Lib.byteCells l) w' := fun p ⟨h1, v, h2, h3, h4⟩ =>
    ⟨h1, v, (hb.block b (Array.getElem?_eq_some_iff.1 h2).1).trans h2, owns_be hb h3, h4⟩
  rcases h with h | h
  · exact .inl (go _ h)
  · exact .inr (go _ h)
theorem isb_al {B b : Nat} {l : List UInt8} {w : World} (o : Obj) (h : IsB B b l w) : IsB B b l (w.alloc o) := isb_be (below_alloc (Below.refl _ _) (Nat.le_refl _) o) h
theorem isb_dr {B b : Nat} {l : List UInt8} {w : World} (n : Nat) (h : IsB B b l w) : IsB B b l (w.drewN n) := h
theorem isb_d1 {B b : Nat} {l : List UInt8} {w : World} (h : IsB B b l w) : IsB B b l w.drew := h
theorem isb_new (w : World) : IsB w.heap.size w.heap.size [] (w.alloc (.cells #[.pointer none, .slice none 0 0] 74)) := Lib.fresh_isBuilder _ _ w
theorem isb_lt {B b : Nat} {l : List UInt8} {w : World} (h : IsB B b l w) : b < w.heap.size ∧ B ≤ b := by
  rcases h with h | h
  · exact ⟨h.lt, h.1⟩
  · exact ⟨h.lt, h.1⟩
theorem bytes_app (l s : List UInt8) : Lib.byteCells l ++ Lib.strCells (str s) = Lib.byteCells (l ++ s) := by
  unfold Lib.byteCells Lib.strCells
  rw [List.map_append]
  rfl
theorem wstr_any (B b : Nat) (l s : List UInt8) (hl : l.length + s.length ≤ 1000000) (W : World) (h : IsB B b l W) :
    Calls Tryz.prog 27 #[.pointer (some ⟨b, 0, none⟩), .string (str s)] W (fun e w' => e = .returned (.tuple #[.int .i64 (s.length : Int), .nilIface]) ∧ IsB B b (l ++ s) w' ∧ Below B W w') := by
  have hlt := isb_lt h
  refine (Any.Builder_WriteString { Tryz.lays105 with } Tryz.Builder_Extra_105 B b (Lib.byteCells l) (str s) W h (by rw [Lib.byteCells_length, str_size]; omega) (by omega)).mono fun e w' ⟨h1, h2, h3⟩ => ?_
  rw [bytes_app] at h2
  exact ⟨h1.trans (by rw [str_size]), .inr h2, h3⟩
theorem bstr_any (B b : Nat) (l : List UInt8) (W : World) (h : IsB B b l W) :
    Calls Tryz.prog 30 #[.pointer (some ⟨b, 0, none⟩)] W (fun e w' => e = .returned (.string (str l)) ∧ Below B W w') := by
  have hlt := isb_lt h
  exact (Tryz.Builder_String_any B b l W h (by omega)).mono fun e w' h => ⟨h.1, h.2⟩
theorem info_bool : (Tryz.prog.info? 4).map (fun i => (i.zero, i.size, i.bytes)) = some (some (.bool false), 1, 1) := by kernel_rfl
/-- make([]bool, n). -/
theorem make_bools (n : Nat) (hn : n ≤ 10000) : ∃ Z : Array Value, Z.size = n ∧ (∀ k, k < n → Z[k]? = some (.bool false)) ∧ ∀ W, (Instr.makeSlice 68 (.int .i64 (n : Int)) (.int .i64 (n : Int))).run Tryz.prog W = .ok (.slice (some ⟨W.heap.size, 0, none⟩) n n) (W.alloc (.cells Z 4)) := by
  obtain ⟨i, hi, hz, hs, hb⟩ := info_parts info_bool
  refine ⟨madeCells (Value.bool false).cells (n * 1), by rw [size_madeCells]; omega, fun k hk => ?_, fun W => ?_⟩
  · unfold madeCells
    simp [Value.cells, hk]
    rw [Nat.mod_one]
    rfl
  · have hr := run_make (P := Tryz.prog) W 68 4 i (.bool false) Tryz.underlying68 hi hz .i64 .i64 n n (by omega) (by omega) (by rw [hb]; omega) (by omega)
    rw [hs] at hr
    exact hr
/-- What is told of the words. -/
structure Ds (D : BitVec 64 → Option Nat) (ws : List (BitVec 64)) : Prop where
  lt : ∀ y ∈ ws, y.toNat < 4294967296
  is : ∀ y, IsDec y (D y)
def wsAt (ws : List (BitVec 64)) (j : Nat) : BitVec 64 := ws.getD j 0#64
def goesW (D : BitVec 64 → Option Nat) (ws : List (BitVec 64)) (j : Nat) : Option Nat := match D (wsAt ws j) with
  | some k => goesQ k (opsI k (wsAt ws j) 3) j ws.length
  | none => none
def markP (D : BitVec 64 → Option Nat) (ws : List (BitVec 64)) (j t : Nat) : Bool := (List.range j).any (fun i => goesW D ws i == some t)
theorem mark_succ (D : BitVec 64 → Option Nat) (ws : List (BitVec 64)) (j t : Nat) : markP D ws (j + 1) t = (markP D ws j t || (goesW D ws j == some t)) := by
  unfold markP
  rw [List.range_succ, List.any_append]
  simp
def lineT (D : BitVec 64 → Option Nat) (ws : List (BitVec 64)) (j : Nat) : List UInt8 := match D (wsAt ws j) with
  | none => [35, 32, 119, 111, 114, 100, 32] ++ hexF 8 (wsAt ws j).toNat
  | some k => match goesQ k (opsI k (wsAt ws j) 3) j ws.length with
    | some t => wr k (opsI k (wsAt ws j)) (109 :: itoa (t : Int))
    | none => wr k (opsI k (wsAt ws j)) (itoa (opsI k (wsAt ws j) 3))
def headT (D : BitVec 64 → Option Nat) (ws : List (BitVec 64)) (j : Nat) : List UInt8 := if markP D ws ws.length j then 109 :: itoa (j : Int) ++ [58] ++ [10] else []
def entT (D : BitVec 64 → Option Nat) (ws : List (BitVec 64)) (j : Nat) : List UInt8 := headT D ws j ++ (if j < ws.length then lineT D ws j ++ [10] else [])
def listT (D : BitVec 64 → Option Nat) (ws : List (BitVec 64)) (j : Nat) : List UInt8 := (List.range j).flatMap (entT D ws)
theorem list_succ (D : BitVec 64 → Option Nat) (ws : List (BitVec 64)) (j : Nat) : listT D ws (j + 1) = listT D ws j ++ entT D ws j := by
  unfold listT
  rw [List.range_succ, List.flatMap_append]
  simp
theorem opsI_rng (k : Nat) (x : BitVec 64) (o : Nat) : rng (opsI k x o) := by
  have h1 := BitVec.toInt_lt (x := opsB k x o)
  have h2 := BitVec.le_toInt (x := opsB k x o)
  unfold rng opsI
  omega
/-- What is so of the operands of a word that is an instruction. -/
theorem dec_imm {k : Nat} (h1 : 1 ≤ k) (h2 : k ≤ 69) {y : BitVec 64} (hy : y.toNat < 4294967296) (hm : matchB k y = true) : -4294967296 ≤ opsI k y 3 ∧ opsI k y 3 < 4294967296 := by
  have he := enc_read h1 h2 hy hm
  by_cases ho : 3 ∈ opL (shp k)
  · exact enc_imm h1 h2 he (opsI_rng k y 3) ho
  · have hr := read_enc h1 h2 he (fun o => opsI_rng k y o) 3
    have hh : has (shp k) 3 = false := by
      have : ∀ {s : Nat}, IsShape s → 3 ∉ opL s → has s 3 = false := fun hs => each_shape (P := fun s => 3 ∉ opL s → has s 3 = false) (by decide) hs
      exact this (shape_of h1 h2) ho
    rw [hh] at hr
    have hr : opsI k y 3 = 0 := hr
    omega
theorem name_mark (t : Nat) (ht : t ≤ 10000) : NameOk (109 :: itoa (t : Int)) := by
  have hl := itoa_len (n := (t : Int)) (by omega)
  refine ⟨by simp, by simp; omega, fun _ => (show ltrB (109 : UInt8).toNat = true by decide), fun c hc => ?_⟩
  rcases List.mem_cons.1 hc with rfl | hc
  · decide
  · have hd : isDig c := by
      rw [itoa_nat] at hc
      exact dec_digs _ _ (Nat.le_refl _) c hc
    unfold nmB digB
    rw [decide_eq_true (show 48 ≤ c.toNat ∧ c.toNat ≤ 57 from hd)]
    simp
end Go.Proofs.YtlommbeokbicjaaGreatDoor
