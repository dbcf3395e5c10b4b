/-
  What Cover answers, and the document's: granule by granule.
-/
import Derived.Test.YtpikipfchkhnbaaTag4
namespace Go.Proofs.Ytpikipfchkhnbaa
open Go.RowKit Words

/-- Does granule k contain at least one of the n bytes from O on? -/
def touch (O N : Int) (k : Nat) : Bool := decide (1 ≤ N) && (decide (O ≤ 16 * (k : Int) + 15) && decide (16 * (k : Int) < O + N))
/-- The granules below k that do. -/
def covK (O N : Int) : Nat → BitVec 256
  | 0 => 0#256
  | k + 1 => put1 (covK O N k) k (touch O N k)
def coverS (O N : Int) : BitVec 256 := covK O N 256
theorem covK_bit (O N : Int) (k i : Nat) (hi : i < 256) : (covK O N k).getLsbD i = (decide (i < k) && touch O N i) := by
  induction k with
  | zero => simp [covK]
  | succ k ih =>
    rw [covK, put1_bit _ _ _ _ hi, ih]
    by_cases h : i = k
    · subst h; simp
    · rw [if_neg h]
      congr 1
      exact decide_eq_decide.mpr (by omega)
theorem cover_bit (O N : Int) (i : Nat) (hi : i < 256) : (coverS O N).getLsbD i = touch O N i := by
  unfold coverS
  rw [covK_bit _ _ _ _ hi]
  simp [hi]
/-- A granule put out that is not in. -/
theorem put_out (O N : Int) (k : Nat) (hk : k < 256) (h : touch O N k = false) : covK O N (k + 1) = covK O N k := by
  refine ext256 (fun i hi => ?_)
  rw [covK_bit _ _ _ _ hi, covK_bit _ _ _ _ hi]
  by_cases e : i = k
  · subst e; simp [h]
  · congr 1
    exact decide_eq_decide.mpr (by omega)
theorem u64_num (O : Int) (h1 : -9223372036854775808 ≤ O) (h2 : O < 9223372036854775808) : IntKind.u64.wrap O = if O < 0 then O + 18446744073709551616 else O := by
  rw [IntKind.wrap_u64]
  split <;> omega
theorem far_num (F O N : Int) (hF : 0 ≤ F) (hF2 : F < 4096) (h1 : -9223372036854775808 ≤ O) (h2 : O < F) (h3 : 1 ≤ N) (h4 : N < 9223372036854775808) : (IntKind.u64.wrap (F - IntKind.u64.wrap O) < IntKind.u64.wrap N) ↔ F < O + N := by
  rw [u64_num N (by omega) h4, u64_num O h1 (by omega), IntKind.wrap_u64]
  split <;> split <;> omega

set_option maxHeartbeats 4000000 in
theorem inner_1 (k bo bn : Nat) (_hk : k < 256) (O N : Int) (_h1 : N < 1) (w : World) (_g0 : w.cell? ⟨bo, 0, none⟩ = some (.int .i64 O)) (_g1 : w.cell? ⟨bn, 0, none⟩ = some (.int .i64 N)) :
    Calls Try.prog 23 #[.int .i64 (k : Int), .pointer (some ⟨bn, 0, none⟩), .pointer (some ⟨bo, 0, none⟩)] w (Quiet (.bool false) w) := by
  go_enter Try.func23, Try.ntmps23
  go_wp2
  all_goals
    go_ret
    exact ⟨ret_bool rfl, 0, rfl⟩

set_option maxHeartbeats 4000000 in
theorem inner_2 (k bo bn : Nat) (_hk : k < 256) (O N : Int) (_h1 : ¬ N < 1) (_h2 : (k : Int) * 16 + 16 - 1 < O) (w : World) (_g0 : w.cell? ⟨bo, 0, none⟩ = some (.int .i64 O)) (_g1 : w.cell? ⟨bn, 0, none⟩ = some (.int .i64 N)) :
    Calls Try.prog 23 #[.int .i64 (k : Int), .pointer (some ⟨bn, 0, none⟩), .pointer (some ⟨bo, 0, none⟩)] w (Quiet (.bool false) w) := by
  go_enter Try.func23, Try.ntmps23
  go_wp2
  all_goals
    go_ret
    exact ⟨ret_bool rfl, 0, rfl⟩

set_option maxHeartbeats 4000000 in
theorem inner_3 (k bo bn : Nat) (_hk : k < 256) (O N : Int) (_h1 : ¬ N < 1) (_h2 : ¬ (k : Int) * 16 + 16 - 1 < O) (_h3 : (k : Int) * 16 ≤ O) (w : World) (_g0 : w.cell? ⟨bo, 0, none⟩ = some (.int .i64 O)) (_g1 : w.cell? ⟨bn, 0, none⟩ = some (.int .i64 N)) :
    Calls Try.prog 23 #[.int .i64 (k : Int), .pointer (some ⟨bn, 0, none⟩), .pointer (some ⟨bo, 0, none⟩)] w (Quiet (.bool true) w) := by
  go_enter Try.func23, Try.ntmps23
  go_wp2
  all_goals
    go_ret
    exact ⟨ret_bool rfl, 0, rfl⟩

set_option maxHeartbeats 4000000 in
theorem inner_4 (k bo bn : Nat) (_hk : k < 256) (O N D M : Int) (_h1 : ¬ N < 1) (_h2 : ¬ (k : Int) * 16 + 16 - 1 < O) (_h3 : ¬ (k : Int) * 16 ≤ O) (_hD : IntKind.u64.wrap ((k : Int) * 16 - IntKind.u64.wrap O) = D) (_hM : IntKind.u64.wrap N = M) (_hd : D < M) (w : World) (_g0 : w.cell? ⟨bo, 0, none⟩ = some (.int .i64 O)) (_g1 : w.cell? ⟨bn, 0, none⟩ = some (.int .i64 N)) :
    Calls Try.prog 23 #[.int .i64 (k : Int), .pointer (some ⟨bn, 0, none⟩), .pointer (some ⟨bo, 0, none⟩)] w (Quiet (.bool true) w) := by
  go_enter Try.func23, Try.ntmps23
  go_wp2
  all_goals
    go_ret
    exact ⟨ret_bool rfl, 0, rfl⟩

set_option maxHeartbeats 4000000 in
theorem inner_5 (k bo bn : Nat) (_hk : k < 256) (O N D M : Int) (_h1 : ¬ N < 1) (_h2 : ¬ (k : Int) * 16 + 16 - 1 < O) (_h3 : ¬ (k : Int) * 16 ≤ O) (_hD : IntKind.u64.wrap ((k : Int) * 16 - IntKind.u64.wrap O) = D) (_hM : IntKind.u64.wrap N = M) (_hd : ¬ D < M) (w : World) (_g0 : w.cell? ⟨bo, 0, none⟩ = some (.int .i64 O)) (_g1 : w.cell? ⟨bn, 0, none⟩ = some (.int .i64 N)) :
    Calls Try.prog 23 #[.int .i64 (k : Int), .pointer (some ⟨bn, 0, none⟩), .pointer (some ⟨bo, 0, none⟩)] w (Quiet (.bool false) w) := by
  go_enter Try.func23, Try.ntmps23
  go_wp2
  all_goals
    go_ret
    exact ⟨ret_bool rfl, 0, rfl⟩

theorem inner_any (k bo bn : Nat) (hk : k < 256) (O N : Int) (hO : -9223372036854775808 ≤ O) (hN : N < 9223372036854775808) (w : World) (g0 : w.cell? ⟨bo, 0, none⟩ = some (.int .i64 O)) (g1 : w.cell? ⟨bn, 0, none⟩ = some (.int .i64 N)) :
    Calls Try.prog 23 #[.int .i64 (k : Int), .pointer (some ⟨bn, 0, none⟩), .pointer (some ⟨bo, 0, none⟩)] w (Quiet (.bool (touch O N k)) w) := by
  unfold touch
  by_cases h1 : N < 1
  · rw [decide_eq_false (show ¬ 1 ≤ N by omega)]
    exact inner_1 k bo bn hk O N h1 w g0 g1
  rw [decide_eq_true (show 1 ≤ N by omega)]
  by_cases h2 : (k : Int) * 16 + 16 - 1 < O
  · rw [decide_eq_false (show ¬ O ≤ 16 * (k : Int) + 15 by omega)]
    exact inner_2 k bo bn hk O N h1 h2 w g0 g1
  rw [decide_eq_true (show O ≤ 16 * (k : Int) + 15 by omega)]
  by_cases h3 : (k : Int) * 16 ≤ O
  · rw [decide_eq_true (show 16 * (k : Int) < O + N by omega)]
    exact inner_3 k bo bn hk O N h1 h2 h3 w g0 g1
  have hf := far_num ((k : Int) * 16) O N (by omega) (by omega) hO (by omega) (by omega) hN
  by_cases h4 : (k : Int) * 16 < O + N
  · rw [decide_eq_true (show 16 * (k : Int) < O + N by omega)]
    exact inner_4 k bo bn hk O N _ _ h1 h2 h3 rfl rfl (hf.2 h4) w g0 g1
  · rw [decide_eq_false (show ¬ 16 * (k : Int) < O + N by omega)]
    exact inner_5 k bo bn hk O N _ _ h1 h2 h3 rfl rfl (fun e => h4 (hf.1 e)) w g0 g1

set_option maxRecDepth 100000 in
set_option maxHeartbeats 40000000 in
theorem those_any (O N : Int) (bo bn : Nat) (hO : -9223372036854775808 ≤ O) (hN : N < 9223372036854775808) (w : World) (g0 : w.cell? ⟨bo, 0, none⟩ = some (.int .i64 O)) (g1 : w.cell? ⟨bn, 0, none⟩ = some (.int .i64 N)) :
    Calls Try.prog 22 #[.func (.func 23) #[] #[.pointer (some ⟨bn, 0, none⟩), .pointer (some ⟨bo, 0, none⟩)]] w (Makes (.agg #[.int .u64 ((wd (coverS O N) 0).toNat : Int), .int .u64 ((wd (coverS O N) 1).toNat : Int), .int .u64 ((wd (coverS O N) 2).toNat : Int), .int .u64 ((wd (coverS O N) 3).toNat : Int)]) w) := by
  have HI := hide (fun (k : Nat) (hk : k < 256) W h0 h1 => inner_any k bo bn hk O N hO hN W h0 h1)
  have HW := hide (fun (k : Nat) (hk : k < 256) (b : Bool) W => (by have := with_any (covK O N k) (k : Int) b W; unfold withS at this; rw [gran_nat hk, if_pos rfl, Int.toNat_natCast] at this; exact this : Calls Try.prog 13 #[.agg #[.int .u64 ((wd (covK O N k) 0).toNat : Int), .int .u64 ((wd (covK O N k) 1).toNat : Int), .int .u64 ((wd (covK O N k) 2).toNat : Int), .int .u64 ((wd (covK O N k) 3).toNat : Int)], .int .i64 (k : Int), .bool b] W (Makes (.agg #[.int .u64 ((wd (put1 (covK O N k) k b) 0).toNat : Int), .int .u64 ((wd (put1 (covK O N k) k b) 1).toNat : Int), .int .u64 ((wd (put1 (covK O N k) k b) 2).toNat : Int), .int .u64 ((wd (put1 (covK O N k) k b) 3).toNat : Int)]) W)))
  clear hO hN
  have hbo : bo < w.heap.size := World.block_lt_of_cell? _ _ g0
  have hbn : bn < w.heap.size := World.block_lt_of_cell? _ _ g1
  have SS := cell_same
  have LB' := ltB_add
  have LS := ltB_self
  have LA' := alloc_reads
  have LH := alloc_holds
  go_enter Try.func22, Try.ntmps22
  go_wp2
  go_loopw [5] (fun i wr => ∃ k : Nat, k ≤ 256 ∧ i = .int .i64 (k : Int) ∧ wr.cell? ⟨w.heap.size + 1, 0, none⟩ = some (.int .u64 ((wd (covK O N k) 0).toNat : Int)) ∧ wr.cell? ⟨w.heap.size + 1, 1, none⟩ = some (.int .u64 ((wd (covK O N k) 1).toNat : Int)) ∧ wr.cell? ⟨w.heap.size + 1, 2, none⟩ = some (.int .u64 ((wd (covK O N k) 2).toNat : Int)) ∧ wr.cell? ⟨w.heap.size + 1, 3, none⟩ = some (.int .u64 ((wd (covK O N k) 3).toNat : Int)) ∧ Own wr (w.heap.size + 1) 4 ∧ Own wr w.heap.size 4 ∧ wr.cell? ⟨bo, 0, none⟩ = some (.int .i64 O) ∧ wr.cell? ⟨bn, 0, none⟩ = some (.int .i64 N) ∧ Below w.heap.size w wr) (fun i _ => 256 - (intOf i).toNat)
  case atStart =>
    refine ⟨0, by omega, rfl, ?_, ?_, ?_, ?_, ?_, ?_, ?_, ?_, ?_⟩
    · rw [show wd (covK O N 0) 0 = 0#64 from wd_zero 0]; simp [go_sem]
    · rw [show wd (covK O N 0) 1 = 0#64 from wd_zero 1]; simp [go_sem]
    · rw [show wd (covK O N 0) 2 = 0#64 from wd_zero 2]; simp [go_sem]
    · rw [show wd (covK O N 0) 3 = 0#64 from wd_zero 3]; simp [go_sem]
    all_goals (first | with_reducible assumption | ((repeat (first | with_reducible assumption | with_reducible refine c_dr _ ?_ | with_reducible refine c_d1 ?_ | with_reducible refine c_al _ ?_ | (with_reducible refine c_set ?_ ?_; focus (dsimp only; omega)) | (with_reducible apply c_be; with_reducible assumption))); done) | ((repeat (first | with_reducible assumption | with_reducible refine o_dr _ ?_ | with_reducible refine o_d1 ?_ | with_reducible refine o_set ?_ | (with_reducible refine o_new ?_ ?_; (focus (simp)); (focus (simp))) | with_reducible refine o_al _ ?_ | (with_reducible apply o_be; with_reducible assumption))); done) | ((repeat (first | with_reducible assumption | with_reducible exact Below.refl _ _ | with_reducible refine Below.drew ?_ | with_reducible refine below_drewN ?_ _ | with_reducible refine bw_alloc ?_ _ | (with_reducible refine bw_set ?_ ?_ _; focus (dsimp only; omega)) | (with_reducible apply bw_behind; with_reducible assumption))); done) | (simp [go_sem, *]; omega) | (simp (maxDischargeDepth := 4) [go_sem, *]; done))
  case round =>
    obtain ⟨k, hk, rfl, c0, c1, c2, c3, o1, o0, d0, d1, hB⟩ := hrel
    have hlt := World.block_lt_of_cell? _ _ c0
    obtain ⟨z, hz⟩ : ∃ z, wr.heap.size = w.heap.size + 1 + 1 + z := ⟨wr.heap.size - (w.heap.size + 1 + 1), by dsimp only at hlt; omega⟩
    by_cases h2 : k < 256
    · have CI := hide (HI.out k h2)
      have hW := HW.out k h2 (touch O N k)
      rw [show put1 (covK O N k) k (touch O N k) = covK O N (k + 1) from rfl] at hW
      generalize eA0 : ((wd (covK O N k) 0).toNat : Int) = A0 at *
      generalize eA1 : ((wd (covK O N k) 1).toNat : Int) = A1 at *
      generalize eA2 : ((wd (covK O N k) 2).toNat : Int) = A2 at *
      generalize eA3 : ((wd (covK O N k) 3).toNat : Int) = A3 at *
      generalize eB0 : ((wd (covK O N (k + 1)) 0).toNat : Int) = B0 at *
      generalize eB1 : ((wd (covK O N (k + 1)) 1).toNat : Int) = B1 at *
      generalize eB2 : ((wd (covK O N (k + 1)) 2).toNat : Int) = B2 at *
      generalize eB3 : ((wd (covK O N (k + 1)) 3).toNat : Int) = B3 at *
      generalize touch O N k = b at *
      have CW := hide hW
      have HE := hide (And.intro eB0 (And.intro eB1 (And.intro eB2 eB3)))
      clear hW eB0 eB1 eB2 eB3 eA0 eA1 eA2 eA3 hlt
      have f0 := o1.free 0 (by omega)
      have f1 := o1.free 1 (by omega)
      have f2 := o1.free 2 (by omega)
      have f3 := o1.free 3 (by omega)
      go_upto_region 5 with fail
      go_region_with (first | (go_at_call 23; (with_reducible refine (CI.out _ ?_ ?_).mono ?_); (focus (repeat (first | with_reducible assumption | with_reducible refine c_dr _ ?_ | with_reducible refine c_d1 ?_ | with_reducible refine c_al _ ?_ | (with_reducible refine c_set ?_ ?_; focus (dsimp only; omega)) | (with_reducible apply c_be; with_reducible assumption)))); (focus (repeat (first | with_reducible assumption | with_reducible refine c_dr _ ?_ | with_reducible refine c_d1 ?_ | with_reducible refine c_al _ ?_ | (with_reducible refine c_set ?_ ?_; focus (dsimp only; omega)) | (with_reducible apply c_be; with_reducible assumption)))); rintro e w' ⟨rfl, n1, rfl⟩) | (go_at_call 13; (with_reducible first | refine (CW.out _).mono ?_); rintro e wq ⟨rfl, hbq⟩; have hrq := below_reads hbq; have hhq := below_holds hbq; obtain ⟨mq, hsq⟩ := below_grew hbq))
      all_goals
        go_wp2_with fail
        go_roundw
        case rel =>
          refine ⟨k + 1, by omega, by go_num, ?_, ?_, ?_, ?_, ?_, ?_, ?_, ?_, ?_⟩
          · rw [HE.out.1]; (first | with_reducible assumption | ((repeat (first | with_reducible assumption | with_reducible refine c_dr _ ?_ | with_reducible refine c_d1 ?_ | with_reducible refine c_al _ ?_ | (with_reducible refine c_set ?_ ?_; focus (dsimp only; omega)) | (with_reducible apply c_be; with_reducible assumption))); done) | ((repeat (first | with_reducible assumption | with_reducible refine o_dr _ ?_ | with_reducible refine o_d1 ?_ | with_reducible refine o_set ?_ | (with_reducible refine o_new ?_ ?_; (focus (simp)); (focus (simp))) | with_reducible refine o_al _ ?_ | (with_reducible apply o_be; with_reducible assumption))); done) | ((repeat (first | with_reducible assumption | with_reducible exact Below.refl _ _ | with_reducible refine Below.drew ?_ | with_reducible refine below_drewN ?_ _ | with_reducible refine bw_alloc ?_ _ | (with_reducible refine bw_set ?_ ?_ _; focus (dsimp only; omega)) | (with_reducible apply bw_behind; with_reducible assumption))); done) | (simp [go_sem, *]; omega) | (simp (maxDischargeDepth := 4) [go_sem, *]; done))
          · rw [HE.out.2.1]; (first | with_reducible assumption | ((repeat (first | with_reducible assumption | with_reducible refine c_dr _ ?_ | with_reducible refine c_d1 ?_ | with_reducible refine c_al _ ?_ | (with_reducible refine c_set ?_ ?_; focus (dsimp only; omega)) | (with_reducible apply c_be; with_reducible assumption))); done) | ((repeat (first | with_reducible assumption | with_reducible refine o_dr _ ?_ | with_reducible refine o_d1 ?_ | with_reducible refine o_set ?_ | (with_reducible refine o_new ?_ ?_; (focus (simp)); (focus (simp))) | with_reducible refine o_al _ ?_ | (with_reducible apply o_be; with_reducible assumption))); done) | ((repeat (first | with_reducible assumption | with_reducible exact Below.refl _ _ | with_reducible refine Below.drew ?_ | with_reducible refine below_drewN ?_ _ | with_reducible refine bw_alloc ?_ _ | (with_reducible refine bw_set ?_ ?_ _; focus (dsimp only; omega)) | (with_reducible apply bw_behind; with_reducible assumption))); done) | (simp [go_sem, *]; omega) | (simp (maxDischargeDepth := 4) [go_sem, *]; done))
          · rw [HE.out.2.2.1]; (first | with_reducible assumption | ((repeat (first | with_reducible assumption | with_reducible refine c_dr _ ?_ | with_reducible refine c_d1 ?_ | with_reducible refine c_al _ ?_ | (with_reducible refine c_set ?_ ?_; focus (dsimp only; omega)) | (with_reducible apply c_be; with_reducible assumption))); done) | ((repeat (first | with_reducible assumption | with_reducible refine o_dr _ ?_ | with_reducible refine o_d1 ?_ | with_reducible refine o_set ?_ | (with_reducible refine o_new ?_ ?_; (focus (simp)); (focus (simp))) | with_reducible refine o_al _ ?_ | (with_reducible apply o_be; with_reducible assumption))); done) | ((repeat (first | with_reducible assumption | with_reducible exact Below.refl _ _ | with_reducible refine Below.drew ?_ | with_reducible refine below_drewN ?_ _ | with_reducible refine bw_alloc ?_ _ | (with_reducible refine bw_set ?_ ?_ _; focus (dsimp only; omega)) | (with_reducible apply bw_behind; with_reducible assumption))); done) | (simp [go_sem, *]; omega) | (simp (maxDischargeDepth := 4) [go_sem, *]; done))
          · rw [HE.out.2.2.2]; (first | with_reducible assumption | ((repeat (first | with_reducible assumption | with_reducible refine c_dr _ ?_ | with_reducible refine c_d1 ?_ | with_reducible refine c_al _ ?_ | (with_reducible refine c_set ?_ ?_; focus (dsimp only; omega)) | (with_reducible apply c_be; with_reducible assumption))); done) | ((repeat (first | with_reducible assumption | with_reducible refine o_dr _ ?_ | with_reducible refine o_d1 ?_ | with_reducible refine o_set ?_ | (with_reducible refine o_new ?_ ?_; (focus (simp)); (focus (simp))) | with_reducible refine o_al _ ?_ | (with_reducible apply o_be; with_reducible assumption))); done) | ((repeat (first | with_reducible assumption | with_reducible exact Below.refl _ _ | with_reducible refine Below.drew ?_ | with_reducible refine below_drewN ?_ _ | with_reducible refine bw_alloc ?_ _ | (with_reducible refine bw_set ?_ ?_ _; focus (dsimp only; omega)) | (with_reducible apply bw_behind; with_reducible assumption))); done) | (simp [go_sem, *]; omega) | (simp (maxDischargeDepth := 4) [go_sem, *]; done))
          all_goals (first | with_reducible assumption | ((repeat (first | with_reducible assumption | with_reducible refine c_dr _ ?_ | with_reducible refine c_d1 ?_ | with_reducible refine c_al _ ?_ | (with_reducible refine c_set ?_ ?_; focus (dsimp only; omega)) | (with_reducible apply c_be; with_reducible assumption))); done) | ((repeat (first | with_reducible assumption | with_reducible refine o_dr _ ?_ | with_reducible refine o_d1 ?_ | with_reducible refine o_set ?_ | (with_reducible refine o_new ?_ ?_; (focus (simp)); (focus (simp))) | with_reducible refine o_al _ ?_ | (with_reducible apply o_be; with_reducible assumption))); done) | ((repeat (first | with_reducible assumption | with_reducible exact Below.refl _ _ | with_reducible refine Below.drew ?_ | with_reducible refine below_drewN ?_ _ | with_reducible refine bw_alloc ?_ _ | (with_reducible refine bw_set ?_ ?_ _; focus (dsimp only; omega)) | (with_reducible apply bw_behind; with_reducible assumption))); done) | (simp [go_sem, *]; omega) | (simp (maxDischargeDepth := 4) [go_sem, *]; done))
        case measure => simp [intOf]; omega
    · obtain rfl : k = 256 := by omega
      rw [show covK O N 256 = coverS O N from rfl] at c0 c1 c2 c3
      obtain ⟨v0, e0⟩ := o0.val 0 (by omega)
      have f0 := o0.free 0 (by omega)
      obtain ⟨v1, e1⟩ := o0.val 1 (by omega)
      have f1 := o0.free 1 (by omega)
      obtain ⟨v2, e2⟩ := o0.val 2 (by omega)
      have f2 := o0.free 2 (by omega)
      obtain ⟨v3, e3⟩ := o0.val 3 (by omega)
      have f3 := o0.free 3 (by omega)
      go_wp2
      refine bodyPost_ret (v := .agg #[.int .u64 ((wd (coverS O N) 0).toNat : Int), .int .u64 ((wd (coverS O N) 1).toNat : Int), .int .u64 ((wd (coverS O N) 2).toNat : Int), .int .u64 ((wd (coverS O N) 3).toNat : Int)]) (by simp (maxDischargeDepth := 4) [results, Try.results22, go_sem, *]) rfl ?_
      refine ⟨rfl, ?_⟩
      repeat (first | with_reducible assumption | with_reducible exact Below.refl _ _ | with_reducible refine Below.drew ?_ | with_reducible refine below_drewN ?_ _ | with_reducible refine bw_alloc ?_ _ | (with_reducible refine bw_set ?_ ?_ _; focus (dsimp only; omega)) | (with_reducible apply bw_behind; with_reducible assumption))end Go.Proofs.Ytpikipfchkhnbaa
