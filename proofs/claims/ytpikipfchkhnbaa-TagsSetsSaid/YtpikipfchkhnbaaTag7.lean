/-
  What Cover answers, and the document's.
-/
import Derived.Test.YtpikipfchkhnbaaTag6
namespace Go.Proofs.Ytpikipfchkhnbaa
open Go.RowKit Words

set_option maxRecDepth 100000 in
set_option maxHeartbeats 4000000 in
theorem cover_let (O N B0 B1 B2 B3 : Int) (c1 : ∀ (bo bn : Nat) (W : World), W.cell? ⟨bo, 0, none⟩ = some (.int .i64 O) → W.cell? ⟨bn, 0, none⟩ = some (.int .i64 N) → Calls Try.prog 22 #[.func (.func 23) #[] #[.pointer (some ⟨bn, 0, none⟩), .pointer (some ⟨bo, 0, none⟩)]] W (Makes (.agg #[.int .u64 B0, .int .u64 B1, .int .u64 B2, .int .u64 B3]) W)) (w : World) :
    Calls Try.prog 17 #[.int .i64 O, .int .i64 N] w (Makes (.agg #[.int .u64 B0, .int .u64 B1, .int .u64 B2, .int .u64 B3]) w) := by
  have C1 := hide c1
  clear c1
  have SS := cell_same
  have LB' := ltB_add
  have LS := ltB_self
  have LA' := alloc_reads
  have LH := alloc_holds
  go_enter Try.func17, Try.ntmps17
  go_wp2_with (first | (go_at_call 22; (with_reducible refine (C1.out w.heap.size (w.heap.size + 1) _ ?_ ?_).mono ?_); (focus (simp [go_sem])); (focus (simp [go_sem])); rintro e w2 ⟨rfl, hb2⟩; have hr2 := below_reads hb2; have hh2 := below_holds hb2; obtain ⟨m2, hs2⟩ := below_grew hb2))
  refine bodyPost_ret (v := .agg #[.int .u64 B0, .int .u64 B1, .int .u64 B2, .int .u64 B3]) (by simp (maxDischargeDepth := 4) [results, Try.results17, go_sem, *]) rfl ?_
  refine ⟨rfl, ?_⟩
  repeat (first | with_reducible assumption | with_reducible exact Below.refl _ _ | with_reducible refine Below.drew ?_ | with_reducible refine below_drewN ?_ _ | with_reducible refine bw_alloc ?_ _ | (with_reducible refine bw_set ?_ ?_ _; focus (dsimp only; omega)) | (with_reducible apply bw_behind; with_reducible assumption))

theorem cover_any (O N : Int) (hO : -9223372036854775808 ≤ O) (hN : N < 9223372036854775808) (w : World) : Calls Try.prog 17 #[.int .i64 O, .int .i64 N] w (Makes (.agg #[.int .u64 ((wd (coverS O N) 0).toNat : Int), .int .u64 ((wd (coverS O N) 1).toNat : Int), .int .u64 ((wd (coverS O N) 2).toNat : Int), .int .u64 ((wd (coverS O N) 3).toNat : Int)]) w) :=
  cover_let O N _ _ _ _ (fun bo bn W h0 h1 => those_any O N bo bn hO hN W h0 h1) w

set_option maxRecDepth 100000 in
set_option maxHeartbeats 40000000 in
theorem rcover_yes (O N : Int) (hO : -9223372036854775808 ≤ O) (hN1 : 1 ≤ N) (hN : N < 9223372036854775808) (w : World) : Calls Try.prog 18 #[.int .i64 O, .int .i64 N] w (Makes (.agg #[.int .u64 ((wd (coverS O N) 0).toNat : Int), .int .u64 ((wd (coverS O N) 1).toNat : Int), .int .u64 ((wd (coverS O N) 2).toNat : Int), .int .u64 ((wd (coverS O N) 3).toNat : Int)]) w) := by
  have HF := hide (fun (k : Nat) (hk : k < 256) (h : O < 16 * (k : Int)) => far_num (16 * (k : Int)) O N (by omega) (by omega) hO h hN1 hN)
  have HW := hide (fun (k : Nat) (hk : k < 256) (b : Bool) W => (by have := rwith_any (covK O N k) (k : Int) b W; unfold withS at this; rw [gran_nat hk, if_pos rfl, Int.toNat_natCast] at this; exact this : Calls Try.prog 14 #[.agg #[.int .u64 ((wd (covK O N k) 0).toNat : Int), .int .u64 ((wd (covK O N k) 1).toNat : Int), .int .u64 ((wd (covK O N k) 2).toNat : Int), .int .u64 ((wd (covK O N k) 3).toNat : Int)], .int .i64 (k : Int), .bool b] W (Makes (.agg #[.int .u64 ((wd (put1 (covK O N k) k b) 0).toNat : Int), .int .u64 ((wd (put1 (covK O N k) k b) 1).toNat : Int), .int .u64 ((wd (put1 (covK O N k) k b) 2).toNat : Int), .int .u64 ((wd (put1 (covK O N k) k b) 3).toNat : Int)]) W)))
  have HT := hide (fun k : Nat => show touch O N k = (decide (O ≤ 16 * (k : Int) + 15) && decide (16 * (k : Int) < O + N)) by unfold touch; simp [hN1])
  have hN0 : 0 < N := by omega
  clear hO hN hN1
  have SS := cell_same
  have LB' := ltB_add
  have LS := ltB_self
  have LA' := alloc_reads
  have LH := alloc_holds
  go_enter Try.func18, Try.ntmps18
  go_wp2
  go_loopw [6] (fun i wr => ∃ k : Nat, k ≤ 256 ∧ i = .int .i64 (k : Int) ∧ wr.cell? ⟨w.heap.size + 1, 0, none⟩ = some (.int .u64 ((wd (covK O N k) 0).toNat : Int)) ∧ wr.cell? ⟨w.heap.size + 1, 1, none⟩ = some (.int .u64 ((wd (covK O N k) 1).toNat : Int)) ∧ wr.cell? ⟨w.heap.size + 1, 2, none⟩ = some (.int .u64 ((wd (covK O N k) 2).toNat : Int)) ∧ wr.cell? ⟨w.heap.size + 1, 3, none⟩ = some (.int .u64 ((wd (covK O N k) 3).toNat : Int)) ∧ Own wr (w.heap.size + 1) 4 ∧ Own wr w.heap.size 4 ∧ Below w.heap.size w wr) (fun i _ => 256 - (intOf i).toNat)
  case atStart =>
    refine ⟨0, by omega, rfl, ?_, ?_, ?_, ?_, ?_, ?_, ?_⟩
    · rw [show wd (covK O N 0) 0 = 0#64 from wd_zero 0]; simp [go_sem]
    · rw [show wd (covK O N 0) 1 = 0#64 from wd_zero 1]; simp [go_sem]
    · rw [show wd (covK O N 0) 2 = 0#64 from wd_zero 2]; simp [go_sem]
    · rw [show wd (covK O N 0) 3 = 0#64 from wd_zero 3]; simp [go_sem]
    all_goals (first | with_reducible assumption | ((repeat (first | with_reducible assumption | with_reducible refine c_dr _ ?_ | with_reducible refine c_d1 ?_ | with_reducible refine c_al _ ?_ | (with_reducible refine c_set ?_ ?_; focus (dsimp only; omega)) | (with_reducible apply c_be; with_reducible assumption))); done) | ((repeat (first | with_reducible assumption | with_reducible refine o_dr _ ?_ | with_reducible refine o_d1 ?_ | with_reducible refine o_set ?_ | (with_reducible refine o_new ?_ ?_; (focus (simp)); (focus (simp))) | with_reducible refine o_al _ ?_ | (with_reducible apply o_be; with_reducible assumption))); done) | ((repeat (first | with_reducible assumption | with_reducible exact Below.refl _ _ | with_reducible refine Below.drew ?_ | with_reducible refine below_drewN ?_ _ | with_reducible refine bw_alloc ?_ _ | (with_reducible refine bw_set ?_ ?_ _; focus (dsimp only; omega)) | (with_reducible apply bw_behind; with_reducible assumption))); done) | (simp [go_sem, *]; omega) | (simp (maxDischargeDepth := 4) [go_sem, *]; done))
  case round =>
    obtain ⟨k, hk, rfl, c0, c1, c2, c3, o1, o0, hB⟩ := hrel
    have hlt := World.block_lt_of_cell? _ _ c0
    obtain ⟨z, hz⟩ : ∃ z, wr.heap.size = w.heap.size + 1 + 1 + z := ⟨wr.heap.size - (w.heap.size + 1 + 1), by dsimp only at hlt; omega⟩
    clear hlt
    by_cases h2 : k < 256
    · have hW := HW.out k h2 true
      have hti := HT.out k
      by_cases a1 : O ≤ 16 * (k : Int) + 15
      · by_cases a2 : 16 * (k : Int) ≤ O
        · have ht : touch O N k = true := by rw [hti]; simp; omega
          clear hti
          have HH := hide (show covK O N (k + 1) = put1 (covK O N k) k true by rw [covK, ht])
          rw [← HH.out] at hW
          clear ht
          generalize eA0 : ((wd (covK O N k) 0).toNat : Int) = A0 at *
          generalize eA1 : ((wd (covK O N k) 1).toNat : Int) = A1 at *
          generalize eA2 : ((wd (covK O N k) 2).toNat : Int) = A2 at *
          generalize eA3 : ((wd (covK O N k) 3).toNat : Int) = A3 at *
          generalize eB0 : ((wd (covK O N (k + 1)) 0).toNat : Int) = B0 at *
          generalize eB1 : ((wd (covK O N (k + 1)) 1).toNat : Int) = B1 at *
          generalize eB2 : ((wd (covK O N (k + 1)) 2).toNat : Int) = B2 at *
          generalize eB3 : ((wd (covK O N (k + 1)) 3).toNat : Int) = B3 at *
          have CW := hide hW
          have HE := hide (And.intro eB0 (And.intro eB1 (And.intro eB2 eB3)))
          clear hW eB0 eB1 eB2 eB3 eA0 eA1 eA2 eA3
          have f0 := o1.free 0 (by omega)
          have f1 := o1.free 1 (by omega)
          have f2 := o1.free 2 (by omega)
          have f3 := o1.free 3 (by omega)
          go_wp2_with (first | (go_at_call 14; (with_reducible first | refine (CW.out _).mono ?_); rintro e wq ⟨rfl, hbq⟩; have hrq := below_reads hbq; have hhq := below_holds hbq; obtain ⟨mq, hsq⟩ := below_grew hbq))
          go_roundw
          case rel =>
            refine ⟨k + 1, by omega, by go_num, ?_, ?_, ?_, ?_, ?_, ?_, ?_⟩
            · rw [HE.out.1]; (first | with_reducible assumption | ((repeat (first | with_reducible assumption | with_reducible refine c_dr _ ?_ | with_reducible refine c_d1 ?_ | with_reducible refine c_al _ ?_ | (with_reducible refine c_set ?_ ?_; focus (dsimp only; omega)) | (with_reducible apply c_be; with_reducible assumption))); done) | ((repeat (first | with_reducible assumption | with_reducible refine o_dr _ ?_ | with_reducible refine o_d1 ?_ | with_reducible refine o_set ?_ | (with_reducible refine o_new ?_ ?_; (focus (simp)); (focus (simp))) | with_reducible refine o_al _ ?_ | (with_reducible apply o_be; with_reducible assumption))); done) | ((repeat (first | with_reducible assumption | with_reducible exact Below.refl _ _ | with_reducible refine Below.drew ?_ | with_reducible refine below_drewN ?_ _ | with_reducible refine bw_alloc ?_ _ | (with_reducible refine bw_set ?_ ?_ _; focus (dsimp only; omega)) | (with_reducible apply bw_behind; with_reducible assumption))); done) | (simp [go_sem, *]; omega) | (simp (maxDischargeDepth := 4) [go_sem, *]; done))
            · rw [HE.out.2.1]; (first | with_reducible assumption | ((repeat (first | with_reducible assumption | with_reducible refine c_dr _ ?_ | with_reducible refine c_d1 ?_ | with_reducible refine c_al _ ?_ | (with_reducible refine c_set ?_ ?_; focus (dsimp only; omega)) | (with_reducible apply c_be; with_reducible assumption))); done) | ((repeat (first | with_reducible assumption | with_reducible refine o_dr _ ?_ | with_reducible refine o_d1 ?_ | with_reducible refine o_set ?_ | (with_reducible refine o_new ?_ ?_; (focus (simp)); (focus (simp))) | with_reducible refine o_al _ ?_ | (with_reducible apply o_be; with_reducible assumption))); done) | ((repeat (first | with_reducible assumption | with_reducible exact Below.refl _ _ | with_reducible refine Below.drew ?_ | with_reducible refine below_drewN ?_ _ | with_reducible refine bw_alloc ?_ _ | (with_reducible refine bw_set ?_ ?_ _; focus (dsimp only; omega)) | (with_reducible apply bw_behind; with_reducible assumption))); done) | (simp [go_sem, *]; omega) | (simp (maxDischargeDepth := 4) [go_sem, *]; done))
            · rw [HE.out.2.2.1]; (first | with_reducible assumption | ((repeat (first | with_reducible assumption | with_reducible refine c_dr _ ?_ | with_reducible refine c_d1 ?_ | with_reducible refine c_al _ ?_ | (with_reducible refine c_set ?_ ?_; focus (dsimp only; omega)) | (with_reducible apply c_be; with_reducible assumption))); done) | ((repeat (first | with_reducible assumption | with_reducible refine o_dr _ ?_ | with_reducible refine o_d1 ?_ | with_reducible refine o_set ?_ | (with_reducible refine o_new ?_ ?_; (focus (simp)); (focus (simp))) | with_reducible refine o_al _ ?_ | (with_reducible apply o_be; with_reducible assumption))); done) | ((repeat (first | with_reducible assumption | with_reducible exact Below.refl _ _ | with_reducible refine Below.drew ?_ | with_reducible refine below_drewN ?_ _ | with_reducible refine bw_alloc ?_ _ | (with_reducible refine bw_set ?_ ?_ _; focus (dsimp only; omega)) | (with_reducible apply bw_behind; with_reducible assumption))); done) | (simp [go_sem, *]; omega) | (simp (maxDischargeDepth := 4) [go_sem, *]; done))
            · rw [HE.out.2.2.2]; (first | with_reducible assumption | ((repeat (first | with_reducible assumption | with_reducible refine c_dr _ ?_ | with_reducible refine c_d1 ?_ | with_reducible refine c_al _ ?_ | (with_reducible refine c_set ?_ ?_; focus (dsimp only; omega)) | (with_reducible apply c_be; with_reducible assumption))); done) | ((repeat (first | with_reducible assumption | with_reducible refine o_dr _ ?_ | with_reducible refine o_d1 ?_ | with_reducible refine o_set ?_ | (with_reducible refine o_new ?_ ?_; (focus (simp)); (focus (simp))) | with_reducible refine o_al _ ?_ | (with_reducible apply o_be; with_reducible assumption))); done) | ((repeat (first | with_reducible assumption | with_reducible exact Below.refl _ _ | with_reducible refine Below.drew ?_ | with_reducible refine below_drewN ?_ _ | with_reducible refine bw_alloc ?_ _ | (with_reducible refine bw_set ?_ ?_ _; focus (dsimp only; omega)) | (with_reducible apply bw_behind; with_reducible assumption))); done) | (simp [go_sem, *]; omega) | (simp (maxDischargeDepth := 4) [go_sem, *]; done))
            all_goals (first | with_reducible assumption | ((repeat (first | with_reducible assumption | with_reducible refine c_dr _ ?_ | with_reducible refine c_d1 ?_ | with_reducible refine c_al _ ?_ | (with_reducible refine c_set ?_ ?_; focus (dsimp only; omega)) | (with_reducible apply c_be; with_reducible assumption))); done) | ((repeat (first | with_reducible assumption | with_reducible refine o_dr _ ?_ | with_reducible refine o_d1 ?_ | with_reducible refine o_set ?_ | (with_reducible refine o_new ?_ ?_; (focus (simp)); (focus (simp))) | with_reducible refine o_al _ ?_ | (with_reducible apply o_be; with_reducible assumption))); done) | ((repeat (first | with_reducible assumption | with_reducible exact Below.refl _ _ | with_reducible refine Below.drew ?_ | with_reducible refine below_drewN ?_ _ | with_reducible refine bw_alloc ?_ _ | (with_reducible refine bw_set ?_ ?_ _; focus (dsimp only; omega)) | (with_reducible apply bw_behind; with_reducible assumption))); done) | (simp [go_sem, *]; omega) | (simp (maxDischargeDepth := 4) [go_sem, *]; done))
          case measure => simp [intOf]; omega
        · have a2' : O < 16 * (k : Int) := by omega
          have hfar := HF.out k h2 a2'
          obtain ⟨D, hD⟩ : ∃ D, IntKind.u64.wrap (16 * (k : Int) - IntKind.u64.wrap O) = D := ⟨_, rfl⟩
          obtain ⟨M, hM⟩ : ∃ M, IntKind.u64.wrap N = M := ⟨_, rfl⟩
          rw [hD, hM] at hfar
          by_cases a3 : D < M
          · have ht : touch O N k = true := by rw [hti]; have := hfar.1 a3; simp; omega
            clear hti hfar
            have HH := hide (show covK O N (k + 1) = put1 (covK O N k) k true by rw [covK, ht])
            rw [← HH.out] at hW
            clear ht
            generalize eA0 : ((wd (covK O N k) 0).toNat : Int) = A0 at *
            generalize eA1 : ((wd (covK O N k) 1).toNat : Int) = A1 at *
            generalize eA2 : ((wd (covK O N k) 2).toNat : Int) = A2 at *
            generalize eA3 : ((wd (covK O N k) 3).toNat : Int) = A3 at *
            generalize eB0 : ((wd (covK O N (k + 1)) 0).toNat : Int) = B0 at *
            generalize eB1 : ((wd (covK O N (k + 1)) 1).toNat : Int) = B1 at *
            generalize eB2 : ((wd (covK O N (k + 1)) 2).toNat : Int) = B2 at *
            generalize eB3 : ((wd (covK O N (k + 1)) 3).toNat : Int) = B3 at *
            have CW := hide hW
            have HE := hide (And.intro eB0 (And.intro eB1 (And.intro eB2 eB3)))
            clear hW eB0 eB1 eB2 eB3 eA0 eA1 eA2 eA3
            have f0 := o1.free 0 (by omega)
            have f1 := o1.free 1 (by omega)
            have f2 := o1.free 2 (by omega)
            have f3 := o1.free 3 (by omega)
            go_wp2_with (first | (go_at_call 14; (with_reducible first | refine (CW.out _).mono ?_); rintro e wq ⟨rfl, hbq⟩; have hrq := below_reads hbq; have hhq := below_holds hbq; obtain ⟨mq, hsq⟩ := below_grew hbq))
            go_roundw
            case rel =>
              refine ⟨k + 1, by omega, by go_num, ?_, ?_, ?_, ?_, ?_, ?_, ?_⟩
              · rw [HE.out.1]; (first | with_reducible assumption | ((repeat (first | with_reducible assumption | with_reducible refine c_dr _ ?_ | with_reducible refine c_d1 ?_ | with_reducible refine c_al _ ?_ | (with_reducible refine c_set ?_ ?_; focus (dsimp only; omega)) | (with_reducible apply c_be; with_reducible assumption))); done) | ((repeat (first | with_reducible assumption | with_reducible refine o_dr _ ?_ | with_reducible refine o_d1 ?_ | with_reducible refine o_set ?_ | (with_reducible refine o_new ?_ ?_; (focus (simp)); (focus (simp))) | with_reducible refine o_al _ ?_ | (with_reducible apply o_be; with_reducible assumption))); done) | ((repeat (first | with_reducible assumption | with_reducible exact Below.refl _ _ | with_reducible refine Below.drew ?_ | with_reducible refine below_drewN ?_ _ | with_reducible refine bw_alloc ?_ _ | (with_reducible refine bw_set ?_ ?_ _; focus (dsimp only; omega)) | (with_reducible apply bw_behind; with_reducible assumption))); done) | (simp [go_sem, *]; omega) | (simp (maxDischargeDepth := 4) [go_sem, *]; done))
              · rw [HE.out.2.1]; (first | with_reducible assumption | ((repeat (first | with_reducible assumption | with_reducible refine c_dr _ ?_ | with_reducible refine c_d1 ?_ | with_reducible refine c_al _ ?_ | (with_reducible refine c_set ?_ ?_; focus (dsimp only; omega)) | (with_reducible apply c_be; with_reducible assumption))); done) | ((repeat (first | with_reducible assumption | with_reducible refine o_dr _ ?_ | with_reducible refine o_d1 ?_ | with_reducible refine o_set ?_ | (with_reducible refine o_new ?_ ?_; (focus (simp)); (focus (simp))) | with_reducible refine o_al _ ?_ | (with_reducible apply o_be; with_reducible assumption))); done) | ((repeat (first | with_reducible assumption | with_reducible exact Below.refl _ _ | with_reducible refine Below.drew ?_ | with_reducible refine below_drewN ?_ _ | with_reducible refine bw_alloc ?_ _ | (with_reducible refine bw_set ?_ ?_ _; focus (dsimp only; omega)) | (with_reducible apply bw_behind; with_reducible assumption))); done) | (simp [go_sem, *]; omega) | (simp (maxDischargeDepth := 4) [go_sem, *]; done))
              · rw [HE.out.2.2.1]; (first | with_reducible assumption | ((repeat (first | with_reducible assumption | with_reducible refine c_dr _ ?_ | with_reducible refine c_d1 ?_ | with_reducible refine c_al _ ?_ | (with_reducible refine c_set ?_ ?_; focus (dsimp only; omega)) | (with_reducible apply c_be; with_reducible assumption))); done) | ((repeat (first | with_reducible assumption | with_reducible refine o_dr _ ?_ | with_reducible refine o_d1 ?_ | with_reducible refine o_set ?_ | (with_reducible refine o_new ?_ ?_; (focus (simp)); (focus (simp))) | with_reducible refine o_al _ ?_ | (with_reducible apply o_be; with_reducible assumption))); done) | ((repeat (first | with_reducible assumption | with_reducible exact Below.refl _ _ | with_reducible refine Below.drew ?_ | with_reducible refine below_drewN ?_ _ | with_reducible refine bw_alloc ?_ _ | (with_reducible refine bw_set ?_ ?_ _; focus (dsimp only; omega)) | (with_reducible apply bw_behind; with_reducible assumption))); done) | (simp [go_sem, *]; omega) | (simp (maxDischargeDepth := 4) [go_sem, *]; done))
              · rw [HE.out.2.2.2]; (first | with_reducible assumption | ((repeat (first | with_reducible assumption | with_reducible refine c_dr _ ?_ | with_reducible refine c_d1 ?_ | with_reducible refine c_al _ ?_ | (with_reducible refine c_set ?_ ?_; focus (dsimp only; omega)) | (with_reducible apply c_be; with_reducible assumption))); done) | ((repeat (first | with_reducible assumption | with_reducible refine o_dr _ ?_ | with_reducible refine o_d1 ?_ | with_reducible refine o_set ?_ | (with_reducible refine o_new ?_ ?_; (focus (simp)); (focus (simp))) | with_reducible refine o_al _ ?_ | (with_reducible apply o_be; with_reducible assumption))); done) | ((repeat (first | with_reducible assumption | with_reducible exact Below.refl _ _ | with_reducible refine Below.drew ?_ | with_reducible refine below_drewN ?_ _ | with_reducible refine bw_alloc ?_ _ | (with_reducible refine bw_set ?_ ?_ _; focus (dsimp only; omega)) | (with_reducible apply bw_behind; with_reducible assumption))); done) | (simp [go_sem, *]; omega) | (simp (maxDischargeDepth := 4) [go_sem, *]; done))
              all_goals (first | with_reducible assumption | ((repeat (first | with_reducible assumption | with_reducible refine c_dr _ ?_ | with_reducible refine c_d1 ?_ | with_reducible refine c_al _ ?_ | (with_reducible refine c_set ?_ ?_; focus (dsimp only; omega)) | (with_reducible apply c_be; with_reducible assumption))); done) | ((repeat (first | with_reducible assumption | with_reducible refine o_dr _ ?_ | with_reducible refine o_d1 ?_ | with_reducible refine o_set ?_ | (with_reducible refine o_new ?_ ?_; (focus (simp)); (focus (simp))) | with_reducible refine o_al _ ?_ | (with_reducible apply o_be; with_reducible assumption))); done) | ((repeat (first | with_reducible assumption | with_reducible exact Below.refl _ _ | with_reducible refine Below.drew ?_ | with_reducible refine below_drewN ?_ _ | with_reducible refine bw_alloc ?_ _ | (with_reducible refine bw_set ?_ ?_ _; focus (dsimp only; omega)) | (with_reducible apply bw_behind; with_reducible assumption))); done) | (simp [go_sem, *]; omega) | (simp (maxDischargeDepth := 4) [go_sem, *]; done))
            case measure => simp [intOf]; omega
          · have ht : touch O N k = false := by rw [hti, decide_eq_false (fun e => a3 (hfar.2 e))]; simp
            clear hti hfar
            have HH := hide (put_out O N k h2 ht)
            clear ht hW
            go_wp2_with fail
            go_roundw
            case rel =>
              refine ⟨k + 1, by omega, by go_num, ?_, ?_, ?_, ?_, ?_, ?_, ?_⟩
              · rw [HH.out]; (first | with_reducible assumption | ((repeat (first | with_reducible assumption | with_reducible refine c_dr _ ?_ | with_reducible refine c_d1 ?_ | with_reducible refine c_al _ ?_ | (with_reducible refine c_set ?_ ?_; focus (dsimp only; omega)) | (with_reducible apply c_be; with_reducible assumption))); done) | ((repeat (first | with_reducible assumption | with_reducible refine o_dr _ ?_ | with_reducible refine o_d1 ?_ | with_reducible refine o_set ?_ | (with_reducible refine o_new ?_ ?_; (focus (simp)); (focus (simp))) | with_reducible refine o_al _ ?_ | (with_reducible apply o_be; with_reducible assumption))); done) | ((repeat (first | with_reducible assumption | with_reducible exact Below.refl _ _ | with_reducible refine Below.drew ?_ | with_reducible refine below_drewN ?_ _ | with_reducible refine bw_alloc ?_ _ | (with_reducible refine bw_set ?_ ?_ _; focus (dsimp only; omega)) | (with_reducible apply bw_behind; with_reducible assumption))); done) | (simp [go_sem, *]; omega) | (simp (maxDischargeDepth := 4) [go_sem, *]; done))
              · rw [HH.out]; (first | with_reducible assumption | ((repeat (first | with_reducible assumption | with_reducible refine c_dr _ ?_ | with_reducible refine c_d1 ?_ | with_reducible refine c_al _ ?_ | (with_reducible refine c_set ?_ ?_; focus (dsimp only; omega)) | (with_reducible apply c_be; with_reducible assumption))); done) | ((repeat (first | with_reducible assumption | with_reducible refine o_dr _ ?_ | with_reducible refine o_d1 ?_ | with_reducible refine o_set ?_ | (with_reducible refine o_new ?_ ?_; (focus (simp)); (focus (simp))) | with_reducible refine o_al _ ?_ | (with_reducible apply o_be; with_reducible assumption))); done) | ((repeat (first | with_reducible assumption | with_reducible exact Below.refl _ _ | with_reducible refine Below.drew ?_ | with_reducible refine below_drewN ?_ _ | with_reducible refine bw_alloc ?_ _ | (with_reducible refine bw_set ?_ ?_ _; focus (dsimp only; omega)) | (with_reducible apply bw_behind; with_reducible assumption))); done) | (simp [go_sem, *]; omega) | (simp (maxDischargeDepth := 4) [go_sem, *]; done))
              · rw [HH.out]; (first | with_reducible assumption | ((repeat (first | with_reducible assumption | with_reducible refine c_dr _ ?_ | with_reducible refine c_d1 ?_ | with_reducible refine c_al _ ?_ | (with_reducible refine c_set ?_ ?_; focus (dsimp only; omega)) | (with_reducible apply c_be; with_reducible assumption))); done) | ((repeat (first | with_reducible assumption | with_reducible refine o_dr _ ?_ | with_reducible refine o_d1 ?_ | with_reducible refine o_set ?_ | (with_reducible refine o_new ?_ ?_; (focus (simp)); (focus (simp))) | with_reducible refine o_al _ ?_ | (with_reducible apply o_be; with_reducible assumption))); done) | ((repeat (first | with_reducible assumption | with_reducible exact Below.refl _ _ | with_reducible refine Below.drew ?_ | with_reducible refine below_drewN ?_ _ | with_reducible refine bw_alloc ?_ _ | (with_reducible refine bw_set ?_ ?_ _; focus (dsimp only; omega)) | (with_reducible apply bw_behind; with_reducible assumption))); done) | (simp [go_sem, *]; omega) | (simp (maxDischargeDepth := 4) [go_sem, *]; done))
              · rw [HH.out]; (first | with_reducible assumption | ((repeat (first | with_reducible assumption | with_reducible refine c_dr _ ?_ | with_reducible refine c_d1 ?_ | with_reducible refine c_al _ ?_ | (with_reducible refine c_set ?_ ?_; focus (dsimp only; omega)) | (with_reducible apply c_be; with_reducible assumption))); done) | ((repeat (first | with_reducible assumption | with_reducible refine o_dr _ ?_ | with_reducible refine o_d1 ?_ | with_reducible refine o_set ?_ | (with_reducible refine o_new ?_ ?_; (focus (simp)); (focus (simp))) | with_reducible refine o_al _ ?_ | (with_reducible apply o_be; with_reducible assumption))); done) | ((repeat (first | with_reducible assumption | with_reducible exact Below.refl _ _ | with_reducible refine Below.drew ?_ | with_reducible refine below_drewN ?_ _ | with_reducible refine bw_alloc ?_ _ | (with_reducible refine bw_set ?_ ?_ _; focus (dsimp only; omega)) | (with_reducible apply bw_behind; with_reducible assumption))); done) | (simp [go_sem, *]; omega) | (simp (maxDischargeDepth := 4) [go_sem, *]; done))
              all_goals (first | with_reducible assumption | ((repeat (first | with_reducible assumption | with_reducible refine c_dr _ ?_ | with_reducible refine c_d1 ?_ | with_reducible refine c_al _ ?_ | (with_reducible refine c_set ?_ ?_; focus (dsimp only; omega)) | (with_reducible apply c_be; with_reducible assumption))); done) | ((repeat (first | with_reducible assumption | with_reducible refine o_dr _ ?_ | with_reducible refine o_d1 ?_ | with_reducible refine o_set ?_ | (with_reducible refine o_new ?_ ?_; (focus (simp)); (focus (simp))) | with_reducible refine o_al _ ?_ | (with_reducible apply o_be; with_reducible assumption))); done) | ((repeat (first | with_reducible assumption | with_reducible exact Below.refl _ _ | with_reducible refine Below.drew ?_ | with_reducible refine below_drewN ?_ _ | with_reducible refine bw_alloc ?_ _ | (with_reducible refine bw_set ?_ ?_ _; focus (dsimp only; omega)) | (with_reducible apply bw_behind; with_reducible assumption))); done) | (simp [go_sem, *]; omega) | (simp (maxDischargeDepth := 4) [go_sem, *]; done))
            case measure => simp [intOf]; omega
      · have ht : touch O N k = false := by rw [hti, decide_eq_false a1]; rfl
        clear hti
        have HH := hide (put_out O N k h2 ht)
        clear ht hW
        go_wp2_with fail
        go_roundw
        case rel =>
          refine ⟨k + 1, by omega, by go_num, ?_, ?_, ?_, ?_, ?_, ?_, ?_⟩
          · rw [HH.out]; (first | with_reducible assumption | ((repeat (first | with_reducible assumption | with_reducible refine c_dr _ ?_ | with_reducible refine c_d1 ?_ | with_reducible refine c_al _ ?_ | (with_reducible refine c_set ?_ ?_; focus (dsimp only; omega)) | (with_reducible apply c_be; with_reducible assumption))); done) | ((repeat (first | with_reducible assumption | with_reducible refine o_dr _ ?_ | with_reducible refine o_d1 ?_ | with_reducible refine o_set ?_ | (with_reducible refine o_new ?_ ?_; (focus (simp)); (focus (simp))) | with_reducible refine o_al _ ?_ | (with_reducible apply o_be; with_reducible assumption))); done) | ((repeat (first | with_reducible assumption | with_reducible exact Below.refl _ _ | with_reducible refine Below.drew ?_ | with_reducible refine below_drewN ?_ _ | with_reducible refine bw_alloc ?_ _ | (with_reducible refine bw_set ?_ ?_ _; focus (dsimp only; omega)) | (with_reducible apply bw_behind; with_reducible assumption))); done) | (simp [go_sem, *]; omega) | (simp (maxDischargeDepth := 4) [go_sem, *]; done))
          · rw [HH.out]; (first | with_reducible assumption | ((repeat (first | with_reducible assumption | with_reducible refine c_dr _ ?_ | with_reducible refine c_d1 ?_ | with_reducible refine c_al _ ?_ | (with_reducible refine c_set ?_ ?_; focus (dsimp only; omega)) | (with_reducible apply c_be; with_reducible assumption))); done) | ((repeat (first | with_reducible assumption | with_reducible refine o_dr _ ?_ | with_reducible refine o_d1 ?_ | with_reducible refine o_set ?_ | (with_reducible refine o_new ?_ ?_; (focus (simp)); (focus (simp))) | with_reducible refine o_al _ ?_ | (with_reducible apply o_be; with_reducible assumption))); done) | ((repeat (first | with_reducible assumption | with_reducible exact Below.refl _ _ | with_reducible refine Below.drew ?_ | with_reducible refine below_drewN ?_ _ | with_reducible refine bw_alloc ?_ _ | (with_reducible refine bw_set ?_ ?_ _; focus (dsimp only; omega)) | (with_reducible apply bw_behind; with_reducible assumption))); done) | (simp [go_sem, *]; omega) | (simp (maxDischargeDepth := 4) [go_sem, *]; done))
          · rw [HH.out]; (first | with_reducible assumption | ((repeat (first | with_reducible assumption | with_reducible refine c_dr _ ?_ | with_reducible refine c_d1 ?_ | with_reducible refine c_al _ ?_ | (with_reducible refine c_set ?_ ?_; focus (dsimp only; omega)) | (with_reducible apply c_be; with_reducible assumption))); done) | ((repeat (first | with_reducible assumption | with_reducible refine o_dr _ ?_ | with_reducible refine o_d1 ?_ | with_reducible refine o_set ?_ | (with_reducible refine o_new ?_ ?_; (focus (simp)); (focus (simp))) | with_reducible refine o_al _ ?_ | (with_reducible apply o_be; with_reducible assumption))); done) | ((repeat (first | with_reducible assumption | with_reducible exact Below.refl _ _ | with_reducible refine Below.drew ?_ | with_reducible refine below_drewN ?_ _ | with_reducible refine bw_alloc ?_ _ | (with_reducible refine bw_set ?_ ?_ _; focus (dsimp only; omega)) | (with_reducible apply bw_behind; with_reducible assumption))); done) | (simp [go_sem, *]; omega) | (simp (maxDischargeDepth := 4) [go_sem, *]; done))
          · rw [HH.out]; (first | with_reducible assumption | ((repeat (first | with_reducible assumption | with_reducible refine c_dr _ ?_ | with_reducible refine c_d1 ?_ | with_reducible refine c_al _ ?_ | (with_reducible refine c_set ?_ ?_; focus (dsimp only; omega)) | (with_reducible apply c_be; with_reducible assumption))); done) | ((repeat (first | with_reducible assumption | with_reducible refine o_dr _ ?_ | with_reducible refine o_d1 ?_ | with_reducible refine o_set ?_ | (with_reducible refine o_new ?_ ?_; (focus (simp)); (focus (simp))) | with_reducible refine o_al _ ?_ | (with_reducible apply o_be; with_reducible assumption))); done) | ((repeat (first | with_reducible assumption | with_reducible exact Below.refl _ _ | with_reducible refine Below.drew ?_ | with_reducible refine below_drewN ?_ _ | with_reducible refine bw_alloc ?_ _ | (with_reducible refine bw_set ?_ ?_ _; focus (dsimp only; omega)) | (with_reducible apply bw_behind; with_reducible assumption))); done) | (simp [go_sem, *]; omega) | (simp (maxDischargeDepth := 4) [go_sem, *]; done))
          all_goals (first | with_reducible assumption | ((repeat (first | with_reducible assumption | with_reducible refine c_dr _ ?_ | with_reducible refine c_d1 ?_ | with_reducible refine c_al _ ?_ | (with_reducible refine c_set ?_ ?_; focus (dsimp only; omega)) | (with_reducible apply c_be; with_reducible assumption))); done) | ((repeat (first | with_reducible assumption | with_reducible refine o_dr _ ?_ | with_reducible refine o_d1 ?_ | with_reducible refine o_set ?_ | (with_reducible refine o_new ?_ ?_; (focus (simp)); (focus (simp))) | with_reducible refine o_al _ ?_ | (with_reducible apply o_be; with_reducible assumption))); done) | ((repeat (first | with_reducible assumption | with_reducible exact Below.refl _ _ | with_reducible refine Below.drew ?_ | with_reducible refine below_drewN ?_ _ | with_reducible refine bw_alloc ?_ _ | (with_reducible refine bw_set ?_ ?_ _; focus (dsimp only; omega)) | (with_reducible apply bw_behind; with_reducible assumption))); done) | (simp [go_sem, *]; omega) | (simp (maxDischargeDepth := 4) [go_sem, *]; done))
        case measure => simp [intOf]; omega
    · obtain rfl : k = 256 := by omega
      rw [show covK O N 256 = coverS O N from rfl] at c0 c1 c2 c3
      obtain ⟨v0, e0⟩ := o0.val 0 (by omega)
      have f0 := o0.free 0 (by omega)
      obtain ⟨v1, e1⟩ := o0.val 1 (by omega)
      have f1 := o0.free 1 (by omega)
      obtain ⟨v2, e2⟩ := o0.val 2 (by omega)
      have f2 := o0.free 2 (by omega)
      obtain ⟨v3, e3⟩ := o0.val 3 (by omega)
      have f3 := o0.free 3 (by omega)
      go_wp2
      refine bodyPost_ret (v := .agg #[.int .u64 ((wd (coverS O N) 0).toNat : Int), .int .u64 ((wd (coverS O N) 1).toNat : Int), .int .u64 ((wd (coverS O N) 2).toNat : Int), .int .u64 ((wd (coverS O N) 3).toNat : Int)]) (by simp (maxDischargeDepth := 4) [results, Try.results18, go_sem, *]) rfl ?_
      refine ⟨rfl, ?_⟩
      repeat (first | with_reducible assumption | with_reducible exact Below.refl _ _ | with_reducible refine Below.drew ?_ | with_reducible refine below_drewN ?_ _ | with_reducible refine bw_alloc ?_ _ | (with_reducible refine bw_set ?_ ?_ _; focus (dsimp only; omega)) | (with_reducible apply bw_behind; with_reducible assumption))

set_option maxHeartbeats 4000000 in
theorem rcover_no (O N : Int) (hN : N < 1) (w : World) : Calls Try.prog 18 #[.int .i64 O, .int .i64 N] w (Makes (.agg #[.int .u64 0, .int .u64 0, .int .u64 0, .int .u64 0]) w) := by
  have SS := cell_same
  have LB' := ltB_add
  have LS := ltB_self
  have LA' := alloc_reads
  have LH := alloc_holds
  go_enter Try.func18, Try.ntmps18
  go_wp2
  refine wp_loop_rounds 1 ?_
  rw [rounds_succ]
  go_wp2
  refine bodyPost_ret (v := .agg #[.int .u64 0, .int .u64 0, .int .u64 0, .int .u64 0]) (by simp (maxDischargeDepth := 4) [results, Try.results18, go_sem, *]) rfl ?_
  refine ⟨rfl, ?_⟩
  repeat (first | with_reducible assumption | with_reducible exact Below.refl _ _ | with_reducible refine Below.drew ?_ | with_reducible refine below_drewN ?_ _ | with_reducible refine bw_alloc ?_ _ | (with_reducible refine bw_set ?_ ?_ _; focus (dsimp only; omega)) | (with_reducible apply bw_behind; with_reducible assumption))

theorem cover_none (O N : Int) (h : N < 1) : coverS O N = 0#256 := by
  refine ext256 (fun i hi => ?_)
  rw [cover_bit _ _ _ hi]
  unfold touch
  rw [decide_eq_false (show ¬ 1 ≤ N by omega)]
  simp
theorem rcover_any (O N : Int) (hO : -9223372036854775808 ≤ O) (hN : N < 9223372036854775808) (w : World) : Calls Try.prog 18 #[.int .i64 O, .int .i64 N] w (Makes (.agg #[.int .u64 ((wd (coverS O N) 0).toNat : Int), .int .u64 ((wd (coverS O N) 1).toNat : Int), .int .u64 ((wd (coverS O N) 2).toNat : Int), .int .u64 ((wd (coverS O N) 3).toNat : Int)]) w) := by
  by_cases h : 1 ≤ N
  · exact rcover_yes O N hO h hN w
  · rw [cover_none O N (by omega), wd_zero, wd_zero, wd_zero, wd_zero]
    exact rcover_no O N (by omega) w
end Go.Proofs.Ytpikipfchkhnbaa
