/-
  RamNumbers holds: for every position, number and size the law returns true and turns nothing that was there.
-/
import Derived.Test.YtadhghnleidfpaaRam3
namespace Go.Proofs.Ytadhghnleidfpaa.RamNumbers
open Go.RowKit Words

/-- What a round of the law reads. -/
structure RoundMet (P V : Int) (k : Nat) (E S T Y : Int) : Prop where
  h1 : IntKind.u64.wrap (k : Int) = (k : Int)
  h2 : IntKind.u64.wrap (P + (k : Int)) = E
  h3 : IntKind.i64.wrap (8 * (k : Int)) = S
  h4 : IntKind.u64.wrap S = S
  h5 : V / 2 ^ S.toNat = T
  h6 : bits .and .u64 T 255 = Y
  h7 : 0 ≤ S
  h8 : S < 64

set_option maxRecDepth 100000 in
set_option maxHeartbeats 4000000 in
theorem walk_s8 (w : World) (n : Nat) (D Z V K M E Q T P Af : Int) (B0 B1 B2 B3 : Nat → Nat → BitVec 8) (S0 S1 S2 S3 : Nat → BitVec 256) (c0 : ∀ (_ : Unit), Calls Try.prog 5 #[.int .i64 2] w fun e w' => e = .returned (.tuple #[.pointer (some ⟨w.heap.size + 1, 0, none⟩), .int .i64 0]) ∧ Mem w' (w.heap.size + 1) w.heap.size B0 S0 ∧ Below w.heap.size w w') (c1 : ∀ W, Mem W (w.heap.size + 1) w.heap.size B0 S0 → Below w.heap.size w W → Calls Try.prog 7 #[.pointer (some ⟨w.heap.size + 1, 0, none⟩), .int .u64 7, .int .i64 1, .int .u64 90] W fun e w' => e = .returned (.int .i64 0) ∧ Mem w' (w.heap.size + 1) w.heap.size B1 S1 ∧ Below w.heap.size w w') (c2 : ∀ W, Mem W (w.heap.size + 1) w.heap.size B1 S1 → Below w.heap.size w W → Calls Try.prog 7 #[.pointer (some ⟨w.heap.size + 1, 0, none⟩), .int .u64 Af, .int .i64 1, .int .u64 165] W fun e w' => e = .returned (.int .i64 0) ∧ Mem w' (w.heap.size + 1) w.heap.size B2 S2 ∧ Below w.heap.size w w') (c3 : ∀ W, Mem W (w.heap.size + 1) w.heap.size B2 S2 → Below w.heap.size w W → Calls Try.prog 7 #[.pointer (some ⟨w.heap.size + 1, 0, none⟩), .int .u64 8, .int .i64 (n : Int), .int .u64 V] W fun e w' => e = .returned (.int .i64 0) ∧ Mem w' (w.heap.size + 1) w.heap.size B3 S3 ∧ Below w.heap.size w w') (c4 : ∀ W, Mem W (w.heap.size + 1) w.heap.size B3 S3 → Calls Try.prog 9 #[.pointer (some ⟨w.heap.size + 1, 0, none⟩), .int .u64 8, .int .i64 (n : Int)] W (Quiet (.tuple #[.int .u64 V, .int .i64 0]) W)) (c5 : ∀ W, Mem W (w.heap.size + 1) w.heap.size B3 S3 → Calls Try.prog 9 #[.pointer (some ⟨w.heap.size + 1, 0, none⟩), .int .u64 7, .int .i64 1] W (Quiet (.tuple #[.int .u64 90, .int .i64 0]) W)) (c6 : ∀ W, Mem W (w.heap.size + 1) w.heap.size B3 S3 → Calls Try.prog 9 #[.pointer (some ⟨w.heap.size + 1, 0, none⟩), .int .u64 Af, .int .i64 1] W (Quiet (.tuple #[.int .u64 165, .int .i64 0]) W)) (hR : ∀ k, k < n → ∃ E S T Y, RoundMet 8 V k E S T Y ∧ ∀ W, Mem W (w.heap.size + 1) w.heap.size B3 S3 → Calls Try.prog 9 #[.pointer (some ⟨w.heap.size + 1, 0, none⟩), .int .u64 E, .int .i64 1] W (Quiet (.tuple #[.int .u64 Y, .int .i64 0]) W)) (_hK : bits .and .i64 Z 3 = K) (_hk0 : 0 ≤ K) (_hk1 : K < 64) (_hk2 : RowKit.wrap64 (2 ^ K.toNat) = (n : Int)) (_hk3 : IntKind.i64.wrap (2 ^ K.toNat) = (n : Int)) (_hk4 : IntKind.u64.wrap K = K) (_hn8 : n ≤ 8) (_hn0 : (n : Int) ≠ 0) (_hn1 : (0 : Int) < (n : Int)) (_hn2 : IntKind.u64.wrap (n : Int) = (n : Int)) (_hM : bits .and .i64 D 8191 = M) (_hE : 8 + M = E) (_hE1 : IntKind.i64.wrap E = E) (_hE2 : IntKind.u64.wrap E = E) (_hQ : E / (n : Int) = Q) (_hQ2 : E.tdiv (n : Int) = Q) (_hQ3 : IntKind.u64.wrap Q = Q) (_hT : Q * (n : Int) = T) (_hT2 : IntKind.u64.wrap T = T) (_hP : T % 8184 = P) (_hP2 : T.tmod 8184 = P) (_hs : P < 8) (_hAf : 8 + (n : Int) = Af) (_hAf2 : IntKind.u64.wrap Af = Af) (_hP3 : IntKind.u64.wrap P = P) (_h8 : (n : Int) = 8) :
    Calls Try.prog 4 #[.int .i64 D, .int .u64 V, .int .i64 Z] w (Makes (.bool true) w) := by
  have Cc0 := hide c0
  have Cc1 := hide c1
  have Cc2 := hide c2
  have Cc3 := hide c3
  have Cc4 := hide c4
  have Cc5 := hide c5
  have Cc6 := hide c6
  have ChR := hide hR
  clear c0 c1 c2 c3 c4 c5 c6 hR
  have SS := cell_same
  have LB' := ltB_add
  have LS := ltB_self
  have LA' := alloc_reads
  have LH := alloc_holds
  have HN := hide _h8
  clear _h8
  go_enter Try.func4, Try.ntmps4
  go_upto_region 16 with (first | (go_at_call 5; (with_reducible refine (Cc0.out ()).mono ?_); rintro e w1 ⟨rfl, hm1, hb1⟩) | (go_at_call 7; (with_reducible refine (Cc1.out _ ?_ ?_).mono ?_); (focus (repeat (first | with_reducible assumption | with_reducible refine mem_dr _ ?_ | with_reducible refine mem_d1 ?_ | with_reducible refine mem_al _ ?_ | (with_reducible apply mem_be; with_reducible assumption)))); (focus (repeat (first | with_reducible assumption | with_reducible exact Below.refl _ _ | with_reducible refine Below.drew ?_ | with_reducible refine below_drewN ?_ _ | with_reducible refine bw_alloc ?_ _ | (with_reducible refine bw_set ?_ ?_ _; focus (dsimp only; omega)) | (with_reducible apply bw_behind; with_reducible assumption)))); rintro e w2 ⟨rfl, hm2, hb2⟩) | (go_at_call 7; (with_reducible refine (Cc2.out _ ?_ ?_).mono ?_); (focus (repeat (first | with_reducible assumption | with_reducible refine mem_dr _ ?_ | with_reducible refine mem_d1 ?_ | with_reducible refine mem_al _ ?_ | (with_reducible apply mem_be; with_reducible assumption)))); (focus (repeat (first | with_reducible assumption | with_reducible exact Below.refl _ _ | with_reducible refine Below.drew ?_ | with_reducible refine below_drewN ?_ _ | with_reducible refine bw_alloc ?_ _ | (with_reducible refine bw_set ?_ ?_ _; focus (dsimp only; omega)) | (with_reducible apply bw_behind; with_reducible assumption)))); rintro e w3 ⟨rfl, hm3, hb3⟩) | (go_at_call 7; (with_reducible refine (Cc3.out _ ?_ ?_).mono ?_); (focus (repeat (first | with_reducible assumption | with_reducible refine mem_dr _ ?_ | with_reducible refine mem_d1 ?_ | with_reducible refine mem_al _ ?_ | (with_reducible apply mem_be; with_reducible assumption)))); (focus (repeat (first | with_reducible assumption | with_reducible exact Below.refl _ _ | with_reducible refine Below.drew ?_ | with_reducible refine below_drewN ?_ _ | with_reducible refine bw_alloc ?_ _ | (with_reducible refine bw_set ?_ ?_ _; focus (dsimp only; omega)) | (with_reducible apply bw_behind; with_reducible assumption)))); rintro e w4 ⟨rfl, hm4, hb4⟩) | (go_at_call 9; (with_reducible refine (Cc4.out _ ?_).mono ?_); (focus (repeat (first | with_reducible assumption | with_reducible refine mem_dr _ ?_ | with_reducible refine mem_d1 ?_ | with_reducible refine mem_al _ ?_ | (with_reducible apply mem_be; with_reducible assumption)))); rintro e w' ⟨rfl, n1, rfl⟩) | (go_at_call 9; (with_reducible refine (Cc5.out _ ?_).mono ?_); (focus (repeat (first | with_reducible assumption | with_reducible refine mem_dr _ ?_ | with_reducible refine mem_d1 ?_ | with_reducible refine mem_al _ ?_ | (with_reducible apply mem_be; with_reducible assumption)))); rintro e w' ⟨rfl, n1, rfl⟩) | (go_at_call 9; (with_reducible refine (Cc6.out _ ?_).mono ?_); (focus (repeat (first | with_reducible assumption | with_reducible refine mem_dr _ ?_ | with_reducible refine mem_d1 ?_ | with_reducible refine mem_al _ ?_ | (with_reducible apply mem_be; with_reducible assumption)))); rintro e w' ⟨rfl, n1, rfl⟩))
  refine wp_abs (fun W => Mem W (w.heap.size + 1) w.heap.size B3 S3 ∧ Below w.heap.size w W) ⟨by repeat (first | with_reducible assumption | with_reducible refine mem_dr _ ?_ | with_reducible refine mem_d1 ?_ | with_reducible refine mem_al _ ?_ | (with_reducible apply mem_be; with_reducible assumption)), by repeat (first | with_reducible assumption | with_reducible exact Below.refl _ _ | with_reducible refine Below.drew ?_ | with_reducible refine below_drewN ?_ _ | with_reducible refine bw_alloc ?_ _ | (with_reducible refine bw_set ?_ ?_ _; focus (dsimp only; omega)) | (with_reducible apply bw_behind; with_reducible assumption))⟩ ?_
  rintro w9 ⟨hm9, hb9⟩
  go_wp2
  go_loopw [19] (fun i wr => ∃ k : Nat, k ≤ n ∧ i = .int .i64 (k : Int) ∧ Mem wr (w.heap.size + 1) w.heap.size B3 S3 ∧ Below w.heap.size w wr) (fun i _ => n - (intOf i).toNat)
  case atStart => exact ⟨0, by omega, rfl, by repeat (first | with_reducible assumption | with_reducible refine mem_dr _ ?_ | with_reducible refine mem_d1 ?_ | with_reducible refine mem_al _ ?_ | (with_reducible apply mem_be; with_reducible assumption)), by repeat (first | with_reducible assumption | with_reducible exact Below.refl _ _ | with_reducible refine Below.drew ?_ | with_reducible refine below_drewN ?_ _ | with_reducible refine bw_alloc ?_ _ | (with_reducible refine bw_set ?_ ?_ _; focus (dsimp only; omega)) | (with_reducible apply bw_behind; with_reducible assumption))⟩
  case round =>
    obtain ⟨k, hk, rfl, hm, hb⟩ := hrel
    by_cases hlt : k < n
    · obtain ⟨E2, S, T2, Y, ⟨e1, e2, e3, e4, e5, e6, e7, e8⟩, c7⟩ := ChR.out k hlt
      have Cc7 := hide c7
      clear c7
      have hl : (k : Int) < (n : Int) := by omega
      go_wp2_with (first | (go_at_call 9; (with_reducible refine (Cc7.out _ ?_).mono ?_); (focus (repeat (first | with_reducible assumption | with_reducible refine mem_dr _ ?_ | with_reducible refine mem_d1 ?_ | with_reducible refine mem_al _ ?_ | (with_reducible apply mem_be; with_reducible assumption)))); rintro e w' ⟨rfl, n1, rfl⟩))
      go_roundw
      case rel => exact ⟨k + 1, by omega, by go_num, by repeat (first | with_reducible assumption | with_reducible refine mem_dr _ ?_ | with_reducible refine mem_d1 ?_ | with_reducible refine mem_al _ ?_ | (with_reducible apply mem_be; with_reducible assumption)), by repeat (first | with_reducible assumption | with_reducible exact Below.refl _ _ | with_reducible refine Below.drew ?_ | with_reducible refine below_drewN ?_ _ | with_reducible refine bw_alloc ?_ _ | (with_reducible refine bw_set ?_ ?_ _; focus (dsimp only; omega)) | (with_reducible apply bw_behind; with_reducible assumption))⟩
      case measure => simp [intOf]; omega
    · have : k = n := by omega
      subst this
      have h8 := HN.out
      go_wp2
      refine bodyPost_ret (v := .bool true) (by simp (maxDischargeDepth := 4) [results, Try.results4, go_sem, *]) rfl ?_
      refine ⟨rfl, ?_⟩
      repeat (first | with_reducible assumption | with_reducible exact Below.refl _ _ | with_reducible refine Below.drew ?_ | with_reducible refine below_drewN ?_ _ | with_reducible refine bw_alloc ?_ _ | (with_reducible refine bw_set ?_ ?_ _; focus (dsimp only; omega)) | (with_reducible apply bw_behind; with_reducible assumption))

set_option maxRecDepth 100000 in
set_option maxHeartbeats 4000000 in
theorem walk_s (w : World) (n : Nat) (D Z V K M E Q T P Af SS8 G H X : Int) (B0 B1 B2 B3 : Nat → Nat → BitVec 8) (S0 S1 S2 S3 : Nat → BitVec 256) (c0 : ∀ (_ : Unit), Calls Try.prog 5 #[.int .i64 2] w fun e w' => e = .returned (.tuple #[.pointer (some ⟨w.heap.size + 1, 0, none⟩), .int .i64 0]) ∧ Mem w' (w.heap.size + 1) w.heap.size B0 S0 ∧ Below w.heap.size w w') (c1 : ∀ W, Mem W (w.heap.size + 1) w.heap.size B0 S0 → Below w.heap.size w W → Calls Try.prog 7 #[.pointer (some ⟨w.heap.size + 1, 0, none⟩), .int .u64 7, .int .i64 1, .int .u64 90] W fun e w' => e = .returned (.int .i64 0) ∧ Mem w' (w.heap.size + 1) w.heap.size B1 S1 ∧ Below w.heap.size w w') (c2 : ∀ W, Mem W (w.heap.size + 1) w.heap.size B1 S1 → Below w.heap.size w W → Calls Try.prog 7 #[.pointer (some ⟨w.heap.size + 1, 0, none⟩), .int .u64 Af, .int .i64 1, .int .u64 165] W fun e w' => e = .returned (.int .i64 0) ∧ Mem w' (w.heap.size + 1) w.heap.size B2 S2 ∧ Below w.heap.size w w') (c3 : ∀ W, Mem W (w.heap.size + 1) w.heap.size B2 S2 → Below w.heap.size w W → Calls Try.prog 7 #[.pointer (some ⟨w.heap.size + 1, 0, none⟩), .int .u64 8, .int .i64 (n : Int), .int .u64 V] W fun e w' => e = .returned (.int .i64 0) ∧ Mem w' (w.heap.size + 1) w.heap.size B3 S3 ∧ Below w.heap.size w w') (c4 : ∀ W, Mem W (w.heap.size + 1) w.heap.size B3 S3 → Calls Try.prog 9 #[.pointer (some ⟨w.heap.size + 1, 0, none⟩), .int .u64 8, .int .i64 (n : Int)] W (Quiet (.tuple #[.int .u64 X, .int .i64 0]) W)) (c5 : ∀ W, Mem W (w.heap.size + 1) w.heap.size B3 S3 → Calls Try.prog 9 #[.pointer (some ⟨w.heap.size + 1, 0, none⟩), .int .u64 7, .int .i64 1] W (Quiet (.tuple #[.int .u64 90, .int .i64 0]) W)) (c6 : ∀ W, Mem W (w.heap.size + 1) w.heap.size B3 S3 → Calls Try.prog 9 #[.pointer (some ⟨w.heap.size + 1, 0, none⟩), .int .u64 Af, .int .i64 1] W (Quiet (.tuple #[.int .u64 165, .int .i64 0]) W)) (hR : ∀ k, k < n → ∃ E S T Y, RoundMet 8 V k E S T Y ∧ ∀ W, Mem W (w.heap.size + 1) w.heap.size B3 S3 → Calls Try.prog 9 #[.pointer (some ⟨w.heap.size + 1, 0, none⟩), .int .u64 E, .int .i64 1] W (Quiet (.tuple #[.int .u64 Y, .int .i64 0]) W)) (_hK : bits .and .i64 Z 3 = K) (_hk0 : 0 ≤ K) (_hk1 : K < 64) (_hk2 : RowKit.wrap64 (2 ^ K.toNat) = (n : Int)) (_hk3 : IntKind.i64.wrap (2 ^ K.toNat) = (n : Int)) (_hk4 : IntKind.u64.wrap K = K) (_hn8 : n ≤ 8) (_hn0 : (n : Int) ≠ 0) (_hn1 : (0 : Int) < (n : Int)) (_hn2 : IntKind.u64.wrap (n : Int) = (n : Int)) (_hM : bits .and .i64 D 8191 = M) (_hE : 8 + M = E) (_hE1 : IntKind.i64.wrap E = E) (_hE2 : IntKind.u64.wrap E = E) (_hQ : E / (n : Int) = Q) (_hQ2 : E.tdiv (n : Int) = Q) (_hQ3 : IntKind.u64.wrap Q = Q) (_hT : Q * (n : Int) = T) (_hT2 : IntKind.u64.wrap T = T) (_hP : T % 8184 = P) (_hP2 : T.tmod 8184 = P) (_hs : P < 8) (_hAf : 8 + (n : Int) = Af) (_hAf2 : IntKind.u64.wrap Af = Af) (_hP3 : IntKind.u64.wrap P = P) (_h8 : ((n : Int) == 8) = false) (_h9 : (n : Int) < 8) (_hS : IntKind.i64.wrap (8 * (n : Int)) = SS8) (_hS2 : IntKind.u64.wrap SS8 = SS8) (_hS3 : 0 ≤ SS8) (_hS4 : SS8 < 64) (_hG : IntKind.u64.wrap (2 ^ SS8.toNat) = G) (_hH : IntKind.u64.wrap (G - 1) = H) (_hX : bits .and .u64 V H = X) :
    Calls Try.prog 4 #[.int .i64 D, .int .u64 V, .int .i64 Z] w (Makes (.bool true) w) := by
  have Cc0 := hide c0
  have Cc1 := hide c1
  have Cc2 := hide c2
  have Cc3 := hide c3
  have Cc4 := hide c4
  have Cc5 := hide c5
  have Cc6 := hide c6
  have ChR := hide hR
  clear c0 c1 c2 c3 c4 c5 c6 hR
  have SS := cell_same
  have LB' := ltB_add
  have LS := ltB_self
  have LA' := alloc_reads
  have LH := alloc_holds
  go_enter Try.func4, Try.ntmps4
  go_upto_region 16 with (first | (go_at_call 5; (with_reducible refine (Cc0.out ()).mono ?_); rintro e w1 ⟨rfl, hm1, hb1⟩) | (go_at_call 7; (with_reducible refine (Cc1.out _ ?_ ?_).mono ?_); (focus (repeat (first | with_reducible assumption | with_reducible refine mem_dr _ ?_ | with_reducible refine mem_d1 ?_ | with_reducible refine mem_al _ ?_ | (with_reducible apply mem_be; with_reducible assumption)))); (focus (repeat (first | with_reducible assumption | with_reducible exact Below.refl _ _ | with_reducible refine Below.drew ?_ | with_reducible refine below_drewN ?_ _ | with_reducible refine bw_alloc ?_ _ | (with_reducible refine bw_set ?_ ?_ _; focus (dsimp only; omega)) | (with_reducible apply bw_behind; with_reducible assumption)))); rintro e w2 ⟨rfl, hm2, hb2⟩) | (go_at_call 7; (with_reducible refine (Cc2.out _ ?_ ?_).mono ?_); (focus (repeat (first | with_reducible assumption | with_reducible refine mem_dr _ ?_ | with_reducible refine mem_d1 ?_ | with_reducible refine mem_al _ ?_ | (with_reducible apply mem_be; with_reducible assumption)))); (focus (repeat (first | with_reducible assumption | with_reducible exact Below.refl _ _ | with_reducible refine Below.drew ?_ | with_reducible refine below_drewN ?_ _ | with_reducible refine bw_alloc ?_ _ | (with_reducible refine bw_set ?_ ?_ _; focus (dsimp only; omega)) | (with_reducible apply bw_behind; with_reducible assumption)))); rintro e w3 ⟨rfl, hm3, hb3⟩) | (go_at_call 7; (with_reducible refine (Cc3.out _ ?_ ?_).mono ?_); (focus (repeat (first | with_reducible assumption | with_reducible refine mem_dr _ ?_ | with_reducible refine mem_d1 ?_ | with_reducible refine mem_al _ ?_ | (with_reducible apply mem_be; with_reducible assumption)))); (focus (repeat (first | with_reducible assumption | with_reducible exact Below.refl _ _ | with_reducible refine Below.drew ?_ | with_reducible refine below_drewN ?_ _ | with_reducible refine bw_alloc ?_ _ | (with_reducible refine bw_set ?_ ?_ _; focus (dsimp only; omega)) | (with_reducible apply bw_behind; with_reducible assumption)))); rintro e w4 ⟨rfl, hm4, hb4⟩) | (go_at_call 9; (with_reducible refine (Cc4.out _ ?_).mono ?_); (focus (repeat (first | with_reducible assumption | with_reducible refine mem_dr _ ?_ | with_reducible refine mem_d1 ?_ | with_reducible refine mem_al _ ?_ | (with_reducible apply mem_be; with_reducible assumption)))); rintro e w' ⟨rfl, n1, rfl⟩) | (go_at_call 9; (with_reducible refine (Cc5.out _ ?_).mono ?_); (focus (repeat (first | with_reducible assumption | with_reducible refine mem_dr _ ?_ | with_reducible refine mem_d1 ?_ | with_reducible refine mem_al _ ?_ | (with_reducible apply mem_be; with_reducible assumption)))); rintro e w' ⟨rfl, n1, rfl⟩) | (go_at_call 9; (with_reducible refine (Cc6.out _ ?_).mono ?_); (focus (repeat (first | with_reducible assumption | with_reducible refine mem_dr _ ?_ | with_reducible refine mem_d1 ?_ | with_reducible refine mem_al _ ?_ | (with_reducible apply mem_be; with_reducible assumption)))); rintro e w' ⟨rfl, n1, rfl⟩))
  refine wp_abs (fun W => Mem W (w.heap.size + 1) w.heap.size B3 S3 ∧ Below w.heap.size w W) ⟨by repeat (first | with_reducible assumption | with_reducible refine mem_dr _ ?_ | with_reducible refine mem_d1 ?_ | with_reducible refine mem_al _ ?_ | (with_reducible apply mem_be; with_reducible assumption)), by repeat (first | with_reducible assumption | with_reducible exact Below.refl _ _ | with_reducible refine Below.drew ?_ | with_reducible refine below_drewN ?_ _ | with_reducible refine bw_alloc ?_ _ | (with_reducible refine bw_set ?_ ?_ _; focus (dsimp only; omega)) | (with_reducible apply bw_behind; with_reducible assumption))⟩ ?_
  rintro w9 ⟨hm9, hb9⟩
  go_wp2
  go_loopw [19] (fun i wr => ∃ k : Nat, k ≤ n ∧ i = .int .i64 (k : Int) ∧ Mem wr (w.heap.size + 1) w.heap.size B3 S3 ∧ Below w.heap.size w wr) (fun i _ => n - (intOf i).toNat)
  case atStart => exact ⟨0, by omega, rfl, by repeat (first | with_reducible assumption | with_reducible refine mem_dr _ ?_ | with_reducible refine mem_d1 ?_ | with_reducible refine mem_al _ ?_ | (with_reducible apply mem_be; with_reducible assumption)), by repeat (first | with_reducible assumption | with_reducible exact Below.refl _ _ | with_reducible refine Below.drew ?_ | with_reducible refine below_drewN ?_ _ | with_reducible refine bw_alloc ?_ _ | (with_reducible refine bw_set ?_ ?_ _; focus (dsimp only; omega)) | (with_reducible apply bw_behind; with_reducible assumption))⟩
  case round =>
    obtain ⟨k, hk, rfl, hm, hb⟩ := hrel
    by_cases hlt : k < n
    · obtain ⟨E2, S, T2, Y, ⟨e1, e2, e3, e4, e5, e6, e7, e8⟩, c7⟩ := ChR.out k hlt
      have Cc7 := hide c7
      clear c7
      have hl : (k : Int) < (n : Int) := by omega
      go_wp2_with (first | (go_at_call 9; (with_reducible refine (Cc7.out _ ?_).mono ?_); (focus (repeat (first | with_reducible assumption | with_reducible refine mem_dr _ ?_ | with_reducible refine mem_d1 ?_ | with_reducible refine mem_al _ ?_ | (with_reducible apply mem_be; with_reducible assumption)))); rintro e w' ⟨rfl, n1, rfl⟩))
      go_roundw
      case rel => exact ⟨k + 1, by omega, by go_num, by repeat (first | with_reducible assumption | with_reducible refine mem_dr _ ?_ | with_reducible refine mem_d1 ?_ | with_reducible refine mem_al _ ?_ | (with_reducible apply mem_be; with_reducible assumption)), by repeat (first | with_reducible assumption | with_reducible exact Below.refl _ _ | with_reducible refine Below.drew ?_ | with_reducible refine below_drewN ?_ _ | with_reducible refine bw_alloc ?_ _ | (with_reducible refine bw_set ?_ ?_ _; focus (dsimp only; omega)) | (with_reducible apply bw_behind; with_reducible assumption))⟩
      case measure => simp [intOf]; omega
    · have : k = n := by omega
      subst this
      go_wp2
      refine bodyPost_ret (v := .bool true) (by simp (maxDischargeDepth := 4) [results, Try.results4, go_sem, *]) rfl ?_
      refine ⟨rfl, ?_⟩
      repeat (first | with_reducible assumption | with_reducible exact Below.refl _ _ | with_reducible refine Below.drew ?_ | with_reducible refine below_drewN ?_ _ | with_reducible refine bw_alloc ?_ _ | (with_reducible refine bw_set ?_ ?_ _; focus (dsimp only; omega)) | (with_reducible apply bw_behind; with_reducible assumption))

set_option maxRecDepth 100000 in
set_option maxHeartbeats 4000000 in
theorem walk_8 (w : World) (n : Nat) (D Z V K M E Q T P Bf Af : Int) (B0 B1 B2 B3 : Nat → Nat → BitVec 8) (S0 S1 S2 S3 : Nat → BitVec 256) (c0 : ∀ (_ : Unit), Calls Try.prog 5 #[.int .i64 2] w fun e w' => e = .returned (.tuple #[.pointer (some ⟨w.heap.size + 1, 0, none⟩), .int .i64 0]) ∧ Mem w' (w.heap.size + 1) w.heap.size B0 S0 ∧ Below w.heap.size w w') (c1 : ∀ W, Mem W (w.heap.size + 1) w.heap.size B0 S0 → Below w.heap.size w W → Calls Try.prog 7 #[.pointer (some ⟨w.heap.size + 1, 0, none⟩), .int .u64 Bf, .int .i64 1, .int .u64 90] W fun e w' => e = .returned (.int .i64 0) ∧ Mem w' (w.heap.size + 1) w.heap.size B1 S1 ∧ Below w.heap.size w w') (c2 : ∀ W, Mem W (w.heap.size + 1) w.heap.size B1 S1 → Below w.heap.size w W → Calls Try.prog 7 #[.pointer (some ⟨w.heap.size + 1, 0, none⟩), .int .u64 Af, .int .i64 1, .int .u64 165] W fun e w' => e = .returned (.int .i64 0) ∧ Mem w' (w.heap.size + 1) w.heap.size B2 S2 ∧ Below w.heap.size w w') (c3 : ∀ W, Mem W (w.heap.size + 1) w.heap.size B2 S2 → Below w.heap.size w W → Calls Try.prog 7 #[.pointer (some ⟨w.heap.size + 1, 0, none⟩), .int .u64 P, .int .i64 (n : Int), .int .u64 V] W fun e w' => e = .returned (.int .i64 0) ∧ Mem w' (w.heap.size + 1) w.heap.size B3 S3 ∧ Below w.heap.size w w') (c4 : ∀ W, Mem W (w.heap.size + 1) w.heap.size B3 S3 → Calls Try.prog 9 #[.pointer (some ⟨w.heap.size + 1, 0, none⟩), .int .u64 P, .int .i64 (n : Int)] W (Quiet (.tuple #[.int .u64 V, .int .i64 0]) W)) (c5 : ∀ W, Mem W (w.heap.size + 1) w.heap.size B3 S3 → Calls Try.prog 9 #[.pointer (some ⟨w.heap.size + 1, 0, none⟩), .int .u64 Bf, .int .i64 1] W (Quiet (.tuple #[.int .u64 90, .int .i64 0]) W)) (c6 : ∀ W, Mem W (w.heap.size + 1) w.heap.size B3 S3 → Calls Try.prog 9 #[.pointer (some ⟨w.heap.size + 1, 0, none⟩), .int .u64 Af, .int .i64 1] W (Quiet (.tuple #[.int .u64 165, .int .i64 0]) W)) (hR : ∀ k, k < n → ∃ E S T Y, RoundMet P V k E S T Y ∧ ∀ W, Mem W (w.heap.size + 1) w.heap.size B3 S3 → Calls Try.prog 9 #[.pointer (some ⟨w.heap.size + 1, 0, none⟩), .int .u64 E, .int .i64 1] W (Quiet (.tuple #[.int .u64 Y, .int .i64 0]) W)) (_hK : bits .and .i64 Z 3 = K) (_hk0 : 0 ≤ K) (_hk1 : K < 64) (_hk2 : RowKit.wrap64 (2 ^ K.toNat) = (n : Int)) (_hk3 : IntKind.i64.wrap (2 ^ K.toNat) = (n : Int)) (_hk4 : IntKind.u64.wrap K = K) (_hn8 : n ≤ 8) (_hn0 : (n : Int) ≠ 0) (_hn1 : (0 : Int) < (n : Int)) (_hn2 : IntKind.u64.wrap (n : Int) = (n : Int)) (_hM : bits .and .i64 D 8191 = M) (_hE : 8 + M = E) (_hE1 : IntKind.i64.wrap E = E) (_hE2 : IntKind.u64.wrap E = E) (_hQ : E / (n : Int) = Q) (_hQ2 : E.tdiv (n : Int) = Q) (_hQ3 : IntKind.u64.wrap Q = Q) (_hT : Q * (n : Int) = T) (_hT2 : IntKind.u64.wrap T = T) (_hP : T % 8184 = P) (_hP2 : T.tmod 8184 = P) (_hs : ¬ P < 8) (_hBf : P - 1 = Bf) (_hBf2 : IntKind.u64.wrap Bf = Bf) (_hAf : P + (n : Int) = Af) (_hAf2 : IntKind.u64.wrap Af = Af) (_h8 : (n : Int) = 8) :
    Calls Try.prog 4 #[.int .i64 D, .int .u64 V, .int .i64 Z] w (Makes (.bool true) w) := by
  have Cc0 := hide c0
  have Cc1 := hide c1
  have Cc2 := hide c2
  have Cc3 := hide c3
  have Cc4 := hide c4
  have Cc5 := hide c5
  have Cc6 := hide c6
  have ChR := hide hR
  clear c0 c1 c2 c3 c4 c5 c6 hR
  have SS := cell_same
  have LB' := ltB_add
  have LS := ltB_self
  have LA' := alloc_reads
  have LH := alloc_holds
  have HN := hide _h8
  clear _h8
  go_enter Try.func4, Try.ntmps4
  go_upto_region 16 with (first | (go_at_call 5; (with_reducible refine (Cc0.out ()).mono ?_); rintro e w1 ⟨rfl, hm1, hb1⟩) | (go_at_call 7; (with_reducible refine (Cc1.out _ ?_ ?_).mono ?_); (focus (repeat (first | with_reducible assumption | with_reducible refine mem_dr _ ?_ | with_reducible refine mem_d1 ?_ | with_reducible refine mem_al _ ?_ | (with_reducible apply mem_be; with_reducible assumption)))); (focus (repeat (first | with_reducible assumption | with_reducible exact Below.refl _ _ | with_reducible refine Below.drew ?_ | with_reducible refine below_drewN ?_ _ | with_reducible refine bw_alloc ?_ _ | (with_reducible refine bw_set ?_ ?_ _; focus (dsimp only; omega)) | (with_reducible apply bw_behind; with_reducible assumption)))); rintro e w2 ⟨rfl, hm2, hb2⟩) | (go_at_call 7; (with_reducible refine (Cc2.out _ ?_ ?_).mono ?_); (focus (repeat (first | with_reducible assumption | with_reducible refine mem_dr _ ?_ | with_reducible refine mem_d1 ?_ | with_reducible refine mem_al _ ?_ | (with_reducible apply mem_be; with_reducible assumption)))); (focus (repeat (first | with_reducible assumption | with_reducible exact Below.refl _ _ | with_reducible refine Below.drew ?_ | with_reducible refine below_drewN ?_ _ | with_reducible refine bw_alloc ?_ _ | (with_reducible refine bw_set ?_ ?_ _; focus (dsimp only; omega)) | (with_reducible apply bw_behind; with_reducible assumption)))); rintro e w3 ⟨rfl, hm3, hb3⟩) | (go_at_call 7; (with_reducible refine (Cc3.out _ ?_ ?_).mono ?_); (focus (repeat (first | with_reducible assumption | with_reducible refine mem_dr _ ?_ | with_reducible refine mem_d1 ?_ | with_reducible refine mem_al _ ?_ | (with_reducible apply mem_be; with_reducible assumption)))); (focus (repeat (first | with_reducible assumption | with_reducible exact Below.refl _ _ | with_reducible refine Below.drew ?_ | with_reducible refine below_drewN ?_ _ | with_reducible refine bw_alloc ?_ _ | (with_reducible refine bw_set ?_ ?_ _; focus (dsimp only; omega)) | (with_reducible apply bw_behind; with_reducible assumption)))); rintro e w4 ⟨rfl, hm4, hb4⟩) | (go_at_call 9; (with_reducible refine (Cc4.out _ ?_).mono ?_); (focus (repeat (first | with_reducible assumption | with_reducible refine mem_dr _ ?_ | with_reducible refine mem_d1 ?_ | with_reducible refine mem_al _ ?_ | (with_reducible apply mem_be; with_reducible assumption)))); rintro e w' ⟨rfl, n1, rfl⟩) | (go_at_call 9; (with_reducible refine (Cc5.out _ ?_).mono ?_); (focus (repeat (first | with_reducible assumption | with_reducible refine mem_dr _ ?_ | with_reducible refine mem_d1 ?_ | with_reducible refine mem_al _ ?_ | (with_reducible apply mem_be; with_reducible assumption)))); rintro e w' ⟨rfl, n1, rfl⟩) | (go_at_call 9; (with_reducible refine (Cc6.out _ ?_).mono ?_); (focus (repeat (first | with_reducible assumption | with_reducible refine mem_dr _ ?_ | with_reducible refine mem_d1 ?_ | with_reducible refine mem_al _ ?_ | (with_reducible apply mem_be; with_reducible assumption)))); rintro e w' ⟨rfl, n1, rfl⟩))
  refine wp_abs (fun W => Mem W (w.heap.size + 1) w.heap.size B3 S3 ∧ Below w.heap.size w W) ⟨by repeat (first | with_reducible assumption | with_reducible refine mem_dr _ ?_ | with_reducible refine mem_d1 ?_ | with_reducible refine mem_al _ ?_ | (with_reducible apply mem_be; with_reducible assumption)), by repeat (first | with_reducible assumption | with_reducible exact Below.refl _ _ | with_reducible refine Below.drew ?_ | with_reducible refine below_drewN ?_ _ | with_reducible refine bw_alloc ?_ _ | (with_reducible refine bw_set ?_ ?_ _; focus (dsimp only; omega)) | (with_reducible apply bw_behind; with_reducible assumption))⟩ ?_
  rintro w9 ⟨hm9, hb9⟩
  go_wp2
  go_loopw [19] (fun i wr => ∃ k : Nat, k ≤ n ∧ i = .int .i64 (k : Int) ∧ Mem wr (w.heap.size + 1) w.heap.size B3 S3 ∧ Below w.heap.size w wr) (fun i _ => n - (intOf i).toNat)
  case atStart => exact ⟨0, by omega, rfl, by repeat (first | with_reducible assumption | with_reducible refine mem_dr _ ?_ | with_reducible refine mem_d1 ?_ | with_reducible refine mem_al _ ?_ | (with_reducible apply mem_be; with_reducible assumption)), by repeat (first | with_reducible assumption | with_reducible exact Below.refl _ _ | with_reducible refine Below.drew ?_ | with_reducible refine below_drewN ?_ _ | with_reducible refine bw_alloc ?_ _ | (with_reducible refine bw_set ?_ ?_ _; focus (dsimp only; omega)) | (with_reducible apply bw_behind; with_reducible assumption))⟩
  case round =>
    obtain ⟨k, hk, rfl, hm, hb⟩ := hrel
    by_cases hlt : k < n
    · obtain ⟨E2, S, T2, Y, ⟨e1, e2, e3, e4, e5, e6, e7, e8⟩, c7⟩ := ChR.out k hlt
      have Cc7 := hide c7
      clear c7
      have hl : (k : Int) < (n : Int) := by omega
      go_wp2_with (first | (go_at_call 9; (with_reducible refine (Cc7.out _ ?_).mono ?_); (focus (repeat (first | with_reducible assumption | with_reducible refine mem_dr _ ?_ | with_reducible refine mem_d1 ?_ | with_reducible refine mem_al _ ?_ | (with_reducible apply mem_be; with_reducible assumption)))); rintro e w' ⟨rfl, n1, rfl⟩))
      go_roundw
      case rel => exact ⟨k + 1, by omega, by go_num, by repeat (first | with_reducible assumption | with_reducible refine mem_dr _ ?_ | with_reducible refine mem_d1 ?_ | with_reducible refine mem_al _ ?_ | (with_reducible apply mem_be; with_reducible assumption)), by repeat (first | with_reducible assumption | with_reducible exact Below.refl _ _ | with_reducible refine Below.drew ?_ | with_reducible refine below_drewN ?_ _ | with_reducible refine bw_alloc ?_ _ | (with_reducible refine bw_set ?_ ?_ _; focus (dsimp only; omega)) | (with_reducible apply bw_behind; with_reducible assumption))⟩
      case measure => simp [intOf]; omega
    · have : k = n := by omega
      subst this
      have h8 := HN.out
      go_wp2
      refine bodyPost_ret (v := .bool true) (by simp (maxDischargeDepth := 4) [results, Try.results4, go_sem, *]) rfl ?_
      refine ⟨rfl, ?_⟩
      repeat (first | with_reducible assumption | with_reducible exact Below.refl _ _ | with_reducible refine Below.drew ?_ | with_reducible refine below_drewN ?_ _ | with_reducible refine bw_alloc ?_ _ | (with_reducible refine bw_set ?_ ?_ _; focus (dsimp only; omega)) | (with_reducible apply bw_behind; with_reducible assumption))

set_option maxRecDepth 100000 in
set_option maxHeartbeats 4000000 in
theorem walk_n (w : World) (n : Nat) (D Z V K M E Q T P Bf Af SS8 G H X : Int) (B0 B1 B2 B3 : Nat → Nat → BitVec 8) (S0 S1 S2 S3 : Nat → BitVec 256) (c0 : ∀ (_ : Unit), Calls Try.prog 5 #[.int .i64 2] w fun e w' => e = .returned (.tuple #[.pointer (some ⟨w.heap.size + 1, 0, none⟩), .int .i64 0]) ∧ Mem w' (w.heap.size + 1) w.heap.size B0 S0 ∧ Below w.heap.size w w') (c1 : ∀ W, Mem W (w.heap.size + 1) w.heap.size B0 S0 → Below w.heap.size w W → Calls Try.prog 7 #[.pointer (some ⟨w.heap.size + 1, 0, none⟩), .int .u64 Bf, .int .i64 1, .int .u64 90] W fun e w' => e = .returned (.int .i64 0) ∧ Mem w' (w.heap.size + 1) w.heap.size B1 S1 ∧ Below w.heap.size w w') (c2 : ∀ W, Mem W (w.heap.size + 1) w.heap.size B1 S1 → Below w.heap.size w W → Calls Try.prog 7 #[.pointer (some ⟨w.heap.size + 1, 0, none⟩), .int .u64 Af, .int .i64 1, .int .u64 165] W fun e w' => e = .returned (.int .i64 0) ∧ Mem w' (w.heap.size + 1) w.heap.size B2 S2 ∧ Below w.heap.size w w') (c3 : ∀ W, Mem W (w.heap.size + 1) w.heap.size B2 S2 → Below w.heap.size w W → Calls Try.prog 7 #[.pointer (some ⟨w.heap.size + 1, 0, none⟩), .int .u64 P, .int .i64 (n : Int), .int .u64 V] W fun e w' => e = .returned (.int .i64 0) ∧ Mem w' (w.heap.size + 1) w.heap.size B3 S3 ∧ Below w.heap.size w w') (c4 : ∀ W, Mem W (w.heap.size + 1) w.heap.size B3 S3 → Calls Try.prog 9 #[.pointer (some ⟨w.heap.size + 1, 0, none⟩), .int .u64 P, .int .i64 (n : Int)] W (Quiet (.tuple #[.int .u64 X, .int .i64 0]) W)) (c5 : ∀ W, Mem W (w.heap.size + 1) w.heap.size B3 S3 → Calls Try.prog 9 #[.pointer (some ⟨w.heap.size + 1, 0, none⟩), .int .u64 Bf, .int .i64 1] W (Quiet (.tuple #[.int .u64 90, .int .i64 0]) W)) (c6 : ∀ W, Mem W (w.heap.size + 1) w.heap.size B3 S3 → Calls Try.prog 9 #[.pointer (some ⟨w.heap.size + 1, 0, none⟩), .int .u64 Af, .int .i64 1] W (Quiet (.tuple #[.int .u64 165, .int .i64 0]) W)) (hR : ∀ k, k < n → ∃ E S T Y, RoundMet P V k E S T Y ∧ ∀ W, Mem W (w.heap.size + 1) w.heap.size B3 S3 → Calls Try.prog 9 #[.pointer (some ⟨w.heap.size + 1, 0, none⟩), .int .u64 E, .int .i64 1] W (Quiet (.tuple #[.int .u64 Y, .int .i64 0]) W)) (_hK : bits .and .i64 Z 3 = K) (_hk0 : 0 ≤ K) (_hk1 : K < 64) (_hk2 : RowKit.wrap64 (2 ^ K.toNat) = (n : Int)) (_hk3 : IntKind.i64.wrap (2 ^ K.toNat) = (n : Int)) (_hk4 : IntKind.u64.wrap K = K) (_hn8 : n ≤ 8) (_hn0 : (n : Int) ≠ 0) (_hn1 : (0 : Int) < (n : Int)) (_hn2 : IntKind.u64.wrap (n : Int) = (n : Int)) (_hM : bits .and .i64 D 8191 = M) (_hE : 8 + M = E) (_hE1 : IntKind.i64.wrap E = E) (_hE2 : IntKind.u64.wrap E = E) (_hQ : E / (n : Int) = Q) (_hQ2 : E.tdiv (n : Int) = Q) (_hQ3 : IntKind.u64.wrap Q = Q) (_hT : Q * (n : Int) = T) (_hT2 : IntKind.u64.wrap T = T) (_hP : T % 8184 = P) (_hP2 : T.tmod 8184 = P) (_hs : ¬ P < 8) (_hBf : P - 1 = Bf) (_hBf2 : IntKind.u64.wrap Bf = Bf) (_hAf : P + (n : Int) = Af) (_hAf2 : IntKind.u64.wrap Af = Af) (_h8 : ((n : Int) == 8) = false) (_h9 : (n : Int) < 8) (_hS : IntKind.i64.wrap (8 * (n : Int)) = SS8) (_hS2 : IntKind.u64.wrap SS8 = SS8) (_hS3 : 0 ≤ SS8) (_hS4 : SS8 < 64) (_hG : IntKind.u64.wrap (2 ^ SS8.toNat) = G) (_hH : IntKind.u64.wrap (G - 1) = H) (_hX : bits .and .u64 V H = X) :
    Calls Try.prog 4 #[.int .i64 D, .int .u64 V, .int .i64 Z] w (Makes (.bool true) w) := by
  have Cc0 := hide c0
  have Cc1 := hide c1
  have Cc2 := hide c2
  have Cc3 := hide c3
  have Cc4 := hide c4
  have Cc5 := hide c5
  have Cc6 := hide c6
  have ChR := hide hR
  clear c0 c1 c2 c3 c4 c5 c6 hR
  have SS := cell_same
  have LB' := ltB_add
  have LS := ltB_self
  have LA' := alloc_reads
  have LH := alloc_holds
  go_enter Try.func4, Try.ntmps4
  go_upto_region 16 with (first | (go_at_call 5; (with_reducible refine (Cc0.out ()).mono ?_); rintro e w1 ⟨rfl, hm1, hb1⟩) | (go_at_call 7; (with_reducible refine (Cc1.out _ ?_ ?_).mono ?_); (focus (repeat (first | with_reducible assumption | with_reducible refine mem_dr _ ?_ | with_reducible refine mem_d1 ?_ | with_reducible refine mem_al _ ?_ | (with_reducible apply mem_be; with_reducible assumption)))); (focus (repeat (first | with_reducible assumption | with_reducible exact Below.refl _ _ | with_reducible refine Below.drew ?_ | with_reducible refine below_drewN ?_ _ | with_reducible refine bw_alloc ?_ _ | (with_reducible refine bw_set ?_ ?_ _; focus (dsimp only; omega)) | (with_reducible apply bw_behind; with_reducible assumption)))); rintro e w2 ⟨rfl, hm2, hb2⟩) | (go_at_call 7; (with_reducible refine (Cc2.out _ ?_ ?_).mono ?_); (focus (repeat (first | with_reducible assumption | with_reducible refine mem_dr _ ?_ | with_reducible refine mem_d1 ?_ | with_reducible refine mem_al _ ?_ | (with_reducible apply mem_be; with_reducible assumption)))); (focus (repeat (first | with_reducible assumption | with_reducible exact Below.refl _ _ | with_reducible refine Below.drew ?_ | with_reducible refine below_drewN ?_ _ | with_reducible refine bw_alloc ?_ _ | (with_reducible refine bw_set ?_ ?_ _; focus (dsimp only; omega)) | (with_reducible apply bw_behind; with_reducible assumption)))); rintro e w3 ⟨rfl, hm3, hb3⟩) | (go_at_call 7; (with_reducible refine (Cc3.out _ ?_ ?_).mono ?_); (focus (repeat (first | with_reducible assumption | with_reducible refine mem_dr _ ?_ | with_reducible refine mem_d1 ?_ | with_reducible refine mem_al _ ?_ | (with_reducible apply mem_be; with_reducible assumption)))); (focus (repeat (first | with_reducible assumption | with_reducible exact Below.refl _ _ | with_reducible refine Below.drew ?_ | with_reducible refine below_drewN ?_ _ | with_reducible refine bw_alloc ?_ _ | (with_reducible refine bw_set ?_ ?_ _; focus (dsimp only; omega)) | (with_reducible apply bw_behind; with_reducible assumption)))); rintro e w4 ⟨rfl, hm4, hb4⟩) | (go_at_call 9; (with_reducible refine (Cc4.out _ ?_).mono ?_); (focus (repeat (first | with_reducible assumption | with_reducible refine mem_dr _ ?_ | with_reducible refine mem_d1 ?_ | with_reducible refine mem_al _ ?_ | (with_reducible apply mem_be; with_reducible assumption)))); rintro e w' ⟨rfl, n1, rfl⟩) | (go_at_call 9; (with_reducible refine (Cc5.out _ ?_).mono ?_); (focus (repeat (first | with_reducible assumption | with_reducible refine mem_dr _ ?_ | with_reducible refine mem_d1 ?_ | with_reducible refine mem_al _ ?_ | (with_reducible apply mem_be; with_reducible assumption)))); rintro e w' ⟨rfl, n1, rfl⟩) | (go_at_call 9; (with_reducible refine (Cc6.out _ ?_).mono ?_); (focus (repeat (first | with_reducible assumption | with_reducible refine mem_dr _ ?_ | with_reducible refine mem_d1 ?_ | with_reducible refine mem_al _ ?_ | (with_reducible apply mem_be; with_reducible assumption)))); rintro e w' ⟨rfl, n1, rfl⟩))
  refine wp_abs (fun W => Mem W (w.heap.size + 1) w.heap.size B3 S3 ∧ Below w.heap.size w W) ⟨by repeat (first | with_reducible assumption | with_reducible refine mem_dr _ ?_ | with_reducible refine mem_d1 ?_ | with_reducible refine mem_al _ ?_ | (with_reducible apply mem_be; with_reducible assumption)), by repeat (first | with_reducible assumption | with_reducible exact Below.refl _ _ | with_reducible refine Below.drew ?_ | with_reducible refine below_drewN ?_ _ | with_reducible refine bw_alloc ?_ _ | (with_reducible refine bw_set ?_ ?_ _; focus (dsimp only; omega)) | (with_reducible apply bw_behind; with_reducible assumption))⟩ ?_
  rintro w9 ⟨hm9, hb9⟩
  go_wp2
  go_loopw [19] (fun i wr => ∃ k : Nat, k ≤ n ∧ i = .int .i64 (k : Int) ∧ Mem wr (w.heap.size + 1) w.heap.size B3 S3 ∧ Below w.heap.size w wr) (fun i _ => n - (intOf i).toNat)
  case atStart => exact ⟨0, by omega, rfl, by repeat (first | with_reducible assumption | with_reducible refine mem_dr _ ?_ | with_reducible refine mem_d1 ?_ | with_reducible refine mem_al _ ?_ | (with_reducible apply mem_be; with_reducible assumption)), by repeat (first | with_reducible assumption | with_reducible exact Below.refl _ _ | with_reducible refine Below.drew ?_ | with_reducible refine below_drewN ?_ _ | with_reducible refine bw_alloc ?_ _ | (with_reducible refine bw_set ?_ ?_ _; focus (dsimp only; omega)) | (with_reducible apply bw_behind; with_reducible assumption))⟩
  case round =>
    obtain ⟨k, hk, rfl, hm, hb⟩ := hrel
    by_cases hlt : k < n
    · obtain ⟨E2, S, T2, Y, ⟨e1, e2, e3, e4, e5, e6, e7, e8⟩, c7⟩ := ChR.out k hlt
      have Cc7 := hide c7
      clear c7
      have hl : (k : Int) < (n : Int) := by omega
      go_wp2_with (first | (go_at_call 9; (with_reducible refine (Cc7.out _ ?_).mono ?_); (focus (repeat (first | with_reducible assumption | with_reducible refine mem_dr _ ?_ | with_reducible refine mem_d1 ?_ | with_reducible refine mem_al _ ?_ | (with_reducible apply mem_be; with_reducible assumption)))); rintro e w' ⟨rfl, n1, rfl⟩))
      go_roundw
      case rel => exact ⟨k + 1, by omega, by go_num, by repeat (first | with_reducible assumption | with_reducible refine mem_dr _ ?_ | with_reducible refine mem_d1 ?_ | with_reducible refine mem_al _ ?_ | (with_reducible apply mem_be; with_reducible assumption)), by repeat (first | with_reducible assumption | with_reducible exact Below.refl _ _ | with_reducible refine Below.drew ?_ | with_reducible refine below_drewN ?_ _ | with_reducible refine bw_alloc ?_ _ | (with_reducible refine bw_set ?_ ?_ _; focus (dsimp only; omega)) | (with_reducible apply bw_behind; with_reducible assumption))⟩
      case measure => simp [intOf]; omega
    · have : k = n := by omega
      subst this
      go_wp2
      refine bodyPost_ret (v := .bool true) (by simp (maxDischargeDepth := 4) [results, Try.results4, go_sem, *]) rfl ?_
      refine ⟨rfl, ?_⟩
      repeat (first | with_reducible assumption | with_reducible exact Below.refl _ _ | with_reducible refine Below.drew ?_ | with_reducible refine below_drewN ?_ _ | with_reducible refine bw_alloc ?_ _ | (with_reducible refine bw_set ?_ ?_ _; focus (dsimp only; omega)) | (with_reducible apply bw_behind; with_reducible assumption))

/-- The byte at an address. -/
def flat (B : Nat → Nat → BitVec 8) (a : Nat) : BitVec 8 := B (a / 4096) (a % 4096)
theorem flat_put {A p off n : Nat} (h : At A p off n) (B : Nat → Nat → BitVec 8) (v : BitVec 64) (a : Nat) : flat (updP B p (putB (B p) off v n)) a = if A ≤ a ∧ a < A + n then by8 v (a - A) else flat B a := by
  have hf := h.fits
  obtain ⟨h1, h2, h3, h4, h5⟩ := h
  unfold flat updP putB
  by_cases e : a / 4096 = p
  · rw [if_pos e]
    by_cases e2 : off ≤ a % 4096 ∧ a % 4096 < off + n
    · rw [if_pos e2, if_pos (by omega), show a % 4096 - off = a - A by omega]
    · rw [if_neg e2, if_neg (by omega), e]
  · rw [if_neg e, if_neg (by omega)]
theorem flat_read {A p off n : Nat} (h : At A p off n) (B : Nat → Nat → BitVec 8) : numB (fun i => B p (off + i)) n = numB (fun i => flat B (A + i)) n := by
  have hf := h.fits
  obtain ⟨h1, h2, h3, h4, h5⟩ := h
  refine numB_congr (fun i hi => ?_)
  unfold flat
  rw [show (A + i) / 4096 = p by omega, show (A + i) % 4096 = off + i by omega]
theorem at_of {A n : Nat} (h : A < 8192) (hn : n = 1 ∨ n = 2 ∨ n = 4 ∨ n = 8 ∨ n = 16) (hd : A % n = 0) : At A (A / 4096) (A % 4096) n :=
  ⟨by omega, by omega, by omega, by rcases hn with rfl | rfl | rfl | rfl | rfl <;> omega, hn⟩
theorem bits255 : ∀ j, j < 64 → (255#64).getLsbD j = decide (j < 8) := by decide
theorem byte_and (x : BitVec 64) : (x.setWidth 8).setWidth 64 = x &&& 255#64 := by
  refine ext64 (fun j hj => ?_)
  rw [BitVec.getLsbD_setWidth, BitVec.getLsbD_setWidth, BitVec.getLsbD_and, bits255 j hj]
  by_cases h : j < 8 <;> simp [h, hj]
theorem stored {A p off n : Nat} (h : At A p off n) (hn : n ≤ 8) (v : BitVec 64) (w : World) (B : Nat → Nat → BitVec 8) (S : Nat → BitVec 256) : ∀ W, Mem W (w.heap.size + 1) w.heap.size B S → Below w.heap.size w W → Calls Try.prog 7 #[.pointer (some ⟨w.heap.size + 1, 0, none⟩), .int .u64 (A : Int), .int .i64 (n : Int), .int .u64 (v.toNat : Int)] W fun e w' => e = .returned (.int .i64 0) ∧ Mem w' (w.heap.size + 1) w.heap.size (updP B p (putB (B p) off v n)) (updP S p (lessT (S p) off)) ∧ Below w.heap.size w w' :=
  fun W hm hb => (store_any h hn v _ _ B S W hm).mono fun _ _ ⟨he, hm', ho⟩ => ⟨he, hm', hb.trans (ho.below (Nat.le_refl _) hb.size)⟩
theorem stored_one {A : Nat} (h : A < 8192) (v : BitVec 64) (V : Int) (hV : (v.toNat : Int) = V) (w : World) (B : Nat → Nat → BitVec 8) (S : Nat → BitVec 256) : ∀ W, Mem W (w.heap.size + 1) w.heap.size B S → Below w.heap.size w W → Calls Try.prog 7 #[.pointer (some ⟨w.heap.size + 1, 0, none⟩), .int .u64 (A : Int), .int .i64 1, .int .u64 V] W fun e w' => e = .returned (.int .i64 0) ∧ Mem w' (w.heap.size + 1) w.heap.size (updP B (A / 4096) (putB (B (A / 4096)) (A % 4096) v 1)) (updP S (A / 4096) (lessT (S (A / 4096)) (A % 4096))) ∧ Below w.heap.size w w' := by
  subst hV
  exact stored (n := 1) (at_of h (by omega) (by omega)) (by omega) v w B S
theorem loaded {A n : Nat} (h : A < 8192) (hn : n = 1 ∨ n = 2 ∨ n = 4 ∨ n = 8) (hd : A % n = 0) (R N : Nat) (B : Nat → Nat → BitVec 8) (S : Nat → BitVec 256) (X : Int) (hX : ((numB (fun i => flat B (A + i)) n).toNat : Int) = X) : ∀ W, Mem W R N B S → Calls Try.prog 9 #[.pointer (some ⟨R, 0, none⟩), .int .u64 (A : Int), .int .i64 (n : Int)] W (Quiet (.tuple #[.int .u64 X, .int .i64 0]) W) := fun W hm => by
  have ha : At A (A / 4096) (A % 4096) n := at_of h (by omega) hd
  have hl := load_any ha (by omega) R N B S W hm
  rw [flat_read ha, hX] at hl
  exact hl
theorem loaded_one {A : Nat} (h : A < 8192) (R N : Nat) (B : Nat → Nat → BitVec 8) (S : Nat → BitVec 256) (X : Int) (hX : ((flat B A).toNat : Int) = X) : ∀ W, Mem W R N B S → Calls Try.prog 9 #[.pointer (some ⟨R, 0, none⟩), .int .u64 (A : Int), .int .i64 1] W (Quiet (.tuple #[.int .u64 X, .int .i64 0]) W) :=
  loaded (n := 1) h (by omega) (by omega) R N B S X (by rw [numB_one, Nat.add_zero, ← byte_up]; exact hX)
theorem and_mod (x : Int) (m k : Nat) (hm : m + 1 = 2 ^ k) (hk : k < 63) : bits .and .i64 x (m : Int) = x % (2 ^ k : Nat) := by
  have h2 : bits .and .i64 x (m : Int) = IntKind.i64.wrap ((BitVec.ofInt 64 x &&& BitVec.ofInt 64 (m : Int)).toNat : Int) := rfl
  have hp : 2 ^ k ≤ 2 ^ 62 := Nat.pow_le_pow_right (by omega) (by omega)
  have hpos := Nat.two_pow_pos k
  have h62 : (2 : Nat) ^ 62 = 4611686018427387904 := rfl
  have hm2 : (BitVec.ofInt 64 (m : Int)).toNat = m := by
    rw [BitVec.ofInt_natCast, BitVec.toNat_ofNat, Nat.mod_eq_of_lt (by omega)]
  have h3 : (BitVec.ofInt 64 x &&& BitVec.ofInt 64 (m : Int)).toNat = (BitVec.ofInt 64 x).toNat % 2 ^ k := by
    rw [BitVec.toNat_and, hm2, show m = 2 ^ k - 1 by omega, Nat.and_two_pow_sub_one_eq_mod]
  rw [h2, h3, BitVec.toNat_ofInt, IntKind.wrap_i64]
  have h4 : ((x % ((2 ^ 64 : Nat) : Int)).toNat % 2 ^ k : Nat) = (x % ((2 ^ k : Nat) : Int)).toNat := by
    have hd : ((2 ^ k : Nat) : Int) ∣ ((2 ^ 64 : Nat) : Int) := by
      refine Int.natCast_dvd_natCast.2 (Nat.pow_dvd_pow 2 (by omega))
    have h5 := Int.emod_emod_of_dvd x hd
    have h6 : 0 ≤ x % ((2 ^ 64 : Nat) : Int) := Int.emod_nonneg _ (by omega)
    generalize x % ((2 ^ 64 : Nat) : Int) = y at *
    obtain ⟨z, rfl⟩ := Int.eq_ofNat_of_zero_le h6
    rw [← h5, Int.toNat_natCast, ← Int.natCast_emod, Int.toNat_natCast]
  rw [h4]
  have h7 : 0 ≤ x % ((2 ^ k : Nat) : Int) := Int.emod_nonneg _ (by omega)
  have h8 : x % ((2 ^ k : Nat) : Int) < ((2 ^ k : Nat) : Int) := Int.emod_lt_of_pos _ (by omega)
  omega
theorem made_two (w : World) : ∀ (_ : Unit), Calls Try.prog 5 #[.int .i64 2] w fun e w' => e = .returned (.tuple #[.pointer (some ⟨w.heap.size + 1, 0, none⟩), .int .i64 0]) ∧ Mem w' (w.heap.size + 1) w.heap.size (fun _ _ => 0#8) (fun _ => 0#256) ∧ Below w.heap.size w w' :=
  fun _ => (new_two w).mono fun _ _ ⟨h1, h2, h3, _⟩ => ⟨h1, h2, h3⟩

/-- What the law's walks want of a place. -/
theorem round_met (v : BitVec 64) (A n : Nat) (hA : A + n ≤ 8192) (hn : n ≤ 8) (R N : Nat) (B : Nat → Nat → BitVec 8) (S : Nat → BitVec 256) (hB : ∀ k, k < n → flat B (A + k) = by8 v k) :
    ∀ k, k < n → ∃ E S' T Y, RoundMet (A : Int) (v.toNat : Int) k E S' T Y ∧ ∀ W, Mem W R N B S → Calls Try.prog 9 #[.pointer (some ⟨R, 0, none⟩), .int .u64 E, .int .i64 1] W (Quiet (.tuple #[.int .u64 Y, .int .i64 0]) W) := fun k hk => by
  refine ⟨((A + k : Nat) : Int), ((8 * k : Nat) : Int), ((v >>> (8 * k)).toNat : Int), (((by8 v k).setWidth 64).toNat : Int), ⟨?_, ?_, ?_, ?_, ?_, ?_, by omega, by omega⟩, loaded_one (by omega) R N B S _ (by rw [hB k hk]; exact byte_up _)⟩
  · rw [IntKind.wrap_u64]; omega
  · rw [IntKind.wrap_u64]; omega
  · rw [IntKind.wrap_i64]; omega
  · rw [IntKind.wrap_u64]; omega
  · rw [Int.toNat_natCast]; exact shr_bv _ _
  · unfold by8
    rw [byte_and]
    exact and_bv _ 255#64
theorem mask_of (v : BitVec 64) (n : Nat) (hn4 : n = 1 ∨ n = 2 ∨ n = 4 ∨ n = 8) (hlt : n < 8) : ∃ S8 G H : Int, IntKind.i64.wrap (8 * (n : Int)) = S8 ∧ IntKind.u64.wrap S8 = S8 ∧ 0 ≤ S8 ∧ S8 < 64 ∧ IntKind.u64.wrap (2 ^ S8.toNat) = G ∧ IntKind.u64.wrap (G - 1) = H ∧ bits .and .u64 (v.toNat : Int) H = ((numB (by8 v) n).toNat : Int) := by
  rw [numB_by8]
  rcases hn4 with rfl | rfl | rfl | rfl
  · exact ⟨8, 256, 255, by rfl, by rfl, by decide, by decide, by rfl, by rfl, and_bv v 255#64⟩
  · exact ⟨16, 65536, 65535, by rfl, by rfl, by decide, by decide, by rfl, by rfl, and_bv v 65535#64⟩
  · exact ⟨32, 4294967296, 4294967295, by rfl, by rfl, by decide, by decide, by rfl, by rfl, and_bv v 4294967295#64⟩
  · omega
theorem whole_of (v : BitVec 64) (n : Nat) (e : n = 8) : numB (by8 v) n = v := by
  subst e
  rw [numB_by8]
  refine ext64 (fun j hj => ?_)
  rw [BitVec.getLsbD_and, BitVec.getLsbD_ushiftRight, BitVec.getLsbD_allOnes]
  simp
  omega
theorem places (v : BitVec 64) (w : World) (n : Nat) (hn4 : n = 1 ∨ n = 2 ∨ n = 4 ∨ n = 8) (hn8 : n ≤ 8) (P' : Nat) (a0 : 8 ≤ P') (a1 : P' + n ≤ 8191) (a2 : P' % n = 0) : ∃ B1 S1 B2 S2 B3 S3, (∀ W, Mem W (w.heap.size + 1) w.heap.size (fun _ _ => 0#8) (fun _ => 0#256) → Below w.heap.size w W → Calls Try.prog 7 #[.pointer (some ⟨w.heap.size + 1, 0, none⟩), .int .u64 ((P' - 1 : Nat) : Int), .int .i64 1, .int .u64 90] W fun e w' => e = .returned (.int .i64 0) ∧ Mem w' (w.heap.size + 1) w.heap.size B1 S1 ∧ Below w.heap.size w w') ∧ (∀ W, Mem W (w.heap.size + 1) w.heap.size B1 S1 → Below w.heap.size w W → Calls Try.prog 7 #[.pointer (some ⟨w.heap.size + 1, 0, none⟩), .int .u64 ((P' + n : Nat) : Int), .int .i64 1, .int .u64 165] W fun e w' => e = .returned (.int .i64 0) ∧ Mem w' (w.heap.size + 1) w.heap.size B2 S2 ∧ Below w.heap.size w w') ∧ (∀ W, Mem W (w.heap.size + 1) w.heap.size B2 S2 → Below w.heap.size w W → Calls Try.prog 7 #[.pointer (some ⟨w.heap.size + 1, 0, none⟩), .int .u64 (P' : Int), .int .i64 (n : Int), .int .u64 (v.toNat : Int)] W fun e w' => e = .returned (.int .i64 0) ∧ Mem w' (w.heap.size + 1) w.heap.size B3 S3 ∧ Below w.heap.size w w') ∧ (∀ W, Mem W (w.heap.size + 1) w.heap.size B3 S3 → Calls Try.prog 9 #[.pointer (some ⟨w.heap.size + 1, 0, none⟩), .int .u64 (P' : Int), .int .i64 (n : Int)] W (Quiet (.tuple #[.int .u64 ((numB (by8 v) n).toNat : Int), .int .i64 0]) W)) ∧ (∀ W, Mem W (w.heap.size + 1) w.heap.size B3 S3 → Calls Try.prog 9 #[.pointer (some ⟨w.heap.size + 1, 0, none⟩), .int .u64 ((P' - 1 : Nat) : Int), .int .i64 1] W (Quiet (.tuple #[.int .u64 90, .int .i64 0]) W)) ∧ (∀ W, Mem W (w.heap.size + 1) w.heap.size B3 S3 → Calls Try.prog 9 #[.pointer (some ⟨w.heap.size + 1, 0, none⟩), .int .u64 ((P' + n : Nat) : Int), .int .i64 1] W (Quiet (.tuple #[.int .u64 165, .int .i64 0]) W)) ∧ ∀ k, k < n → ∃ E S T Y, RoundMet (P' : Int) (v.toNat : Int) k E S T Y ∧ ∀ W, Mem W (w.heap.size + 1) w.heap.size B3 S3 → Calls Try.prog 9 #[.pointer (some ⟨w.heap.size + 1, 0, none⟩), .int .u64 E, .int .i64 1] W (Quiet (.tuple #[.int .u64 Y, .int .i64 0]) W) := by
  have hb : P' - 1 < 8192 := by omega
  have ha : P' + n < 8192 := by omega
  have hp : At P' (P' / 4096) (P' % 4096) n := at_of (by omega) (by omega) a2
  have f1 := flat_put (at_of hb (n := 1) (by omega) (by omega)) (fun _ _ => 0#8) 90#64
  have c1 := stored_one hb 90#64 90 rfl w (fun _ _ => 0#8) (fun _ => 0#256)
  generalize updP (fun _ _ => 0#8) ((P' - 1) / 4096) (putB _ ((P' - 1) % 4096) 90#64 1) = B1 at *
  generalize updP (fun _ => 0#256) ((P' - 1) / 4096) _ = S1 at *
  have f2 := flat_put (at_of ha (n := 1) (by omega) (by omega)) B1 165#64
  have c2 := stored_one ha 165#64 165 rfl w B1 S1
  generalize updP B1 ((P' + n) / 4096) (putB _ ((P' + n) % 4096) 165#64 1) = B2 at *
  generalize updP S1 ((P' + n) / 4096) _ = S2 at *
  have f3 := flat_put hp B2 v
  have c3 := stored hp hn8 v w B2 S2
  generalize updP B2 (P' / 4096) (putB _ (P' % 4096) v n) = B3 at *
  generalize updP S2 (P' / 4096) _ = S3 at *
  have r : ∀ k, k < n → flat B3 (P' + k) = by8 v k := fun k hk => by rw [f3, if_pos (by omega), Nat.add_sub_cancel_left]
  have rb : flat B3 (P' - 1) = 90#8 := by
    rw [f3, if_neg (by omega), f2, if_neg (by omega), f1, if_pos (by omega), Nat.sub_self]
    rfl
  have ra : flat B3 (P' + n) = 165#8 := by
    rw [f3, if_neg (by omega), f2, if_pos (by omega), Nat.sub_self]
    rfl
  exact ⟨B1, S1, B2, S2, B3, S3, c1, c2, c3, loaded (by omega) hn4 a2 _ _ B3 S3 _ (by rw [numB_congr (g := by8 v) r]), loaded_one hb _ _ B3 S3 90 (by rw [rb]; rfl), loaded_one ha _ _ B3 S3 165 (by rw [ra]; rfl), round_met v P' n (by omega) hn8 _ _ B3 S3 r⟩
set_option maxHeartbeats 4000000 in
theorem walk_of (D Z K : Int) (v : BitVec 64) (w : World) (n : Nat) (hn : n = 1 ∧ K = 0 ∨ n = 2 ∧ K = 1 ∨ n = 4 ∧ K = 2 ∨ n = 8 ∧ K = 3) (hK : bits .and .i64 Z 3 = K) :
    Calls Try.prog 4 #[.int .i64 D, .int .u64 (v.toNat : Int), .int .i64 Z] w (Makes (.bool true) w) := by
  have hM := and_mod D 8191 13 rfl (by omega)
  have m0 : 0 ≤ D % (2 ^ 13 : Nat) := by omega
  have m1 : D % (2 ^ 13 : Nat) < 8192 := by omega
  generalize D % (2 ^ 13 : Nat) = M at *
  obtain ⟨M, rfl⟩ := Int.eq_ofNat_of_zero_le m0
  have hn4 : n = 1 ∨ n = 2 ∨ n = 4 ∨ n = 8 := by omega
  have hn8 : n ≤ 8 := by omega
  have e1 : (8 + (M : Int)) / (n : Int) = (((8 + M) / n : Nat) : Int) := by simp
  obtain ⟨Q, hQ⟩ : ∃ Q, (8 + M) / n = Q := ⟨_, rfl⟩
  have q0 : Q ≤ 8199 := by rw [← hQ]; exact Nat.le_trans (Nat.div_le_self _ _) (by omega)
  rw [hQ] at e1
  obtain ⟨T, hT⟩ : ∃ T, Q * n = T := ⟨_, rfl⟩
  have t0 : T ≤ 8199 := by rw [← hT, ← hQ]; exact Nat.le_trans (Nat.div_mul_le_self _ _) (by omega)
  have t1 : T % n = 0 := by rw [← hT]; exact Nat.mul_mod_left _ _
  have t2 : (Q : Int) * (n : Int) = (T : Int) := by rw [← hT]; simp
  obtain ⟨P, hP⟩ : ∃ P, T % 8184 = P := ⟨_, rfl⟩
  have p0 : P < 8184 := by omega
  have p1 : P % n = 0 := by rcases hn4 with rfl | rfl | rfl | rfl <;> omega
  have k2 : RowKit.wrap64 (2 ^ K.toNat) = (n : Int) ∧ IntKind.i64.wrap (2 ^ K.toNat) = (n : Int) ∧ IntKind.u64.wrap K = K ∧ 0 ≤ K ∧ K < 64 := by
    rcases hn with ⟨rfl, rfl⟩ | ⟨rfl, rfl⟩ | ⟨rfl, rfl⟩ | ⟨rfl, rfl⟩ <;> decide +kernel
  obtain ⟨k21, k22, k23, k24, k25⟩ := k2
  have K21 := hide k21
  have K22 := hide k22
  have K23 := hide k23
  clear k21 k22 k23
  have u := fun x : Nat => (IntKind.wrap_u64 (x : Int))
  have i := fun x : Nat => (IntKind.wrap_i64 (x : Int))
  have n0 : (n : Int) ≠ 0 := by omega
  by_cases hs : P < 8
  · obtain ⟨B1, S1, B2, S2, B3, S3, c1, c2, c3, c4, c5, c6, c7⟩ := places v w n hn4 hn8 8 (by omega) (by omega) (by rcases hn4 with rfl | rfl | rfl | rfl <;> omega)
    by_cases h8 : n = 8
    · rw [whole_of v n h8] at c4
      exact walk_s8 w n D Z (v.toNat : Int) K M ((8 + M : Nat) : Int) Q T P ((8 + n : Nat) : Int) _ B1 B2 B3 _ S1 S2 S3 (made_two w) c1 c2 c3 c4 c5 c6 c7 hK k24 k25 K21.out K22.out K23.out hn8 n0 (by omega) (by rw [u]; omega) hM (by omega) (by rw [i]; omega) (by rw [u]; omega) (by rw [← e1]; rfl) (by rw [Int.tdiv_eq_ediv_of_nonneg (by omega)]; exact (by rw [← e1]; rfl)) (by rw [u]; omega) t2 (by rw [u]; omega) (by omega) (by rw [Int.tmod_eq_emod_of_nonneg (by omega)]; omega) (by omega) (by omega) (by rw [u]; omega) (by rw [u]; omega) (by omega)
    · obtain ⟨S8, G, H, s1, s2, s3, s4, s5, s6, s7⟩ := mask_of v n hn4 (by omega)
      exact walk_s w n D Z (v.toNat : Int) K M ((8 + M : Nat) : Int) Q T P ((8 + n : Nat) : Int) S8 G H _ _ B1 B2 B3 _ S1 S2 S3 (made_two w) c1 c2 c3 c4 c5 c6 c7 hK k24 k25 K21.out K22.out K23.out hn8 n0 (by omega) (by rw [u]; omega) hM (by omega) (by rw [i]; omega) (by rw [u]; omega) (by rw [← e1]; rfl) (by rw [Int.tdiv_eq_ediv_of_nonneg (by omega)]; exact (by rw [← e1]; rfl)) (by rw [u]; omega) t2 (by rw [u]; omega) (by omega) (by rw [Int.tmod_eq_emod_of_nonneg (by omega)]; omega) (by omega) (by omega) (by rw [u]; omega) (by rw [u]; omega) (by simp; omega) (by omega) s1 s2 s3 s4 s5 s6 s7
  · obtain ⟨B1, S1, B2, S2, B3, S3, c1, c2, c3, c4, c5, c6, c7⟩ := places v w n hn4 hn8 P (by omega) (by rcases hn4 with rfl | rfl | rfl | rfl <;> omega) p1
    by_cases h8 : n = 8
    · rw [whole_of v n h8] at c4
      exact walk_8 w n D Z (v.toNat : Int) K M ((8 + M : Nat) : Int) Q T P ((P - 1 : Nat) : Int) ((P + n : Nat) : Int) _ B1 B2 B3 _ S1 S2 S3 (made_two w) c1 c2 c3 c4 c5 c6 c7 hK k24 k25 K21.out K22.out K23.out hn8 n0 (by omega) (by rw [u]; omega) hM (by omega) (by rw [i]; omega) (by rw [u]; omega) (by rw [← e1]; rfl) (by rw [Int.tdiv_eq_ediv_of_nonneg (by omega)]; exact (by rw [← e1]; rfl)) (by rw [u]; omega) t2 (by rw [u]; omega) (by omega) (by rw [Int.tmod_eq_emod_of_nonneg (by omega)]; omega) (by omega) (by omega) (by rw [u]; omega) (by omega) (by rw [u]; omega) (by omega)
    · obtain ⟨S8, G, H, s1, s2, s3, s4, s5, s6, s7⟩ := mask_of v n hn4 (by omega)
      exact walk_n w n D Z (v.toNat : Int) K M ((8 + M : Nat) : Int) Q T P ((P - 1 : Nat) : Int) ((P + n : Nat) : Int) S8 G H _ _ B1 B2 B3 _ S1 S2 S3 (made_two w) c1 c2 c3 c4 c5 c6 c7 hK k24 k25 K21.out K22.out K23.out hn8 n0 (by omega) (by rw [u]; omega) hM (by omega) (by rw [i]; omega) (by rw [u]; omega) (by rw [← e1]; rfl) (by rw [Int.tdiv_eq_ediv_of_nonneg (by omega)]; exact (by rw [← e1]; rfl)) (by rw [u]; omega) t2 (by rw [u]; omega) (by omega) (by rw [Int.tmod_eq_emod_of_nonneg (by omega)]; omega) (by omega) (by omega) (by rw [u]; omega) (by omega) (by rw [u]; omega) (by simp; omega) (by omega) s1 s2 s3 s4 s5 s6 s7
theorem walk (D : Int) (v : BitVec 64) (Z : Int) (w : World) (_d0 : -9223372036854775808 ≤ D) (_d1 : D < 9223372036854775808) (_z0 : -9223372036854775808 ≤ Z) (_z1 : Z < 9223372036854775808) :
    Calls Try.prog 4 #[.int .i64 D, .int .u64 (v.toNat : Int), .int .i64 Z] w fun e w' => e = .returned (.bool true) ∧ Below w.heap.size w w' := by
  have hK := and_mod Z 3 2 rfl (by omega)
  have k0 : 0 ≤ Z % (2 ^ 2 : Nat) := by omega
  have k1 : Z % (2 ^ 2 : Nat) < 4 := by omega
  generalize Z % (2 ^ 2 : Nat) = K at *
  have : K = 0 ∨ K = 1 ∨ K = 2 ∨ K = 3 := by omega
  rcases this with rfl | rfl | rfl | rfl
  · exact walk_of D Z 0 v w 1 (by omega) hK
  · exact walk_of D Z 1 v w 2 (by omega) hK
  · exact walk_of D Z 2 v w 4 (by omega) hK
  · exact walk_of D Z 3 v w 8 (by omega) hK
open Go.ChangeShapes Go.WideShapes Go.ChangeAt
theorem walks : Frame.Walks 4 Try.f4 := by
  intro H enc W base args ds ps hval hA
  rw [Try.params4] at hA hval
  obtain ⟨v0, v1, v2, d0, d1, d2, p0, p1, p2, hargs, rfl, rfl, h0, h1, h2⟩ := trodAll_three hA
  obtain rfl : args = #[v0, v1, v2] := by cases args; simp_all
  obtain ⟨x0, rfl, rfl, rfl, w0⟩ := open_int Try.underlying3 (hval 0 3 v0 rfl rfl) h0
  obtain ⟨x1, rfl, rfl, rfl, w1⟩ := open_int Try.underlying22 (hval 1 22 v1 rfl rfl) h1
  obtain ⟨x2, rfl, rfl, rfl, w2⟩ := open_int Try.underlying3 (hval 2 3 v2 rfl rfl) h2
  obtain ⟨X1, rfl⟩ := Frame.wf_u64 w1
  exact walk x0 X1 x2 W (Frame.wf_i64 w0).1 (Frame.wf_i64 w0).2 (Frame.wf_i64 w2).1 (Frame.wf_i64 w2).2
set_option maxRecDepth 100000 in
theorem proved : Rows.RamNumbersSaid :=
  OpenClaim.holds_of_wide 4 Try.f4 rfl rfl rfl rfl rfl rfl rfl ⟨rfl, rfl, rfl, rfl, rfl⟩ rfl rfl rfl rfl rfl (by kernel_rfl) Try.func4 (by kernel_rfl)
    (of_decide_eq_true (by kernel_rfl)) (by unfold Func.isWrapper; first | (rw [if_pos (by decide +kernel)]; kernel_rfl) | (rw [if_neg (by decide +kernel)]; exact ⟨rfl, rfl⟩))
    (fun os started H enc _ => Frame.lift os started H enc _ _ Rows.ramNumbersSpec 4 (by kernel_rfl) Try.func4 Try.underlying4 (by kernel_rfl) rfl (by kernel_rfl)
      (fun ds h => by match ds, h with | [_, _, _], _ => exact ⟨rfl, rfl, rfl⟩)
      (ChangeSpec.witness6 (enc := enc) (C := Try.checked) false ⟨#[], #[.int .i64 0, .int .u64 0, .int .i64 0], []⟩ 8 (by kernel_rfl) (by kernel_rfl) (by kernel_rfl) (by kernel_rfl)) walks)
end Go.Proofs.Ytadhghnleidfpaa.RamNumbers
