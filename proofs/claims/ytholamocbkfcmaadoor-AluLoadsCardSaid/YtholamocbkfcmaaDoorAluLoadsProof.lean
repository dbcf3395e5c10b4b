/-
  AluLoads holds: for every number the law returns true and turns nothing that was there; the row's package variable (the widths) holds what the program's text lays.
-/
import Derived.Test.YtholamocbkfcmaaDoorAluLaw
import Derived.Test.YtholamocbkfcmaaDoorAluLaid
namespace Go.Proofs.YtholamocbkfcmaaDoor.AluLoads
open Go.RowKit Words FieldMath

theorem get_mask (v : BitVec 64) (n : Int) (h : 0 ≤ n ∧ n ≤ 64) : getB v 0 n = v &&& maskB n := by
  have h1 : okF 0 n = true := decide_eq_true (by omega)
  unfold getB
  rw [if_pos h1]
  simp
theorem sign_mask (v : BitVec 64) (n : Int) (h : 1 ≤ n ∧ n ≤ 64) : signB v n = (v &&& maskB n) ||| (if v.getLsbD (n - 1).toNat then ~~~(maskB n) else 0) := by
  refine ext64 fun i hi => ?_
  have h1 : numW n = true := decide_eq_true h
  have ez : (0 : BitVec 64).getLsbD i = false := by simp
  rw [sign_bit _ _ _ hi, h1, BitVec.getLsbD_or, BitVec.getLsbD_and, mask_bit, Bool.true_and, decide_eq_true hi, Bool.true_and]
  by_cases ht : v.getLsbD (n - 1).toNat = true
  · rw [if_pos ht, BitVec.getLsbD_not, mask_bit, decide_eq_true hi, Bool.true_and, Bool.true_and]
    by_cases h2 : (i : Int) < n
    · rw [if_pos h2, decide_eq_true h2, Bool.and_true, Bool.not_true, Bool.or_false]
    · rw [if_neg h2, decide_eq_false h2, Bool.and_false, Bool.not_false, Bool.or_true, ht]
  · have ht' : v.getLsbD (n - 1).toNat = false := by simpa using ht
    rw [if_neg ht, ez, Bool.or_false]
    by_cases h2 : (i : Int) < n
    · rw [if_pos h2, decide_eq_true h2, Bool.and_true]
    · rw [if_neg h2, decide_eq_false h2, Bool.and_false, ht']
theorem test_is (a : BitVec 64) (k : Nat) : (bits .and .u64 ((a.toNat : Int) / 2 ^ k) 1 == 1) = a.getLsbD k := by
  have h := and_bv (a >>> k) 1#64
  rw [← shr_bv] at h
  have e1 : ((1#64).toNat : Int) = 1 := rfl
  rw [e1] at h
  rw [h]
  have h2 : (a >>> k) &&& 1#64 = if a.getLsbD k then 1#64 else 0 := by
    refine ext64 fun i hi => ?_
    simp only [BitVec.getLsbD_and, BitVec.getLsbD_ushiftRight, BitVec.getLsbD_one]
    by_cases h0 : i = 0
    · subst h0; cases a.getLsbD k <;> simp_all
    · cases a.getLsbD k <;> simp [h0]
  rw [h2]
  cases a.getLsbD k <;> rfl
theorem or_zero (m : BitVec 64) : bits .or .u64 (m.toNat : Int) 0 = (m.toNat : Int) := by
  have h := or_bv m 0
  simpa using h

theorem round0 (v : BitVec 64) : ∃ (S Q : BitVec 64) (t : Bool), (∀ W, Tab W → Calls Tryd.prog 11 #[.int .i64 11, .int .u64 (v.toNat : Int)] W (Makes (.int .u64 ((S).toNat : Int)) W)) ∧ (∀ W, Tab W → Calls Tryd.prog 11 #[.int .i64 15, .int .u64 (v.toNat : Int)] W (Makes (.int .u64 ((Q).toNat : Int)) W)) ∧ bits .and .u64 (v.toNat : Int) 255 = (Q.toNat : Int) ∧ (bits .and .u64 ((v.toNat : Int) / 128) 1 == 1) = t ∧
    (t = false → S = Q) ∧ (t = true → bits .or .u64 (Q.toNat : Int) 18446744073709551360 = (S.toNat : Int)) := by
  have hm : maskB 8 = 255#64 := by decide
  have hq := get_mask v 8 (by decide)
  have hs := sign_mask v 8 (by decide)
  rw [hm] at hq hs
  refine ⟨signB v 8, getB v 0 8, v.getLsbD 7, fun W h => extend_11 v W h, fun W h => extend_15 v W h, ?_, ?_, ?_, ?_⟩
  · rw [hq]; exact and_bv v 255#64
  · exact test_is v 7
  · intro ht
    rw [hs, hq]
    rw [show ((8 : Int) - 1).toNat = 7 from rfl, ht]
    simp
  · intro ht
    rw [hs, hq]
    rw [show ((8 : Int) - 1).toNat = 7 from rfl, ht]
    exact or_bv (v &&& 255#64) (~~~255#64)

theorem round1 (v : BitVec 64) : ∃ (S Q : BitVec 64) (t : Bool), (∀ W, Tab W → Calls Tryd.prog 11 #[.int .i64 12, .int .u64 (v.toNat : Int)] W (Makes (.int .u64 ((S).toNat : Int)) W)) ∧ (∀ W, Tab W → Calls Tryd.prog 11 #[.int .i64 16, .int .u64 (v.toNat : Int)] W (Makes (.int .u64 ((Q).toNat : Int)) W)) ∧ bits .and .u64 (v.toNat : Int) 65535 = (Q.toNat : Int) ∧ (bits .and .u64 ((v.toNat : Int) / 32768) 1 == 1) = t ∧
    (t = false → S = Q) ∧ (t = true → bits .or .u64 (Q.toNat : Int) 18446744073709486080 = (S.toNat : Int)) := by
  have hm : maskB 16 = 65535#64 := by decide
  have hq := get_mask v 16 (by decide)
  have hs := sign_mask v 16 (by decide)
  rw [hm] at hq hs
  refine ⟨signB v 16, getB v 0 16, v.getLsbD 15, fun W h => extend_12 v W h, fun W h => extend_16 v W h, ?_, ?_, ?_, ?_⟩
  · rw [hq]; exact and_bv v 65535#64
  · exact test_is v 15
  · intro ht
    rw [hs, hq]
    rw [show ((16 : Int) - 1).toNat = 15 from rfl, ht]
    simp
  · intro ht
    rw [hs, hq]
    rw [show ((16 : Int) - 1).toNat = 15 from rfl, ht]
    exact or_bv (v &&& 65535#64) (~~~65535#64)

theorem round2 (v : BitVec 64) : ∃ (S Q : BitVec 64) (t : Bool), (∀ W, Tab W → Calls Tryd.prog 11 #[.int .i64 13, .int .u64 (v.toNat : Int)] W (Makes (.int .u64 ((S).toNat : Int)) W)) ∧ (∀ W, Tab W → Calls Tryd.prog 11 #[.int .i64 17, .int .u64 (v.toNat : Int)] W (Makes (.int .u64 ((Q).toNat : Int)) W)) ∧ bits .and .u64 (v.toNat : Int) 4294967295 = (Q.toNat : Int) ∧ (bits .and .u64 ((v.toNat : Int) / 2147483648) 1 == 1) = t ∧
    (t = false → S = Q) ∧ (t = true → bits .or .u64 (Q.toNat : Int) 18446744069414584320 = (S.toNat : Int)) := by
  have hm : maskB 32 = 4294967295#64 := by decide
  have hq := get_mask v 32 (by decide)
  have hs := sign_mask v 32 (by decide)
  rw [hm] at hq hs
  refine ⟨signB v 32, getB v 0 32, v.getLsbD 31, fun W h => extend_13 v W h, fun W h => extend_17 v W h, ?_, ?_, ?_, ?_⟩
  · rw [hq]; exact and_bv v 4294967295#64
  · exact test_is v 31
  · intro ht
    rw [hs, hq]
    rw [show ((32 : Int) - 1).toNat = 31 from rfl, ht]
    simp
  · intro ht
    rw [hs, hq]
    rw [show ((32 : Int) - 1).toNat = 31 from rfl, ht]
    exact or_bv (v &&& 4294967295#64) (~~~4294967295#64)

set_option maxRecDepth 100000 in
set_option maxHeartbeats 8000000 in
theorem walk (v : BitVec 64) (w : World) (hT : Tab w) : Calls Tryd.prog 4 #[.int .u64 (v.toNat : Int)] w (Makes (.bool true) w) := by
  have HT := hide hT
  clear hT
  go_enter Tryd.func4, Tryd.ntmps4
  go_wp2
  go_loopw [3] (fun i wr => ∃ k : Nat, k ≤ 3 ∧ i = .int .i64 k ∧ Tab wr ∧ Below w.heap.size w wr) (fun i _ => 3 - (intOf i).toNat)
  case atStart => exact ⟨0, by omega, rfl, HT.out, Below.refl _ _⟩
  case round =>
    obtain ⟨k, hk, rfl, hTr, hbel⟩ := hrel
    obtain rfl | rfl | rfl | rfl : k = 0 ∨ k = 1 ∨ k = 2 ∨ k = 3 := by omega
    · obtain ⟨S, Q, t, c1, c2, h1, h2, h3, h4⟩ := round0 v
      have c3 : ∀ W, Tab W → Calls Tryd.prog 9 #[.int .i64 11] W (Makes (.int .i64 1) W) := fun W h => width_in 11 (by decide) W h
      have c4 : ∀ W, Tab W → Calls Tryd.prog 9 #[.int .i64 15] W (Makes (.int .i64 1) W) := fun W h => width_in 15 (by decide) W h
      have c5 : ∀ W, Tab W → Calls Tryd.prog 9 #[.int .i64 18] W (Makes (.int .i64 1) W) := fun W h => width_in 18 (by decide) W h
      have C1 := hide c1
      have C2 := hide c2
      have C3 := hide c3
      have C4 := hide c4
      have C5 := hide c5
      clear c1 c2 c3 c4 c5
      cases t
      · obtain rfl := h3 rfl
        clear h3 h4
        have hz := or_zero S
        go_wp2_with (first | (go_at_call 9; (with_reducible first | refine (C3.out _ ?_).mono ?_ | refine (C4.out _ ?_).mono ?_ | refine (C5.out _ ?_).mono ?_); (refine hTr.behind ?_; repeat (first | with_reducible assumption | with_reducible exact Below.refl _ _ | with_reducible refine Below.drew ?_ | with_reducible refine below_drewN ?_ _ | with_reducible refine bw_alloc ?_ _ | (with_reducible refine bw_set ?_ ?_ _; focus (dsimp only; omega)) | (with_reducible apply bw_behind; with_reducible assumption))); rintro e w1 ⟨rfl, hb1⟩) | (go_at_call 11; (with_reducible first | refine (C1.out _ ?_).mono ?_ | refine (C2.out _ ?_).mono ?_); (refine hTr.behind ?_; repeat (first | with_reducible assumption | with_reducible exact Below.refl _ _ | with_reducible refine Below.drew ?_ | with_reducible refine below_drewN ?_ _ | with_reducible refine bw_alloc ?_ _ | (with_reducible refine bw_set ?_ ?_ _; focus (dsimp only; omega)) | (with_reducible apply bw_behind; with_reducible assumption))); rintro e w2 ⟨rfl, hb2⟩))
        go_roundw
        case rel => exact ⟨1, by omega, by go_num, by first | (refine hTr.behind ?_; repeat (first | with_reducible assumption | with_reducible exact Below.refl _ _ | with_reducible refine Below.drew ?_ | with_reducible refine below_drewN ?_ _ | with_reducible refine bw_alloc ?_ _ | (with_reducible refine bw_set ?_ ?_ _; focus (dsimp only; omega)) | (with_reducible apply bw_behind; with_reducible assumption))), by repeat (first | with_reducible assumption | with_reducible exact Below.refl _ _ | with_reducible refine Below.drew ?_ | with_reducible refine below_drewN ?_ _ | with_reducible refine bw_alloc ?_ _ | (with_reducible refine bw_set ?_ ?_ _; focus (dsimp only; omega)) | (with_reducible apply bw_behind; with_reducible assumption))⟩
        case measure => simp [intOf]
      · replace h4 := h4 rfl
        clear h3
        have hsg : IntKind.u64.signed = false := rfl
        have hx : bits .xor .u64 IntKind.u64.max 255 = 18446744073709551360 := by decide +kernel
        go_wp2_with (first | (go_at_call 9; (with_reducible first | refine (C3.out _ ?_).mono ?_ | refine (C4.out _ ?_).mono ?_ | refine (C5.out _ ?_).mono ?_); (refine hTr.behind ?_; repeat (first | with_reducible assumption | with_reducible exact Below.refl _ _ | with_reducible refine Below.drew ?_ | with_reducible refine below_drewN ?_ _ | with_reducible refine bw_alloc ?_ _ | (with_reducible refine bw_set ?_ ?_ _; focus (dsimp only; omega)) | (with_reducible apply bw_behind; with_reducible assumption))); rintro e w1 ⟨rfl, hb1⟩) | (go_at_call 11; (with_reducible first | refine (C1.out _ ?_).mono ?_ | refine (C2.out _ ?_).mono ?_); (refine hTr.behind ?_; repeat (first | with_reducible assumption | with_reducible exact Below.refl _ _ | with_reducible refine Below.drew ?_ | with_reducible refine below_drewN ?_ _ | with_reducible refine bw_alloc ?_ _ | (with_reducible refine bw_set ?_ ?_ _; focus (dsimp only; omega)) | (with_reducible apply bw_behind; with_reducible assumption))); rintro e w2 ⟨rfl, hb2⟩))
        go_roundw
        case rel => exact ⟨1, by omega, by go_num, by first | (refine hTr.behind ?_; repeat (first | with_reducible assumption | with_reducible exact Below.refl _ _ | with_reducible refine Below.drew ?_ | with_reducible refine below_drewN ?_ _ | with_reducible refine bw_alloc ?_ _ | (with_reducible refine bw_set ?_ ?_ _; focus (dsimp only; omega)) | (with_reducible apply bw_behind; with_reducible assumption))), by repeat (first | with_reducible assumption | with_reducible exact Below.refl _ _ | with_reducible refine Below.drew ?_ | with_reducible refine below_drewN ?_ _ | with_reducible refine bw_alloc ?_ _ | (with_reducible refine bw_set ?_ ?_ _; focus (dsimp only; omega)) | (with_reducible apply bw_behind; with_reducible assumption))⟩
        case measure => simp [intOf]
    · obtain ⟨S, Q, t, c1, c2, h1, h2, h3, h4⟩ := round1 v
      have c3 : ∀ W, Tab W → Calls Tryd.prog 9 #[.int .i64 12] W (Makes (.int .i64 2) W) := fun W h => width_in 12 (by decide) W h
      have c4 : ∀ W, Tab W → Calls Tryd.prog 9 #[.int .i64 16] W (Makes (.int .i64 2) W) := fun W h => width_in 16 (by decide) W h
      have c5 : ∀ W, Tab W → Calls Tryd.prog 9 #[.int .i64 19] W (Makes (.int .i64 2) W) := fun W h => width_in 19 (by decide) W h
      have C1 := hide c1
      have C2 := hide c2
      have C3 := hide c3
      have C4 := hide c4
      have C5 := hide c5
      clear c1 c2 c3 c4 c5
      cases t
      · obtain rfl := h3 rfl
        clear h3 h4
        have hz := or_zero S
        go_wp2_with (first | (go_at_call 9; (with_reducible first | refine (C3.out _ ?_).mono ?_ | refine (C4.out _ ?_).mono ?_ | refine (C5.out _ ?_).mono ?_); (refine hTr.behind ?_; repeat (first | with_reducible assumption | with_reducible exact Below.refl _ _ | with_reducible refine Below.drew ?_ | with_reducible refine below_drewN ?_ _ | with_reducible refine bw_alloc ?_ _ | (with_reducible refine bw_set ?_ ?_ _; focus (dsimp only; omega)) | (with_reducible apply bw_behind; with_reducible assumption))); rintro e w1 ⟨rfl, hb1⟩) | (go_at_call 11; (with_reducible first | refine (C1.out _ ?_).mono ?_ | refine (C2.out _ ?_).mono ?_); (refine hTr.behind ?_; repeat (first | with_reducible assumption | with_reducible exact Below.refl _ _ | with_reducible refine Below.drew ?_ | with_reducible refine below_drewN ?_ _ | with_reducible refine bw_alloc ?_ _ | (with_reducible refine bw_set ?_ ?_ _; focus (dsimp only; omega)) | (with_reducible apply bw_behind; with_reducible assumption))); rintro e w2 ⟨rfl, hb2⟩))
        go_roundw
        case rel => exact ⟨2, by omega, by go_num, by first | (refine hTr.behind ?_; repeat (first | with_reducible assumption | with_reducible exact Below.refl _ _ | with_reducible refine Below.drew ?_ | with_reducible refine below_drewN ?_ _ | with_reducible refine bw_alloc ?_ _ | (with_reducible refine bw_set ?_ ?_ _; focus (dsimp only; omega)) | (with_reducible apply bw_behind; with_reducible assumption))), by repeat (first | with_reducible assumption | with_reducible exact Below.refl _ _ | with_reducible refine Below.drew ?_ | with_reducible refine below_drewN ?_ _ | with_reducible refine bw_alloc ?_ _ | (with_reducible refine bw_set ?_ ?_ _; focus (dsimp only; omega)) | (with_reducible apply bw_behind; with_reducible assumption))⟩
        case measure => simp [intOf]
      · replace h4 := h4 rfl
        clear h3
        have hsg : IntKind.u64.signed = false := rfl
        have hx : bits .xor .u64 IntKind.u64.max 65535 = 18446744073709486080 := by decide +kernel
        go_wp2_with (first | (go_at_call 9; (with_reducible first | refine (C3.out _ ?_).mono ?_ | refine (C4.out _ ?_).mono ?_ | refine (C5.out _ ?_).mono ?_); (refine hTr.behind ?_; repeat (first | with_reducible assumption | with_reducible exact Below.refl _ _ | with_reducible refine Below.drew ?_ | with_reducible refine below_drewN ?_ _ | with_reducible refine bw_alloc ?_ _ | (with_reducible refine bw_set ?_ ?_ _; focus (dsimp only; omega)) | (with_reducible apply bw_behind; with_reducible assumption))); rintro e w1 ⟨rfl, hb1⟩) | (go_at_call 11; (with_reducible first | refine (C1.out _ ?_).mono ?_ | refine (C2.out _ ?_).mono ?_); (refine hTr.behind ?_; repeat (first | with_reducible assumption | with_reducible exact Below.refl _ _ | with_reducible refine Below.drew ?_ | with_reducible refine below_drewN ?_ _ | with_reducible refine bw_alloc ?_ _ | (with_reducible refine bw_set ?_ ?_ _; focus (dsimp only; omega)) | (with_reducible apply bw_behind; with_reducible assumption))); rintro e w2 ⟨rfl, hb2⟩))
        go_roundw
        case rel => exact ⟨2, by omega, by go_num, by first | (refine hTr.behind ?_; repeat (first | with_reducible assumption | with_reducible exact Below.refl _ _ | with_reducible refine Below.drew ?_ | with_reducible refine below_drewN ?_ _ | with_reducible refine bw_alloc ?_ _ | (with_reducible refine bw_set ?_ ?_ _; focus (dsimp only; omega)) | (with_reducible apply bw_behind; with_reducible assumption))), by repeat (first | with_reducible assumption | with_reducible exact Below.refl _ _ | with_reducible refine Below.drew ?_ | with_reducible refine below_drewN ?_ _ | with_reducible refine bw_alloc ?_ _ | (with_reducible refine bw_set ?_ ?_ _; focus (dsimp only; omega)) | (with_reducible apply bw_behind; with_reducible assumption))⟩
        case measure => simp [intOf]
    · obtain ⟨S, Q, t, c1, c2, h1, h2, h3, h4⟩ := round2 v
      have c3 : ∀ W, Tab W → Calls Tryd.prog 9 #[.int .i64 13] W (Makes (.int .i64 4) W) := fun W h => width_in 13 (by decide) W h
      have c4 : ∀ W, Tab W → Calls Tryd.prog 9 #[.int .i64 17] W (Makes (.int .i64 4) W) := fun W h => width_in 17 (by decide) W h
      have c5 : ∀ W, Tab W → Calls Tryd.prog 9 #[.int .i64 20] W (Makes (.int .i64 4) W) := fun W h => width_in 20 (by decide) W h
      have C1 := hide c1
      have C2 := hide c2
      have C3 := hide c3
      have C4 := hide c4
      have C5 := hide c5
      clear c1 c2 c3 c4 c5
      cases t
      · obtain rfl := h3 rfl
        clear h3 h4
        have hz := or_zero S
        go_wp2_with (first | (go_at_call 9; (with_reducible first | refine (C3.out _ ?_).mono ?_ | refine (C4.out _ ?_).mono ?_ | refine (C5.out _ ?_).mono ?_); (refine hTr.behind ?_; repeat (first | with_reducible assumption | with_reducible exact Below.refl _ _ | with_reducible refine Below.drew ?_ | with_reducible refine below_drewN ?_ _ | with_reducible refine bw_alloc ?_ _ | (with_reducible refine bw_set ?_ ?_ _; focus (dsimp only; omega)) | (with_reducible apply bw_behind; with_reducible assumption))); rintro e w1 ⟨rfl, hb1⟩) | (go_at_call 11; (with_reducible first | refine (C1.out _ ?_).mono ?_ | refine (C2.out _ ?_).mono ?_); (refine hTr.behind ?_; repeat (first | with_reducible assumption | with_reducible exact Below.refl _ _ | with_reducible refine Below.drew ?_ | with_reducible refine below_drewN ?_ _ | with_reducible refine bw_alloc ?_ _ | (with_reducible refine bw_set ?_ ?_ _; focus (dsimp only; omega)) | (with_reducible apply bw_behind; with_reducible assumption))); rintro e w2 ⟨rfl, hb2⟩))
        go_roundw
        case rel => exact ⟨3, by omega, by go_num, by first | (refine hTr.behind ?_; repeat (first | with_reducible assumption | with_reducible exact Below.refl _ _ | with_reducible refine Below.drew ?_ | with_reducible refine below_drewN ?_ _ | with_reducible refine bw_alloc ?_ _ | (with_reducible refine bw_set ?_ ?_ _; focus (dsimp only; omega)) | (with_reducible apply bw_behind; with_reducible assumption))), by repeat (first | with_reducible assumption | with_reducible exact Below.refl _ _ | with_reducible refine Below.drew ?_ | with_reducible refine below_drewN ?_ _ | with_reducible refine bw_alloc ?_ _ | (with_reducible refine bw_set ?_ ?_ _; focus (dsimp only; omega)) | (with_reducible apply bw_behind; with_reducible assumption))⟩
        case measure => simp [intOf]
      · replace h4 := h4 rfl
        clear h3
        have hsg : IntKind.u64.signed = false := rfl
        have hx : bits .xor .u64 IntKind.u64.max 4294967295 = 18446744069414584320 := by decide +kernel
        go_wp2_with (first | (go_at_call 9; (with_reducible first | refine (C3.out _ ?_).mono ?_ | refine (C4.out _ ?_).mono ?_ | refine (C5.out _ ?_).mono ?_); (refine hTr.behind ?_; repeat (first | with_reducible assumption | with_reducible exact Below.refl _ _ | with_reducible refine Below.drew ?_ | with_reducible refine below_drewN ?_ _ | with_reducible refine bw_alloc ?_ _ | (with_reducible refine bw_set ?_ ?_ _; focus (dsimp only; omega)) | (with_reducible apply bw_behind; with_reducible assumption))); rintro e w1 ⟨rfl, hb1⟩) | (go_at_call 11; (with_reducible first | refine (C1.out _ ?_).mono ?_ | refine (C2.out _ ?_).mono ?_); (refine hTr.behind ?_; repeat (first | with_reducible assumption | with_reducible exact Below.refl _ _ | with_reducible refine Below.drew ?_ | with_reducible refine below_drewN ?_ _ | with_reducible refine bw_alloc ?_ _ | (with_reducible refine bw_set ?_ ?_ _; focus (dsimp only; omega)) | (with_reducible apply bw_behind; with_reducible assumption))); rintro e w2 ⟨rfl, hb2⟩))
        go_roundw
        case rel => exact ⟨3, by omega, by go_num, by first | (refine hTr.behind ?_; repeat (first | with_reducible assumption | with_reducible exact Below.refl _ _ | with_reducible refine Below.drew ?_ | with_reducible refine below_drewN ?_ _ | with_reducible refine bw_alloc ?_ _ | (with_reducible refine bw_set ?_ ?_ _; focus (dsimp only; omega)) | (with_reducible apply bw_behind; with_reducible assumption))), by repeat (first | with_reducible assumption | with_reducible exact Below.refl _ _ | with_reducible refine Below.drew ?_ | with_reducible refine below_drewN ?_ _ | with_reducible refine bw_alloc ?_ _ | (with_reducible refine bw_set ?_ ?_ _; focus (dsimp only; omega)) | (with_reducible apply bw_behind; with_reducible assumption))⟩
        case measure => simp [intOf]
    · have c1 : ∀ W, Tab W → Calls Tryd.prog 9 #[.int .i64 14] W (Makes (.int .i64 8) W) := fun W h => width_in 14 (by decide) W h
      have c2 : ∀ W, Tab W → Calls Tryd.prog 11 #[.int .i64 14, .int .u64 (v.toNat : Int)] W (Makes (.int .u64 ((v).toNat : Int)) W) := fun W h => extend_14 v W h
      have c3 := one_any
      have C1 := hide c1
      have C2 := hide c2
      have C3 := hide c3
      clear c1 c2 c3
      go_wp2_with (first | (go_at_call 9; (with_reducible first | refine (C1.out _ ?_).mono ?_); (refine hTr.behind ?_; repeat (first | with_reducible assumption | with_reducible exact Below.refl _ _ | with_reducible refine Below.drew ?_ | with_reducible refine below_drewN ?_ _ | with_reducible refine bw_alloc ?_ _ | (with_reducible refine bw_set ?_ ?_ _; focus (dsimp only; omega)) | (with_reducible apply bw_behind; with_reducible assumption))); rintro e w1 ⟨rfl, hb1⟩) | (go_at_call 11; (with_reducible first | refine (C2.out _ ?_).mono ?_); (refine hTr.behind ?_; repeat (first | with_reducible assumption | with_reducible exact Below.refl _ _ | with_reducible refine Below.drew ?_ | with_reducible refine below_drewN ?_ _ | with_reducible refine bw_alloc ?_ _ | (with_reducible refine bw_set ?_ ?_ _; focus (dsimp only; omega)) | (with_reducible apply bw_behind; with_reducible assumption))); rintro e w2 ⟨rfl, hb2⟩) | (go_at_call 17; (with_reducible first | refine (C3.out _).mono ?_); rintro e w3 ⟨rfl, hb3⟩))
      refine bodyPost_ret (v := .bool true) (by simp (maxDischargeDepth := 4) [results, Tryd.results4, go_sem, *]) rfl ?_
      refine ⟨rfl, ?_⟩
      repeat (first | with_reducible assumption | with_reducible exact Below.refl _ _ | with_reducible refine Below.drew ?_ | with_reducible refine below_drewN ?_ _ | with_reducible refine bw_alloc ?_ _ | (with_reducible refine bw_set ?_ ?_ _; focus (dsimp only; omega)) | (with_reducible apply bw_behind; with_reducible assumption))
open Go.ChangeShapes Go.WideShapes Go.ChangeAt
set_option maxRecDepth 100000 in
theorem walks : Frame.WalksLaid [("mintmark/alu.widths", Rows.laid_mintmark_alu_widths)] 4 Tryd.f4 := by
  intro H enc W base args ds ps hL hval hA
  rw [Tryd.params4] at hA hval
  obtain ⟨v0, d0, hargs, rfl, h0⟩ := trodAll_one hA
  obtain rfl : args = #[v0] := by cases args; simp_all
  obtain ⟨x0, rfl, rfl, rfl, w0⟩ := open_int Tryd.underlying22 (hval 0 22 v0 rfl rfl) h0
  obtain ⟨X0, rfl⟩ := Frame.wf_u64 w0
  exact walk X0 W (tab_of_laid hL)
set_option maxRecDepth 100000 in
theorem said : Rows.AluLoadsSaid :=
  OpenClaim.holds_of_wide 4 Tryd.f4 rfl rfl rfl rfl rfl rfl rfl ⟨rfl, rfl, rfl, rfl, rfl⟩ rfl rfl rfl rfl rfl (by kernel_rfl) Tryd.func4 (by kernel_rfl)
    (of_decide_eq_true (by kernel_rfl)) (by unfold Func.isWrapper; first | (rw [if_pos (by decide +kernel)]; kernel_rfl) | (rw [if_neg (by decide +kernel)]; exact ⟨rfl, rfl⟩))
    (fun os started H enc _ => Frame.liftLaid [("mintmark/alu.widths", Rows.laid_mintmark_alu_widths)] os started H enc _ _ Rows.aluLoadsSpec 4 (by kernel_rfl) Tryd.func4 Tryd.underlying4 (by kernel_rfl) rfl (by kernel_rfl)
      (fun ds h => by match ds, h with | [_], _ => exact ⟨rfl, rfl, rfl⟩)
      (ChangeSpec.witness_shaped (enc := enc) (C := Tryd.checked) (os := os) (X := fun w _ => laidMetH Tryd.prog [("mintmark/alu.widths", Rows.laid_mintmark_alu_widths)] w) false (World.doorLaid Tryd.prog 400 os) #[.int .u64 0] 8 rfl (World.shaped_of_RefB (by kernel_rfl) (by kernel_rfl)) (by kernel_rfl) (by kernel_rfl) (by kernel_rfl) (door_met os _)) walks)
set_option maxRecDepth 100000 in
theorem proved : Rows.AluLoadsCardSaid :=
  Claim7.holds_tied_plain_at .later [] [.data] true _ false said (fun _ h => by cases h) (by kernel_rfl) (fun _ h => by cases h) aluLoads_row_tie rfl ⟨rfl, rfl⟩ (by kernel_rfl) rfl
    (fun f fn hf hfn => by
      obtain rfl : f = 4 := Option.some.inj ((show Tryd.prog.funcNamed "mintmark/mintmarklaw15.AluLoads" = some 4 by kernel_rfl).symm.trans hf) |>.symm
      obtain rfl : fn = Tryd.f4 := (Option.some.inj (Tryd.func4.symm.trans hfn)).symm
      exact ⟨by kernel_rfl, fun j t ht => by
        rw [Tryd.params4] at ht
        have hm : t ∈ [22] := by have := Array.mem_of_getElem? ht; simp at this; simp; first | omega | grind
        have hall : ([22].all fun u => !Tryd.prog.wantsStandIn u) = true := by kernel_rfl
        exact (show Tryd.prog.wantsStandIn t = false by simpa using List.all_eq_true.1 hall t hm)⟩)
    (by kernel_rfl)
end Go.Proofs.YtholamocbkfcmaaDoor.AluLoads
