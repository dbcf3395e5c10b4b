/-
  What the document's bit, has, Word and Of answer.
-/
import Derived.Test.YtkajndonefkegaaDoorPteRef
import Derived.Test.YtkajndonefkegaaDoorGPte
import Derived.Test.YtkajndonefkegaaDoorGBase
set_option maxRecDepth 100000
set_option maxHeartbeats 64000000
namespace Go.Proofs.YtkajndonefkegaaDoor
open Go.RowKit Words FieldMath PteMath

theorem bit_0 (b : Bool) (w : World) : Calls Tryd.prog 49 #[.bool b, .int .u64 0] w (Quiet (.int .u64 ((bitN b 0 : Nat) : Int)) w) := by
  cases b
  all_goals
    go_enter Tryd.func49, Tryd.ntmps49
    go_wp2
    go_ret
    exact ⟨ret_int (by decide), 0, rfl⟩

theorem bit_1 (b : Bool) (w : World) : Calls Tryd.prog 49 #[.bool b, .int .u64 1] w (Quiet (.int .u64 ((bitN b 1 : Nat) : Int)) w) := by
  cases b
  all_goals
    go_enter Tryd.func49, Tryd.ntmps49
    go_wp2
    go_ret
    exact ⟨ret_int (by decide), 0, rfl⟩

theorem bit_2 (b : Bool) (w : World) : Calls Tryd.prog 49 #[.bool b, .int .u64 2] w (Quiet (.int .u64 ((bitN b 2 : Nat) : Int)) w) := by
  cases b
  all_goals
    go_enter Tryd.func49, Tryd.ntmps49
    go_wp2
    go_ret
    exact ⟨ret_int (by decide), 0, rfl⟩

theorem bit_3 (b : Bool) (w : World) : Calls Tryd.prog 49 #[.bool b, .int .u64 3] w (Quiet (.int .u64 ((bitN b 3 : Nat) : Int)) w) := by
  cases b
  all_goals
    go_enter Tryd.func49, Tryd.ntmps49
    go_wp2
    go_ret
    exact ⟨ret_int (by decide), 0, rfl⟩

theorem bit_4 (b : Bool) (w : World) : Calls Tryd.prog 49 #[.bool b, .int .u64 4] w (Quiet (.int .u64 ((bitN b 4 : Nat) : Int)) w) := by
  cases b
  all_goals
    go_enter Tryd.func49, Tryd.ntmps49
    go_wp2
    go_ret
    exact ⟨ret_int (by decide), 0, rfl⟩

theorem bit_5 (b : Bool) (w : World) : Calls Tryd.prog 49 #[.bool b, .int .u64 5] w (Quiet (.int .u64 ((bitN b 5 : Nat) : Int)) w) := by
  cases b
  all_goals
    go_enter Tryd.func49, Tryd.ntmps49
    go_wp2
    go_ret
    exact ⟨ret_int (by decide), 0, rfl⟩

theorem bit_6 (b : Bool) (w : World) : Calls Tryd.prog 49 #[.bool b, .int .u64 6] w (Quiet (.int .u64 ((bitN b 6 : Nat) : Int)) w) := by
  cases b
  all_goals
    go_enter Tryd.func49, Tryd.ntmps49
    go_wp2
    go_ret
    exact ⟨ret_int (by decide), 0, rfl⟩

theorem bit_7 (b : Bool) (w : World) : Calls Tryd.prog 49 #[.bool b, .int .u64 7] w (Quiet (.int .u64 ((bitN b 7 : Nat) : Int)) w) := by
  cases b
  all_goals
    go_enter Tryd.func49, Tryd.ntmps49
    go_wp2
    go_ret
    exact ⟨ret_int (by decide), 0, rfl⟩

theorem bit_58 (b : Bool) (w : World) : Calls Tryd.prog 49 #[.bool b, .int .u64 58] w (Quiet (.int .u64 ((bitN b 58 : Nat) : Int)) w) := by
  cases b
  all_goals
    go_enter Tryd.func49, Tryd.ntmps49
    go_wp2
    go_ret
    exact ⟨ret_int (by decide), 0, rfl⟩

theorem bit_59 (b : Bool) (w : World) : Calls Tryd.prog 49 #[.bool b, .int .u64 59] w (Quiet (.int .u64 ((bitN b 59 : Nat) : Int)) w) := by
  cases b
  all_goals
    go_enter Tryd.func49, Tryd.ntmps49
    go_wp2
    go_ret
    exact ⟨ret_int (by decide), 0, rfl⟩

theorem bit_60 (b : Bool) (w : World) : Calls Tryd.prog 49 #[.bool b, .int .u64 60] w (Quiet (.int .u64 ((bitN b 60 : Nat) : Int)) w) := by
  cases b
  all_goals
    go_enter Tryd.func49, Tryd.ntmps49
    go_wp2
    go_ret
    exact ⟨ret_int (by decide), 0, rfl⟩

theorem bit_61 (b : Bool) (w : World) : Calls Tryd.prog 49 #[.bool b, .int .u64 61] w (Quiet (.int .u64 ((bitN b 61 : Nat) : Int)) w) := by
  cases b
  all_goals
    go_enter Tryd.func49, Tryd.ntmps49
    go_wp2
    go_ret
    exact ⟨ret_int (by decide), 0, rfl⟩

theorem bit_at (x : BitVec 64) (k : Nat) : (((x.toNat : Int) / ((2 ^ k : Nat) : Int)).tmod 2 == 1) = x.getLsbD k := by
  rw [Int.tmod_eq_emod_of_nonneg (Int.ediv_nonneg (by omega) (Int.natCast_nonneg _)), BitVec.getLsbD, Nat.testBit_eq_decide_div_mod_eq, Bool.eq_iff_iff, beq_iff_eq, decide_eq_true_eq]
  norm_cast

theorem has_0 (x : BitVec 64) (w : World) : Calls Tryd.prog 85 #[.int .u64 (x.toNat : Int), .int .u64 0] w (Quiet (.bool (x.getLsbD 0)) w) := by
  have hb := bit_at x 0
  have HB := hide hb
  clear hb
  generalize (x.toNat : Int) = X at *
  go_enter Tryd.func85, Tryd.ntmps85
  go_wp2
  go_ret
  exact ⟨ret_bool (by have := HB.out; simpa using this), 0, rfl⟩

theorem has_1 (x : BitVec 64) (w : World) : Calls Tryd.prog 85 #[.int .u64 (x.toNat : Int), .int .u64 1] w (Quiet (.bool (x.getLsbD 1)) w) := by
  have hb := bit_at x 1
  have HB := hide hb
  clear hb
  generalize (x.toNat : Int) = X at *
  go_enter Tryd.func85, Tryd.ntmps85
  go_wp2
  go_ret
  exact ⟨ret_bool (HB.out), 0, rfl⟩

theorem has_2 (x : BitVec 64) (w : World) : Calls Tryd.prog 85 #[.int .u64 (x.toNat : Int), .int .u64 2] w (Quiet (.bool (x.getLsbD 2)) w) := by
  have hb := bit_at x 2
  have HB := hide hb
  clear hb
  generalize (x.toNat : Int) = X at *
  go_enter Tryd.func85, Tryd.ntmps85
  go_wp2
  go_ret
  exact ⟨ret_bool (HB.out), 0, rfl⟩

theorem has_3 (x : BitVec 64) (w : World) : Calls Tryd.prog 85 #[.int .u64 (x.toNat : Int), .int .u64 3] w (Quiet (.bool (x.getLsbD 3)) w) := by
  have hb := bit_at x 3
  have HB := hide hb
  clear hb
  generalize (x.toNat : Int) = X at *
  go_enter Tryd.func85, Tryd.ntmps85
  go_wp2
  go_ret
  exact ⟨ret_bool (HB.out), 0, rfl⟩

theorem has_4 (x : BitVec 64) (w : World) : Calls Tryd.prog 85 #[.int .u64 (x.toNat : Int), .int .u64 4] w (Quiet (.bool (x.getLsbD 4)) w) := by
  have hb := bit_at x 4
  have HB := hide hb
  clear hb
  generalize (x.toNat : Int) = X at *
  go_enter Tryd.func85, Tryd.ntmps85
  go_wp2
  go_ret
  exact ⟨ret_bool (HB.out), 0, rfl⟩

theorem has_5 (x : BitVec 64) (w : World) : Calls Tryd.prog 85 #[.int .u64 (x.toNat : Int), .int .u64 5] w (Quiet (.bool (x.getLsbD 5)) w) := by
  have hb := bit_at x 5
  have HB := hide hb
  clear hb
  generalize (x.toNat : Int) = X at *
  go_enter Tryd.func85, Tryd.ntmps85
  go_wp2
  go_ret
  exact ⟨ret_bool (HB.out), 0, rfl⟩

theorem has_6 (x : BitVec 64) (w : World) : Calls Tryd.prog 85 #[.int .u64 (x.toNat : Int), .int .u64 6] w (Quiet (.bool (x.getLsbD 6)) w) := by
  have hb := bit_at x 6
  have HB := hide hb
  clear hb
  generalize (x.toNat : Int) = X at *
  go_enter Tryd.func85, Tryd.ntmps85
  go_wp2
  go_ret
  exact ⟨ret_bool (HB.out), 0, rfl⟩

theorem has_7 (x : BitVec 64) (w : World) : Calls Tryd.prog 85 #[.int .u64 (x.toNat : Int), .int .u64 7] w (Quiet (.bool (x.getLsbD 7)) w) := by
  have hb := bit_at x 7
  have HB := hide hb
  clear hb
  generalize (x.toNat : Int) = X at *
  go_enter Tryd.func85, Tryd.ntmps85
  go_wp2
  go_ret
  exact ⟨ret_bool (HB.out), 0, rfl⟩

theorem has_58 (x : BitVec 64) (w : World) : Calls Tryd.prog 85 #[.int .u64 (x.toNat : Int), .int .u64 58] w (Quiet (.bool (x.getLsbD 58)) w) := by
  have hb := bit_at x 58
  have HB := hide hb
  clear hb
  generalize (x.toNat : Int) = X at *
  go_enter Tryd.func85, Tryd.ntmps85
  go_wp2
  go_ret
  exact ⟨ret_bool (HB.out), 0, rfl⟩

theorem has_59 (x : BitVec 64) (w : World) : Calls Tryd.prog 85 #[.int .u64 (x.toNat : Int), .int .u64 59] w (Quiet (.bool (x.getLsbD 59)) w) := by
  have hb := bit_at x 59
  have HB := hide hb
  clear hb
  generalize (x.toNat : Int) = X at *
  go_enter Tryd.func85, Tryd.ntmps85
  go_wp2
  go_ret
  exact ⟨ret_bool (HB.out), 0, rfl⟩

theorem has_60 (x : BitVec 64) (w : World) : Calls Tryd.prog 85 #[.int .u64 (x.toNat : Int), .int .u64 60] w (Quiet (.bool (x.getLsbD 60)) w) := by
  have hb := bit_at x 60
  have HB := hide hb
  clear hb
  generalize (x.toNat : Int) = X at *
  go_enter Tryd.func85, Tryd.ntmps85
  go_wp2
  go_ret
  exact ⟨ret_bool (HB.out), 0, rfl⟩

theorem has_61 (x : BitVec 64) (w : World) : Calls Tryd.prog 85 #[.int .u64 (x.toNat : Int), .int .u64 61] w (Quiet (.bool (x.getLsbD 61)) w) := by
  have hb := bit_at x 61
  have HB := hide hb
  clear hb
  generalize (x.toNat : Int) = X at *
  go_enter Tryd.func85, Tryd.ntmps85
  go_wp2
  go_ret
  exact ⟨ret_bool (HB.out), 0, rfl⟩

theorem rword_let (b0 b1 b2 b3 b4 b5 b6 b7 b8 b9 b10 b11 : Bool) (B0 B1 B2 B3 B4 B5 B6 B7 B8 B9 B10 B11 S1 S2 S3 S4 S5 S6 S7 S8 S9 S10 S11 N M Z R : Int) (c0 : ∀ W, Calls Tryd.prog 49 #[.bool b0, .int .u64 0] W (Quiet (.int .u64 B0) W)) (c1 : ∀ W, Calls Tryd.prog 49 #[.bool b1, .int .u64 1] W (Quiet (.int .u64 B1) W)) (c2 : ∀ W, Calls Tryd.prog 49 #[.bool b2, .int .u64 2] W (Quiet (.int .u64 B2) W)) (c3 : ∀ W, Calls Tryd.prog 49 #[.bool b3, .int .u64 3] W (Quiet (.int .u64 B3) W)) (c4 : ∀ W, Calls Tryd.prog 49 #[.bool b4, .int .u64 4] W (Quiet (.int .u64 B4) W)) (c5 : ∀ W, Calls Tryd.prog 49 #[.bool b5, .int .u64 5] W (Quiet (.int .u64 B5) W)) (c6 : ∀ W, Calls Tryd.prog 49 #[.bool b6, .int .u64 6] W (Quiet (.int .u64 B6) W)) (c7 : ∀ W, Calls Tryd.prog 49 #[.bool b7, .int .u64 7] W (Quiet (.int .u64 B7) W)) (c8 : ∀ W, Calls Tryd.prog 49 #[.bool b8, .int .u64 58] W (Quiet (.int .u64 B8) W)) (c9 : ∀ W, Calls Tryd.prog 49 #[.bool b9, .int .u64 59] W (Quiet (.int .u64 B9) W)) (c10 : ∀ W, Calls Tryd.prog 49 #[.bool b10, .int .u64 60] W (Quiet (.int .u64 B10) W)) (c11 : ∀ W, Calls Tryd.prog 49 #[.bool b11, .int .u64 61] W (Quiet (.int .u64 B11) W)) (hM2 : N.tmod 17592186044416 = M) (hZ2 : IntKind.u64.wrap (M * 1024) = Z) (h1 : IntKind.u64.wrap (B0 + B1) = S1) (h2 : IntKind.u64.wrap (S1 + B2) = S2) (h3 : IntKind.u64.wrap (S2 + B3) = S3) (h4 : IntKind.u64.wrap (S3 + B4) = S4) (h5 : IntKind.u64.wrap (S4 + B5) = S5) (h6 : IntKind.u64.wrap (S5 + B6) = S6) (h7 : IntKind.u64.wrap (S6 + B7) = S7) (h8 : IntKind.u64.wrap (S7 + B8) = S8) (h9 : IntKind.u64.wrap (S8 + B9) = S9) (h10 : IntKind.u64.wrap (S9 + B10) = S10) (h11 : IntKind.u64.wrap (S10 + B11) = S11) (hR : IntKind.u64.wrap (S11 + Z) = R) (w : World) :
    Calls Tryd.prog 14 #[.agg #[.bool b0, .bool b1, .bool b2, .bool b3, .bool b4, .bool b5, .bool b6, .bool b7, .bool b8, .bool b9, .bool b10, .bool b11, .int .u64 N]] w (Makes (.int .u64 R) w) := by
  have Cc0 := hide c0
  have Cc1 := hide c1
  have Cc2 := hide c2
  have Cc3 := hide c3
  have Cc4 := hide c4
  have Cc5 := hide c5
  have Cc6 := hide c6
  have Cc7 := hide c7
  have Cc8 := hide c8
  have Cc9 := hide c9
  have Cc10 := hide c10
  have Cc11 := hide c11
  clear c0 c1 c2 c3 c4 c5 c6 c7 c8 c9 c10 c11
  obtain ⟨SS, LB', LS, LA', LH⟩ := rules5
  go_enter Tryd.func14, Tryd.ntmps14
  go_wp2
  go_quiet ((go_at_call 49; with_reducible first | exact Quiet.region Cc0.out | exact Quiet.regionAdd Cc0.out | exact Quiet.region Cc1.out | exact Quiet.regionAdd Cc1.out | exact Quiet.region Cc2.out | exact Quiet.regionAdd Cc2.out | exact Quiet.region Cc3.out | exact Quiet.regionAdd Cc3.out | exact Quiet.region Cc4.out | exact Quiet.regionAdd Cc4.out | exact Quiet.region Cc5.out | exact Quiet.regionAdd Cc5.out | exact Quiet.region Cc6.out | exact Quiet.regionAdd Cc6.out | exact Quiet.region Cc7.out | exact Quiet.regionAdd Cc7.out | exact Quiet.region Cc8.out | exact Quiet.regionAdd Cc8.out | exact Quiet.region Cc9.out | exact Quiet.regionAdd Cc9.out | exact Quiet.region Cc10.out | exact Quiet.regionAdd Cc10.out | exact Quiet.region Cc11.out | exact Quiet.regionAdd Cc11.out))
  go_wp2
  go_quiet ((go_at_call 49; with_reducible first | exact Quiet.region Cc0.out | exact Quiet.regionAdd Cc0.out | exact Quiet.region Cc1.out | exact Quiet.regionAdd Cc1.out | exact Quiet.region Cc2.out | exact Quiet.regionAdd Cc2.out | exact Quiet.region Cc3.out | exact Quiet.regionAdd Cc3.out | exact Quiet.region Cc4.out | exact Quiet.regionAdd Cc4.out | exact Quiet.region Cc5.out | exact Quiet.regionAdd Cc5.out | exact Quiet.region Cc6.out | exact Quiet.regionAdd Cc6.out | exact Quiet.region Cc7.out | exact Quiet.regionAdd Cc7.out | exact Quiet.region Cc8.out | exact Quiet.regionAdd Cc8.out | exact Quiet.region Cc9.out | exact Quiet.regionAdd Cc9.out | exact Quiet.region Cc10.out | exact Quiet.regionAdd Cc10.out | exact Quiet.region Cc11.out | exact Quiet.regionAdd Cc11.out))
  go_wp2
  go_ret
  refine ⟨rfl, ?_⟩
  repeat (with_reducible first | assumption | exact Below.refl _ _ | refine Below.drew ?_ | refine below_drewN ?_ _ | refine bw_alloc ?_ _ | (refine bw_set ?_ ?_ _; focus (dsimp only; omega)) | (apply bw_behind; assumption))

theorem bitN_le (b : Bool) (k : Nat) : bitN b k ≤ 2 ^ k := by
  unfold bitN
  split
  · exact Nat.le_refl _
  · exact Nat.zero_le _
def wordN (b0 b1 b2 b3 b4 b5 b6 b7 b8 b9 b10 b11 : Bool) (F : Nat) : Nat := bitN b0 0 + bitN b1 1 + bitN b2 2 + bitN b3 3 + bitN b4 4 + bitN b5 5 + bitN b6 6 + bitN b7 7 + bitN b8 58 + bitN b9 59 + bitN b10 60 + bitN b11 61 + F % 17592186044416 * 1024

theorem word_is (b0 b1 b2 b3 b4 b5 b6 b7 b8 b9 b10 b11 : Bool) (F : BitVec 64) : (wk (bs b0 b1 b2 b3 b4 b5 b6 b7 b8 b9 b10 b11) F 12).toNat = wordN b0 b1 b2 b3 b4 b5 b6 b7 b8 b9 b10 b11 F.toNat := by
  rw [wk_nat _ _ 12 (by omega), wordN]
  simp only [sumN, bs, plc]
  simp
  omega

theorem rword_any (b0 b1 b2 b3 b4 b5 b6 b7 b8 b9 b10 b11 : Bool) (F : BitVec 64) (w : World) : Calls Tryd.prog 14 #[.agg #[.bool b0, .bool b1, .bool b2, .bool b3, .bool b4, .bool b5, .bool b6, .bool b7, .bool b8, .bool b9, .bool b10, .bool b11, .int .u64 (F.toNat : Int)]] w (Makes (.int .u64 ((wordN b0 b1 b2 b3 b4 b5 b6 b7 b8 b9 b10 b11 F.toNat : Nat) : Int)) w) := by
  have l0 := bitN_le b0 0
  have l1 := bitN_le b1 1
  have l2 := bitN_le b2 2
  have l3 := bitN_le b3 3
  have l4 := bitN_le b4 4
  have l5 := bitN_le b5 5
  have l6 := bitN_le b6 6
  have l7 := bitN_le b7 7
  have l8 := bitN_le b8 58
  have l9 := bitN_le b9 59
  have l10 := bitN_le b10 60
  have l11 := bitN_le b11 61
  have hF := Nat.mod_lt F.toNat (show 0 < 17592186044416 by decide)
  have hm : ((F.toNat : Int).tmod 17592186044416) = ((F.toNat % 17592186044416 : Nat) : Int) := by
    rw [Int.tmod_eq_emod_of_nonneg (by omega)]; rfl
  have hsum : wordN b0 b1 b2 b3 b4 b5 b6 b7 b8 b9 b10 b11 F.toNat = bitN b0 0 + bitN b1 1 + bitN b2 2 + bitN b3 3 + bitN b4 4 + bitN b5 5 + bitN b6 6 + bitN b7 7 + bitN b8 58 + bitN b9 59 + bitN b10 60 + bitN b11 61 + F.toNat % 17592186044416 * 1024 := rfl
  have c0 := fun W => bit_0 b0 W
  have c1 := fun W => bit_1 b1 W
  have c2 := fun W => bit_2 b2 W
  have c3 := fun W => bit_3 b3 W
  have c4 := fun W => bit_4 b4 W
  have c5 := fun W => bit_5 b5 W
  have c6 := fun W => bit_6 b6 W
  have c7 := fun W => bit_7 b7 W
  have c8 := fun W => bit_58 b8 W
  have c9 := fun W => bit_59 b9 W
  have c10 := fun W => bit_60 b10 W
  have c11 := fun W => bit_61 b11 W
  generalize wordN b0 b1 b2 b3 b4 b5 b6 b7 b8 b9 b10 b11 F.toNat = T at *
  generalize bitN b0 0 = U0 at *
  generalize bitN b1 1 = U1 at *
  generalize bitN b2 2 = U2 at *
  generalize bitN b3 3 = U3 at *
  generalize bitN b4 4 = U4 at *
  generalize bitN b5 5 = U5 at *
  generalize bitN b6 6 = U6 at *
  generalize bitN b7 7 = U7 at *
  generalize bitN b8 58 = U8 at *
  generalize bitN b9 59 = U9 at *
  generalize bitN b10 60 = U10 at *
  generalize bitN b11 61 = U11 at *
  generalize F.toNat % 17592186044416 = M at *
  refine rword_let b0 b1 b2 b3 b4 b5 b6 b7 b8 b9 b10 b11 (U0 : Int) (U1 : Int) (U2 : Int) (U3 : Int) (U4 : Int) (U5 : Int) (U6 : Int) (U7 : Int) (U8 : Int) (U9 : Int) (U10 : Int) (U11 : Int) ((U0 + U1 : Nat) : Int) ((U0 + U1 + U2 : Nat) : Int) ((U0 + U1 + U2 + U3 : Nat) : Int) ((U0 + U1 + U2 + U3 + U4 : Nat) : Int) ((U0 + U1 + U2 + U3 + U4 + U5 : Nat) : Int) ((U0 + U1 + U2 + U3 + U4 + U5 + U6 : Nat) : Int) ((U0 + U1 + U2 + U3 + U4 + U5 + U6 + U7 : Nat) : Int) ((U0 + U1 + U2 + U3 + U4 + U5 + U6 + U7 + U8 : Nat) : Int) ((U0 + U1 + U2 + U3 + U4 + U5 + U6 + U7 + U8 + U9 : Nat) : Int) ((U0 + U1 + U2 + U3 + U4 + U5 + U6 + U7 + U8 + U9 + U10 : Nat) : Int) ((U0 + U1 + U2 + U3 + U4 + U5 + U6 + U7 + U8 + U9 + U10 + U11 : Nat) : Int) _ (M : Int) ((M * 1024 : Nat) : Int) _ c0 c1 c2 c3 c4 c5 c6 c7 c8 c9 c10 c11 hm ?_ ?_ ?_ ?_ ?_ ?_ ?_ ?_ ?_ ?_ ?_ ?_ ?_ w
  all_goals (rw [IntKind.wrap_u64]; omega)

theorem rof_let (b0 b1 b2 b3 b4 b5 b6 b7 b8 b9 b10 b11 : Bool) (X G : Int) (c0 : ∀ W, Calls Tryd.prog 85 #[.int .u64 X, .int .u64 0] W (Quiet (.bool b0) W)) (c1 : ∀ W, Calls Tryd.prog 85 #[.int .u64 X, .int .u64 1] W (Quiet (.bool b1) W)) (c2 : ∀ W, Calls Tryd.prog 85 #[.int .u64 X, .int .u64 2] W (Quiet (.bool b2) W)) (c3 : ∀ W, Calls Tryd.prog 85 #[.int .u64 X, .int .u64 3] W (Quiet (.bool b3) W)) (c4 : ∀ W, Calls Tryd.prog 85 #[.int .u64 X, .int .u64 4] W (Quiet (.bool b4) W)) (c5 : ∀ W, Calls Tryd.prog 85 #[.int .u64 X, .int .u64 5] W (Quiet (.bool b5) W)) (c6 : ∀ W, Calls Tryd.prog 85 #[.int .u64 X, .int .u64 6] W (Quiet (.bool b6) W)) (c7 : ∀ W, Calls Tryd.prog 85 #[.int .u64 X, .int .u64 7] W (Quiet (.bool b7) W)) (c8 : ∀ W, Calls Tryd.prog 85 #[.int .u64 X, .int .u64 58] W (Quiet (.bool b8) W)) (c9 : ∀ W, Calls Tryd.prog 85 #[.int .u64 X, .int .u64 59] W (Quiet (.bool b9) W)) (c10 : ∀ W, Calls Tryd.prog 85 #[.int .u64 X, .int .u64 60] W (Quiet (.bool b10) W)) (c11 : ∀ W, Calls Tryd.prog 85 #[.int .u64 X, .int .u64 61] W (Quiet (.bool b11) W)) (hG : (X / 1024).tmod 17592186044416 = G) (w : World) :
    Calls Tryd.prog 69 #[.int .u64 X] w (Makes (.agg #[.bool b0, .bool b1, .bool b2, .bool b3, .bool b4, .bool b5, .bool b6, .bool b7, .bool b8, .bool b9, .bool b10, .bool b11, .int .u64 G]) w) := by
  have Cc0 := hide c0
  have Cc1 := hide c1
  have Cc2 := hide c2
  have Cc3 := hide c3
  have Cc4 := hide c4
  have Cc5 := hide c5
  have Cc6 := hide c6
  have Cc7 := hide c7
  have Cc8 := hide c8
  have Cc9 := hide c9
  have Cc10 := hide c10
  have Cc11 := hide c11
  clear c0 c1 c2 c3 c4 c5 c6 c7 c8 c9 c10 c11
  obtain ⟨SS, LB', LS, LA', LH⟩ := rules5
  go_enter Tryd.func69, Tryd.ntmps69
  go_wp2_with ((go_at_call 85; (with_reducible first | refine (Cc0.out _).mono ?_ | refine (Cc1.out _).mono ?_ | refine (Cc2.out _).mono ?_ | refine (Cc3.out _).mono ?_ | refine (Cc4.out _).mono ?_ | refine (Cc5.out _).mono ?_ | refine (Cc6.out _).mono ?_ | refine (Cc7.out _).mono ?_ | refine (Cc8.out _).mono ?_ | refine (Cc9.out _).mono ?_ | refine (Cc10.out _).mono ?_ | refine (Cc11.out _).mono ?_); rintro e w' ⟨rfl, n1, rfl⟩))
  refine bodyPost_ret (v := .agg #[.bool b0, .bool b1, .bool b2, .bool b3, .bool b4, .bool b5, .bool b6, .bool b7, .bool b8, .bool b9, .bool b10, .bool b11, .int .u64 G]) (by simp (maxDischargeDepth := 4) [results, Tryd.results69, go_sem, *]) rfl ?_
  refine ⟨rfl, ?_⟩
  repeat (with_reducible first | assumption | exact Below.refl _ _ | refine Below.drew ?_ | refine below_drewN ?_ _ | refine bw_alloc ?_ _ | (refine bw_set ?_ ?_ _; focus (dsimp only; omega)) | (apply bw_behind; assumption))

theorem rof_any (x : BitVec 64) (w : World) : Calls Tryd.prog 69 #[.int .u64 (x.toNat : Int)] w (Makes (.agg #[.bool (x.getLsbD 0), .bool (x.getLsbD 1), .bool (x.getLsbD 2), .bool (x.getLsbD 3), .bool (x.getLsbD 4), .bool (x.getLsbD 5), .bool (x.getLsbD 6), .bool (x.getLsbD 7), .bool (x.getLsbD 58), .bool (x.getLsbD 59), .bool (x.getLsbD 60), .bool (x.getLsbD 61), .int .u64 ((getB x 10 44).toNat : Int)]) w) := by
  refine rof_let (x.getLsbD 0) (x.getLsbD 1) (x.getLsbD 2) (x.getLsbD 3) (x.getLsbD 4) (x.getLsbD 5) (x.getLsbD 6) (x.getLsbD 7) (x.getLsbD 58) (x.getLsbD 59) (x.getLsbD 60) (x.getLsbD 61) _ _ (fun W => has_0 x W) (fun W => has_1 x W) (fun W => has_2 x W) (fun W => has_3 x W) (fun W => has_4 x W) (fun W => has_5 x W) (fun W => has_6 x W) (fun W => has_7 x W) (fun W => has_58 x W) (fun W => has_59 x W) (fun W => has_60 x W) (fun W => has_61 x W) ?_ w
  rw [Int.tmod_eq_emod_of_nonneg (by omega), show getB x 10 44 = getB x ((10 : Nat) : Int) ((44 : Nat) : Int) from rfl, get_nat _ _ _ (by omega)]
  rfl
end Go.Proofs.YtkajndonefkegaaDoor
