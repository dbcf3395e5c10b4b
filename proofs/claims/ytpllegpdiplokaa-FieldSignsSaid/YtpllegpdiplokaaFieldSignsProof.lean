/-
  FieldSigns holds: for every x and w the law returns true and turns nothing.
-/
import Derived.Test.YtpllegpdiplokaaFieldWalks
import Derived.Test.YtpllegpdiplokaaLawFrame
namespace Go.Proofs.Ytpllegpdiplokaa.FieldSigns
open Go.RowKit Words FieldMath

theorem numW_ok (w : Int) (h1 : 1 ≤ w) (h2 : w ≤ 64) : numW w = true := decide_eq_true ⟨h1, h2⟩
theorem sign_low (X : BitVec 64) (w : Int) (h1 : 1 ≤ w) (_h2 : w ≤ 64) : signB (X &&& maskB w) w = signB X w := by
  refine ext64 fun i hi => ?_
  rw [sign_bit _ _ _ hi, sign_bit _ _ _ hi, BitVec.getLsbD_and, mask_bit]
  split
  · rename_i h; simp [hi, h]
  · rename_i h
    have e1 : (w - 1).toNat < 64 := by omega
    have e2 : ((w - 1).toNat : Int) < w := by omega
    simp only [e1, e2, decide_true, Bool.and_self, Bool.and_true]
theorem sign_twice (X : BitVec 64) (w : Int) (h1 : 1 ≤ w) (_h2 : w ≤ 64) : signB (signB X w) w = signB X w := by
  refine ext64 fun i hi => ?_
  have e1 : (w - 1).toNat < 64 := by omega
  have e2 : ((w - 1).toNat : Int) < w := by omega
  rw [sign_bit _ _ _ hi, sign_bit X _ _ hi]
  split
  · rename_i h; rw [sign_bit _ _ _ hi, if_pos h]; simp
  · rw [sign_bit _ _ _ e1, if_pos e2]; simp
theorem sign_all (X : BitVec 64) : signB X 64 = X := by
  refine ext64 fun i hi => ?_
  have e : (i : Int) < 64 := by omega
  rw [sign_bit _ _ _ hi, numW_ok _ (by omega) (by omega), if_pos e, Bool.true_and]
theorem sign_more (X : BitVec 64) (w : Int) (h1 : 1 ≤ w) (h2 : w < 64) (h : signB X w = X) : signB X (w + 1) = X := by
  have hb : ∀ i, i < 64 → X.getLsbD i = X.getLsbD (if (i : Int) < w then i else (w - 1).toNat) := fun i hi => by
    have := sign_bit X w i hi
    rwa [h, numW_ok _ h1 (by omega), Bool.true_and] at this
  refine ext64 fun i hi => ?_
  rw [sign_bit _ _ _ hi, numW_ok _ (by omega) (by omega), Bool.true_and]
  split
  · rfl
  · rename_i h3
    have e : (w + 1 - 1).toNat = w.toNat := by omega
    have k1 := hb w.toNat (by omega)
    have k2 := hb i hi
    rw [if_neg (by omega)] at k1
    rw [if_neg (by omega)] at k2
    rw [e, k1, k2]
theorem maskB_toNat (w : Int) (h2 : w ≤ 64) : (maskB w).toNat = 2 ^ w.toNat - 1 := by
  unfold maskB
  have e : min w.toNat 64 = w.toNat := by omega
  have hk : w.toNat ≤ 64 := by omega
  rw [e, BitVec.toNat_ofNat]
  generalize w.toNat = k at hk
  have : 2 ^ k ≤ 2 ^ 64 := Nat.pow_le_pow_right (by decide) hk
  have hp : (0 : Nat) < 2 ^ k := Nat.two_pow_pos k
  omega
theorem bits_above (X : BitVec 64) (w : Int) (h1 : 1 ≤ w) (h2 : w ≤ 64) (h : (X.toNat : Int) ≤ ((maskB w).toNat : Int)) (i : Nat) (hi : w ≤ i) : X.getLsbD i = false := by
  rw [maskB_toNat w h2] at h
  have hp : (0 : Nat) < 2 ^ w.toNat := Nat.two_pow_pos _
  have hlt : X.toNat < 2 ^ w.toNat := by omega
  rw [BitVec.getLsbD]
  exact Nat.testBit_lt_two_pow (Nat.lt_of_lt_of_le hlt (Nat.pow_le_pow_right (by decide) (by omega)))
theorem and_mask (X : BitVec 64) (w : Int) (h2 : w ≤ 64) : (X &&& maskB w = X) ↔ X.toNat ≤ (maskB w).toNat := by
  rw [← BitVec.toNat_inj, BitVec.toNat_and, maskB_toNat w h2, Nat.and_two_pow_sub_one_eq_mod]
  have hp : (0 : Nat) < 2 ^ w.toNat := Nat.two_pow_pos _
  constructor
  · intro h
    have := Nat.mod_lt X.toNat hp
    omega
  · intro h; exact Nat.mod_eq_of_lt (by omega)

/-- What the law asks, of a number x whose word is X. -/
theorem one (x : Int) (X : BitVec 64) (hX : x = X.toInt) (w : Int) (h1 : 1 ≤ w) (h2 : w ≤ 64) :
    ((signB (X &&& maskB w) w).toInt == x) = fitsB x w true := by
  unfold fitsB
  rw [sign_low _ _ h1 h2, numW_ok _ h1 h2, hX, ofInt_toInt, Bool.eq_iff_iff]
  simp [BitVec.toInt_inj]
theorem two (x : Int) (X : BitVec 64) (hX : x = X.toInt) (w : Int) (h1 : 1 ≤ w) (h2 : w ≤ 64) :
    (((X &&& maskB w).toInt == x) && decide (0 ≤ x)) = fitsB x w false := by
  unfold fitsB
  rw [numW_ok _ h1 h2]
  by_cases h0 : 0 ≤ x
  · have hn : x = (X.toNat : Int) := by
      have := X.isLt
      rw [hX, BitVec.toInt_eq_toNat_cond] at h0 ⊢
      split <;> omega
    rw [Bool.eq_iff_iff, hX]
    simp only [Bool.and_eq_true, beq_iff_eq, BitVec.toInt_inj, decide_eq_true_eq, Bool.true_and, Bool.false_eq_true, if_false]
    rw [and_mask _ _ h2, ← hX]
    omega
  · simp [h0]
theorem three (x : Int) (X : BitVec 64) (hX : x = X.toInt) (w : Int) (h1 : 1 ≤ w) (h2 : w < 64) (h : fitsB x w true = true ∨ fitsB x w false = true) : fitsB x (w + 1) true = true := by
  unfold fitsB at h ⊢
  rw [numW_ok _ h1 (by omega), hX, ofInt_toInt] at h
  rw [numW_ok _ (by omega) (by omega), hX, ofInt_toInt]
  simp only [Bool.true_and, if_true, beq_iff_eq, Bool.false_eq_true, if_false, Bool.and_eq_true, decide_eq_true_eq] at h ⊢
  rcases h with h | ⟨h0, h⟩
  · exact sign_more X w h1 h2 h
  · have hn : X.toInt = (X.toNat : Int) := by
      have := X.isLt
      rw [BitVec.toInt_eq_toNat_cond] at h0 ⊢
      split <;> omega
    rw [hn] at h
    have hb := bits_above X w h1 (by omega) h
    refine ext64 fun i hi => ?_
    rw [sign_bit _ _ _ hi, numW_ok _ (by omega) (by omega), Bool.true_and]
    split
    · rfl
    · rw [hb i (by omega), hb _ (by omega)]
theorem four (x : Int) (X : BitVec 64) (hX : x = X.toInt) : fitsB x 64 true = true := by
  unfold fitsB
  rw [numW_ok _ (by omega) (by omega), hX, ofInt_toInt, sign_all]; simp
theorem mask3 : ((maskB 3).toNat : Int) = 7 := by decide

set_option maxHeartbeats 400000 in
theorem walk (x : Int) (c : Int) (w : World) (hx : -9223372036854775808 ≤ x) (hx2 : x < 9223372036854775808) :
    Calls Try.prog 6 #[.int .i64 x, .int .i64 c] w (Quiet (.bool true) w) := by
  obtain ⟨hl1, hl2⟩ := low63 c
  obtain ⟨d, hd⟩ : ∃ d, bits .and .i64 c 63 = d := ⟨_, rfl⟩
  rw [hd] at hl1 hl2
  obtain ⟨X, hX⟩ : ∃ X, X = BitVec.ofInt 64 x := ⟨_, rfl⟩
  have hXu : IntKind.u64.wrap x = (X.toNat : Int) := by rw [wrap_u64_bv, hX]
  have hXi : x = X.toInt := by rw [hX, BitVec.toInt_ofInt]; simp only [Int.bmod]; simp; split <;> omega
  have g1 := one x X hXi (1 + d) (by omega) (by omega)
  have g2 := two x X hXi (1 + d) (by omega) (by omega)
  have g4 := four x X hXi
  have g5 := sign_twice X (1 + d) (by omega) (by omega)
  have g3 := fun h => three x X hXi (1 + d) (by omega) h
  obtain ⟨b1, hb1⟩ : ∃ b, fitsB x (1 + d) true = b := ⟨_, rfl⟩
  obtain ⟨b2, hb2⟩ : ∃ b, fitsB x (1 + d) false = b := ⟨_, rfl⟩
  have c1 := fun W => fits_any x (1 + d) true W hx hx2
  have c2 := fun W => fits_any x (1 + d) false W hx hx2
  have c4 := fun W => fits_any x 64 true W hx hx2
  rw [hb1] at c1 g1 g3
  rw [hb2] at c2 g2 g3
  rw [g4] at c4
  have hla := and_bv X (maskB (1 + d))
  generalize X &&& maskB (1 + d) = L at hla g1 g2
  have hm3 := mask3
  have hw1 := wrap64_bv (signB L (1 + d))
  have hw2 := wrap64_bv L
  have G3 : 1 + d < 64 → (b1 = true ∨ b2 = true) → ∀ W, Calls Try.prog 16 #[.int .i64 x, .int .i64 (1 + d + 1), .bool true] W (Quiet (.bool true) W) := fun h k W => by
    have := fits_any x (1 + d + 1) true W hx hx2
    rwa [g3 h k] at this
  have C1 := hide c1
  have C2 := hide c2
  have C4 := hide c4
  have H3 := hide G3
  clear hX hXi g3 hb1 hb2 g4 c1 c2 c4 G3
  obtain ⟨b3, hb3⟩ : ∃ b, (L.toInt == x) = b := ⟨_, rfl⟩
  rw [hb3] at g2
  by_cases h0 : 0 ≤ x
  · obtain rfl : b3 = b2 := by simpa [h0] using g2
    clear g2
    by_cases h64 : 1 + d < 64
    all_goals cases b1 <;> cases b3
    all_goals
      go_enter Try.func6, Try.ntmps6
      go_wp2_with (first | (go_at_call 8; refine (mask_any _ _).mono ?_; rintro e w' ⟨rfl, n1, rfl⟩) | (go_at_call 16; ((with_reducible first | refine (C1.out _).mono ?_ | refine (C2.out _).mono ?_ | refine (C4.out _).mono ?_ | refine (H3.out (by assumption) (by decide) _).mono ?_); rintro e w' ⟨rfl, n2, rfl⟩)) | (go_at_call 14; refine (sign_any _ _ _).mono ?_; rintro e w' ⟨rfl, n3, rfl⟩))
      go_ret
      exact ⟨rfl, _, rfl⟩
  · obtain rfl : b2 = false := by simpa [h0] using g2.symm
    clear g2
    by_cases h64 : 1 + d < 64
    all_goals cases b1 <;> cases b3
    all_goals
      go_enter Try.func6, Try.ntmps6
      go_wp2_with (first | (go_at_call 8; refine (mask_any _ _).mono ?_; rintro e w' ⟨rfl, n1, rfl⟩) | (go_at_call 16; ((with_reducible first | refine (C1.out _).mono ?_ | refine (C2.out _).mono ?_ | refine (C4.out _).mono ?_ | refine (H3.out (by assumption) (by decide) _).mono ?_); rintro e w' ⟨rfl, n2, rfl⟩)) | (go_at_call 14; refine (sign_any _ _ _).mono ?_; rintro e w' ⟨rfl, n3, rfl⟩))
      go_ret
      exact ⟨rfl, _, rfl⟩

open Go.ChangeShapes Go.WideShapes Go.ChangeAt
theorem walks : Frame.Walks 6 Try.f6 := by
  intro H enc W base args ds ps hval hA
  rw [Try.params6] at hA hval
  obtain ⟨v0, v1, d0, d1, p0, p1, hargs, rfl, rfl, h0, h1⟩ := trodAll_two hA
  obtain rfl : args = #[v0, v1] := by cases args; simp_all
  obtain ⟨x, rfl, rfl, rfl, wx⟩ := open_int Try.underlying2 (hval 0 2 v0 rfl rfl) h0
  obtain ⟨c, rfl, rfl, rfl, wc⟩ := open_int Try.underlying3 (hval 1 3 v1 rfl rfl) h1
  exact (walk x c W (Frame.wf_i64 wx).1 (Frame.wf_i64 wx).2).mono fun e W' ⟨he, n, hn⟩ => ⟨he, by rw [hn]; exact below_drewN (Below.refl _ _) n⟩
set_option maxRecDepth 100000 in
theorem proved : Rows.FieldSignsSaid :=
  OpenClaim.holds_of_wide 6 Try.f6 rfl rfl rfl rfl rfl rfl rfl ⟨rfl, rfl, rfl, rfl, rfl⟩ rfl rfl rfl rfl rfl (by kernel_rfl) Try.func6 (by kernel_rfl)
    (of_decide_eq_true (by kernel_rfl)) (by unfold Func.isWrapper; first | (rw [if_pos (by decide +kernel)]; kernel_rfl) | (rw [if_neg (by decide +kernel)]; exact ⟨rfl, rfl⟩))
    (fun os started H enc _ => Frame.lift os started H enc _ _ Rows.fieldSignsSpec 4 (by kernel_rfl) Try.func6 Try.underlying4 (by kernel_rfl) rfl (by kernel_rfl)
      (fun ds h => by match ds, h with | [_, _], _ => exact ⟨rfl, rfl, rfl⟩)
      (ChangeSpec.witness6 (enc := enc) (C := Try.checked) false ⟨#[], #[.int .i64 0, .int .i64 0], []⟩ 8 (by kernel_rfl) (by kernel_rfl) (by kernel_rfl) (by kernel_rfl)) walks)
end Go.Proofs.Ytpllegpdiplokaa.FieldSigns
