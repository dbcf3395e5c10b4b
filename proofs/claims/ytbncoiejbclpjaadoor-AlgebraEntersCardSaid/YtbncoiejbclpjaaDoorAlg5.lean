/-
  What Seal, Unseal, Enter, Open, Build, And, Bound answer, in numbers.
-/
import Derived.Test.YtbncoiejbclpjaaDoorAlg3
import Derived.Test.YtbncoiejbclpjaaDoorAlgAnd
import Derived.Test.YtbncoiejbclpjaaDoorAlgBound
import Derived.Test.YtbncoiejbclpjaaDoorAlg4
namespace Go.Proofs.YtbncoiejbclpjaaDoor
open Go.RowKit Words FieldMath BoundsMath

theorem andnot_sub (a b : BitVec 64) : a &&& ~~~b = a - (a &&& b) := by
  have h1 : (a &&& ~~~b) &&& (a &&& b) = 0#64 := by
    apply ext64; intro i hi; simp; intros; simp_all
  have h2 : (a &&& ~~~b) ||| (a &&& b) = a := by
    apply ext64; intro i hi; simp only [BitVec.getLsbD_or, BitVec.getLsbD_and, BitVec.getLsbD_not, hi, decide_true, Bool.true_and]; cases a.getLsbD i <;> cases b.getLsbD i <;> rfl
  have h3 := BitVec.add_eq_or_of_and_eq_zero _ _ h1
  rw [h2] at h3
  generalize a &&& ~~~b = x at *
  generalize a &&& b = y at *
  rw [← h3, BitVec.add_sub_cancel]
theorem andnot_nat (a b : BitVec 64) : (a &&& ~~~b).toNat = a.toNat - (a.toNat &&& b.toNat) := by
  have h1 : (a &&& b).toNat = (a.toNat &&& b.toNat) := BitVec.toNat_and ..
  have h2 := Nat.and_le_left (n := a.toNat) (m := b.toNat)
  rw [andnot_sub, BitVec.toNat_sub_of_le (by rw [BitVec.le_def, h1]; exact h2), h1]
theorem bits_andnot {a b : Nat} (ha : a < 18446744073709551616) (hb : b < 18446744073709551616) : bits .andNot .u64 (a : Int) (b : Int) = ((a - (a &&& b) : Nat) : Int) := by
  obtain ⟨A, rfl⟩ := bv_of ha
  obtain ⟨B, rfl⟩ := bv_of hb
  rw [andNot_bv, andnot_nat]
theorem and_high (m x : Nat) (hx : x < 512) : m &&& (x * 4294967296) = (mP m &&& x) * 4294967296 := by
  have e : (4294967296 : Nat) = 2 ^ 32 := by decide
  unfold mP
  apply Nat.eq_of_testBit_eq
  intro i
  rw [e, show (512 : Nat) = 2 ^ 9 from rfl]
  simp only [Nat.testBit_and, Nat.testBit_mul_two_pow, Nat.testBit_mod_two_pow, Nat.testBit_div_two_pow]
  by_cases h1 : 32 ≤ i
  · by_cases h2 : i - 32 < 9
    · simp [h1, h2, show i - 32 + 32 = i by omega]
    · have : x.testBit (i - 32) = false := Nat.testBit_lt_two_pow (Nat.lt_of_lt_of_le hx (by rw [show (512 : Nat) = 2 ^ 9 from rfl]; exact Nat.pow_le_pow_right (by omega) (by omega)))
      simp [this]
  · simp [h1]
theorem all_less (p : Nat) : 511 - (511 &&& p) < 512 := by omega
theorem and_less (m p : Nat) : (mP m &&& (511 - (511 &&& p))) = mP m - (mP m &&& p) := by
  obtain ⟨P, hP⟩ := bv_of (show mP m < 18446744073709551616 by unfold mP; omega)
  have e1 : (511 &&& p) = (511 &&& p % 512) := by
    rw [Nat.and_comm, Nat.and_comm 511, show (511 : Nat) = 2 ^ 9 - 1 from rfl, Nat.and_two_pow_sub_one_eq_mod, Nat.and_two_pow_sub_one_eq_mod]; omega
  have hPlt : mP m < 512 := by unfold mP; omega
  have e0 : (mP m &&& 511) = mP m := by rw [show (511 : Nat) = 2 ^ 9 - 1 from rfl, Nat.and_two_pow_sub_one_eq_mod]; exact Nat.mod_eq_of_lt hPlt
  have e2 : (mP m &&& p) = (mP m &&& p % 512) := by
    have h1 : (511 &&& p) = p % 512 := by rw [Nat.and_comm, show (511 : Nat) = 2 ^ 9 - 1 from rfl, Nat.and_two_pow_sub_one_eq_mod]
    rw [← h1, ← Nat.and_assoc, e0]
  rw [e1, e2]
  obtain ⟨R, hR⟩ := bv_of (show p % 512 < 18446744073709551616 by omega)
  rw [← hP, ← hR] at *
  have h5 : (511 : Nat) = (511#64).toNat := rfl
  rw [h5, ← andnot_nat, ← andnot_nat, ← BitVec.toNat_and]
  congr 1
  rw [← BitVec.and_assoc]
  congr 1
  apply BitVec.eq_of_toNat_eq
  rw [BitVec.toNat_and]
  exact e0
theorem andM_bits (m p : Nat) (hm : m < 18446744073709551616) : bits .andNot .u64 (m : Int) (((511 - (511 &&& p)) * 4294967296 : Nat) : Int) = ((andM m p : Nat) : Int) := by
  have h := all_less p
  rw [bits_andnot hm (by omega), and_high m _ h, and_less]
  rfl
theorem kept_zero : Kept 0 0 0 := ⟨by omega, by unfold keeps; rw [if_pos rfl]; decide, fun k hk => by omega⟩
theorem enc_zero : EncRel 0 0 0 0 0 true := .inl ⟨by omega, by omega, kept_zero, by decide, by decide, by decide⟩
theorem permBits_any (x : Nat) (hx : x < 512) (w : World) (hT : Tab w) : Calls Tryd.prog 49 #[.int .u64 ((x : Nat) : Int)] w (Makes (.int .u64 ((x * 4294967296 : Nat) : Int)) w) := by
  have h := fun W hW => make_any (0#64) (0#64) x 0 0 0 0 0 true (by omega) (by omega) enc_zero W hW
  have e1 : mkO (0#64).toNat (0#64).toNat x 0 0 0 0 0 true = true := by
    unfold mkO
    rw [decide_eq_true (show x ≤ 511 by omega)]
    decide +kernel
  rw [e1] at h
  have e2 : mkM x 0 0 0 0 true = x * 4294967296 := by
    unfold mkM
    rw [if_pos rfl]
    unfold metaN wordN
    omega
  rw [e2] at h
  exact permBits_let _ _ _ _ h w hT
theorem and_any (q : Bool) (m a p : Nat) (hm : m < 18446744073709551616) (hp : p < 18446744073709551616) (w : World) (hT : Tab w) : Calls Tryd.prog 17 #[.agg #[.bool (q), .int .u64 ((m : Nat) : Int), .int .u64 ((a : Nat) : Int)], .int .u64 ((p : Nat) : Int)] w (Makes (.agg #[.bool (openB q m a), .int .u64 ((andM m p : Nat) : Int), .int .u64 ((a : Nat) : Int)]) w) :=
  and_let _ _ _ _ _ _ _ _ (fun W hW => permBits_any (511 - (511 &&& p)) (all_less p) W hW) (fun W hW => isopen_any q m a hm W hW) (bits_andnot (a := 511) (by omega) hp) (andM_bits m p hm) w hT

/-- A capability of another type, where that is allowed. -/
theorem chg_any (q may : Bool) (m a k : Nat) (hm : m < 18446744073709551616) (h : may = true → q = true ∧ rightB m a = true ∧ k < 4096) (w : World) (hT : Tab w) :
    Calls Tryd.prog 54 #[.agg #[.bool (q), .int .u64 ((m : Nat) : Int), .int .u64 ((a : Nat) : Int)], .bool may, .func (.func 55) #[] #[], .int .u64 ((k : Nat) : Int)] w (Makes (.agg #[.bool (may), .int .u64 ((typedM may m k : Nat) : Int), .int .u64 ((a : Nat) : Int)]) w) := by
  cases may with
  | false =>
    rw [typed_no]
    exact chg_u_no _ _ _ _ (fun W hW => clear_any _ _ _ W hW) w hT
  | true =>
    obtain ⟨h1, h2, h3⟩ := h rfl
    subst h1
    rw [typed_yes]
    exact chg_u_yes _ _ _ _ _ _ _ (fun W hW => wtype_any true m a k h2 hm h3 W hW) w hT

theorem chgb_any (q may : Bool) (m a : Nat) (w : World) (hT : Tab w) :
    Calls Tryd.prog 64 #[.agg #[.bool (q), .int .u64 ((m : Nat) : Int), .int .u64 ((a : Nat) : Int)], .bool may, .func (.func 39) #[] #[], .bool true] w (Makes (.agg #[.bool (may), .int .u64 ((m : Nat) : Int), .int .u64 ((a : Nat) : Int)]) w) := by
  cases may with
  | false => exact chg_b_no _ _ _ _ (fun W hW => clear_any _ _ _ W hW) w hT
  | true => exact chg_b_yes _ _ _ _ _ _ _ (fun W hW => wtag_any _ _ _ _ W hW) w hT

theorem seal_any (q r : Bool) (m a n b : Nat) (hm : m < 18446744073709551616) (hn : n < 18446744073709551616) (hb : b < 18446744073709551616) (w : World) (hT : Tab w) :
    Calls Tryd.prog 20 #[.agg #[.bool (q), .int .u64 ((m : Nat) : Int), .int .u64 ((a : Nat) : Int)], .agg #[.bool (r), .int .u64 ((n : Nat) : Int), .int .u64 ((b : Nat) : Int)]] w (Makes (.agg #[.bool (sealQ q m a r n b), .int .u64 ((typedM (sealQ q m a r n b) m b : Nat) : Int), .int .u64 ((a : Nat) : Int)]) w) := by
  have h1 := fun W hW => isopen_any q m a hm W hW
  have h2 := fun W hW => allows_any r n b 32 hn hb (by omega) W hW
  have h9 := fun W hW => chg_any q (sealQ q m a r n b) m a b hm (fun h => by
    obtain ⟨⟨k1, k2⟩, _, _, k3, _⟩ := sealQ_tag h
    exact ⟨k1, k2, k3⟩) W hW
  generalize ht : sealQ q m a r n b = t at *
  unfold sealQ at ht
  cases ho : openB q m a with
  | false =>
    rw [ho] at h1 ht
    rw [Bool.false_and] at ht
    subst ht
    exact seal_1 _ _ _ _ _ _ _ _ _ h1 h9 w hT
  | true =>
    rw [ho] at h1 ht
    rw [Bool.true_and] at ht
    cases hl : allowsB r n b 32 with
    | false =>
      rw [hl] at h2 ht
      rw [Bool.false_and] at ht
      subst ht
      exact seal_2 _ _ _ _ _ _ _ _ _ h1 h2 h9 w hT
    | true =>
      rw [hl] at h2 ht
      rw [Bool.true_and] at ht
      by_cases hB : 16 ≤ b
      · refine seal_4 _ _ _ _ _ _ _ _ _ _ h1 h2 h9 (by omega) ?_ w hT
        rw [← ht]
        exact decide_eq_decide.mpr (by omega)
      · rw [decide_eq_false (by omega)] at ht
        subst ht
        exact seal_3 _ _ _ _ _ _ _ _ _ h1 h2 h9 (by omega) w hT

theorem unsealQ_tag {q : Bool} {m a : Nat} {r : Bool} {n b : Nat} (h : unsealQ q m a r n b = true) : (q = true ∧ rightB m a = true) ∧ 16 ≤ mK m ∧ allowsB r n b 64 = true ∧ b = mK m := by
  unfold unsealQ at h
  rw [Bool.and_eq_true, Bool.and_eq_true, Bool.and_eq_true, decide_eq_true_eq, decide_eq_true_eq] at h
  exact ⟨live_tag h.1, h.2.1, h.2.2.1, h.2.2.2⟩
theorem unseal_any (q r : Bool) (m a n b : Nat) (hm : m < 18446744073709551616) (hn : n < 18446744073709551616) (hb : b < 18446744073709551616) (w : World) (hT : Tab w) :
    Calls Tryd.prog 22 #[.agg #[.bool (q), .int .u64 ((m : Nat) : Int), .int .u64 ((a : Nat) : Int)], .agg #[.bool (r), .int .u64 ((n : Nat) : Int), .int .u64 ((b : Nat) : Int)]] w (Makes (.agg #[.bool (unsealQ q m a r n b), .int .u64 ((typedM (unsealQ q m a r n b) m 0 : Nat) : Int), .int .u64 ((a : Nat) : Int)]) w) := by
  have h0 := fun W hW => kind_any q m a hm W hW
  have h1 := fun W hW => live_any q m a hm W hW
  have h2 := fun W hW => allows_any r n b 64 hn hb (by omega) W hW
  have h9 := fun W hW => chg_any q (unsealQ q m a r n b) m a 0 hm (fun h => by
    obtain ⟨⟨k1, k2⟩, _⟩ := unsealQ_tag h
    exact ⟨k1, k2, by omega⟩) W hW
  generalize ht : unsealQ q m a r n b = t at *
  unfold unsealQ at ht
  cases ho : liveB q m a with
  | false =>
    rw [ho] at h1 ht
    rw [Bool.false_and] at ht
    subst ht
    exact unseal_1 _ _ _ _ _ _ _ _ _ _ h0 h1 h9 w hT
  | true =>
    rw [ho] at h1 ht
    rw [Bool.true_and] at ht
    by_cases hK : 16 ≤ mK m
    · rw [decide_eq_true hK, Bool.true_and] at ht
      cases hl : allowsB r n b 64 with
      | false =>
        rw [hl] at h2 ht
        rw [Bool.false_and] at ht
        subst ht
        exact unseal_3 _ _ _ _ _ _ _ _ _ _ h0 h1 h2 h9 (by omega) w hT
      | true =>
        rw [hl] at h2 ht
        rw [Bool.true_and] at ht
        by_cases hE : b = mK m
        · rw [decide_eq_true hE] at ht
          subst ht
          exact unseal_5 _ _ _ _ _ _ _ _ _ _ h0 h1 h2 h9 (by omega) (by rw [beq_iff_eq]; omega) w hT
        · rw [decide_eq_false hE] at ht
          subst ht
          exact unseal_4 _ _ _ _ _ _ _ _ _ _ h0 h1 h2 h9 (by omega) (by rw [beq_eq_false_iff_ne]; omega) w hT
    · rw [decide_eq_false hK, Bool.false_and] at ht
      subst ht
      exact unseal_2 _ _ _ _ _ _ _ _ _ _ h0 h1 h9 (by omega) w hT

theorem enter_any (q : Bool) (m a : Nat) (hm : m < 18446744073709551616) (w : World) (hT : Tab w) : Calls Tryd.prog 24 #[.agg #[.bool (q), .int .u64 ((m : Nat) : Int), .int .u64 ((a : Nat) : Int)]] w (Makes (.agg #[.bool (enterQ q m a), .int .u64 ((typedM (enterQ q m a) m 1 : Nat) : Int), .int .u64 ((a : Nat) : Int)]) w) := by
  have h1 := fun W hW => isopen_any q m a hm W hW
  have h2 := fun W hW => grants_any q m a 4 hm (by omega) W hW
  have h9 := fun W hW => chg_any q (enterQ q m a) m a 1 hm (fun h => by
    obtain ⟨⟨k1, k2⟩, _⟩ := enterQ_tag h
    exact ⟨k1, k2, by omega⟩) W hW
  generalize ht : enterQ q m a = t at *
  unfold enterQ at ht
  cases ho : openB q m a with
  | false =>
    rw [ho] at h1 ht
    rw [Bool.false_and] at ht
    subst ht
    exact enter_1 _ _ _ _ _ _ h1 h9 w hT
  | true =>
    rw [ho] at h1 ht
    rw [Bool.true_and] at ht
    subst ht
    exact enter_2 _ _ _ _ _ _ _ h1 h2 h9 w hT

theorem opened_any (q : Bool) (m a : Nat) (hm : m < 18446744073709551616) (w : World) (hT : Tab w) : Calls Tryd.prog 26 #[.agg #[.bool (q), .int .u64 ((m : Nat) : Int), .int .u64 ((a : Nat) : Int)]] w (Makes (.agg #[.bool (q), .int .u64 ((typedM (opensQ q m a) m 0 : Nat) : Int), .int .u64 ((a : Nat) : Int)]) w) := by
  have h0 := fun W hW => kind_any q m a hm W hW
  have h1 := fun W hW => live_any q m a hm W hW
  unfold opensQ
  cases ho : liveB q m a with
  | false =>
    rw [ho] at h1
    rw [Bool.false_and, typed_no]
    exact opened_1 _ _ _ h1 w hT
  | true =>
    rw [ho] at h1
    rw [Bool.true_and]
    obtain ⟨l1, l2⟩ := live_tag ho
    by_cases hK : mK m = 1
    · rw [decide_eq_true hK, typed_yes]
      exact opened_3 _ _ _ _ _ _ _ h1 h0 (fun W hW => wtype_any q m a 0 l2 hm (by omega) W hW) (by rw [beq_iff_eq]; omega) w hT
    · rw [decide_eq_false hK, typed_no]
      exact opened_2 _ _ _ _ h1 h0 (by rw [beq_eq_false_iff_ne]; omega) w hT

theorem build_any (q r : Bool) (m a n b : Nat) (hm : m < 18446744073709551616) (hn : n < 18446744073709551616) (w : World) (hT : Tab w) :
    Calls Tryd.prog 28 #[.agg #[.bool (q), .int .u64 ((m : Nat) : Int), .int .u64 ((a : Nat) : Int)], .agg #[.bool (r), .int .u64 ((n : Nat) : Int), .int .u64 ((b : Nat) : Int)]] w (Makes (.agg #[.bool (buildQ m a r n b), .int .u64 ((m : Nat) : Int), .int .u64 ((a : Nat) : Int)]) w) := by
  have h0 := fun W hW => kind_any q m a hm W hW
  have h1 := fun W hW => isopen_any r n b hn W hW
  have h2 := fun W hW => cwithin_any q r m a n b hm hn W hW
  have h9 := fun W hW => chgb_any q (buildQ m a r n b) m a W hW
  generalize ht : buildQ m a r n b = t at *
  unfold buildQ at ht
  cases ho : openB r n b with
  | false =>
    rw [ho] at h1 ht
    rw [Bool.false_and] at ht
    subst ht
    exact build_1 _ _ _ _ _ _ _ _ _ _ h0 h1 h9 w hT
  | true =>
    rw [ho] at h1 ht
    rw [Bool.true_and] at ht
    cases hl : withinC m a n b with
    | false =>
      rw [hl] at h2 ht
      rw [Bool.false_and] at ht
      subst ht
      exact build_2 _ _ _ _ _ _ _ _ _ _ h0 h1 h2 h9 w hT
    | true =>
      rw [hl] at h2 ht
      rw [Bool.true_and] at ht
      by_cases hK : mK m = 0
      · rw [decide_eq_true (by omega)] at ht
        subst ht
        exact build_3 _ _ _ _ _ _ _ _ _ _ h0 h1 h2 h9 (by rw [beq_iff_eq]; omega) w hT
      · refine build_4 _ _ _ _ _ _ _ _ _ _ _ h0 h1 h2 h9 (by rw [beq_eq_false_iff_ne]; omega) ?_ w hT
        rw [← ht, Bool.eq_iff_iff, beq_iff_eq, decide_eq_true_eq]
        omega

theorem roundn_any {a n e D U m M : Nat} (h : Bnd m a n e D U M) (W : World) : Calls Tryd.prog 45 #[.agg #[.int .u64 ((a : Nat) : Int), .int .u64 ((a + n : Nat) : Int)]] W (Makes (.tuple #[.agg #[.int .u64 ((D : Nat) : Int), .int .u64 ((U : Nat) : Int)], .bool true]) W) := by
  obtain ⟨h1, h2, rfl, rfl, _⟩ := h
  exact rounded_of _ _ _ _ _ _ (fun W => extended_any a (a + n) e (by omega) (by omega) h2 W) W
theorem sadd_nat {a n : Nat} (ha : a < 18446744073709551616) (hn : n < 18446744073709551616) (W : World) : Calls Tryd.prog 44 #[.int .u64 ((a : Nat) : Int), .int .u64 ((n : Nat) : Int)] W (Makes (.tuple #[.int .u64 (((a + n) % 18446744073709551616 : Nat) : Int), .bool (decide (18446744073709551616 ≤ a + n))]) W) := by
  obtain ⟨A, rfl⟩ := bv_of ha
  obtain ⟨B, rfl⟩ := bv_of hn
  rw [← BitVec.toNat_add]
  exact (sadd_any A B W).mono fun _ _ h => quiet_makes h

theorem bound_yes (q x : Bool) (m a n e D U M : Nat) (hm : m < 18446744073709551616) (h : Bnd m a n e D U M) (w : World) (hT : Tab w) :
    Calls Tryd.prog 15 #[.agg #[.bool (q), .int .u64 ((m : Nat) : Int), .int .u64 ((a : Nat) : Int)], .int .u64 ((n : Nat) : Int), .bool x] w (Makes (.agg #[.bool (bndQ q m a n x D U), .int .u64 ((M : Nat) : Int), .int .u64 ((a : Nat) : Int)]) w) := by
  have hle := h.le
  have hok := h.ok
  obtain ⟨b1, b2, b3, b4, b5, b6, b7⟩ := h.made
  have c1 : ∀ W, Tab W → _ := fun W (_ : Tab W) => sadd_nat (a := a) (n := n) (by omega) (by omega) W
  have c2 : ∀ W, Tab W → _ := fun W (_ : Tab W) => roundn_any h W
  rw [Nat.mod_eq_of_lt (show a + n < 18446744073709551616 by omega), decide_eq_false (show ¬ 18446744073709551616 ≤ a + n by omega)] at c1
  have c4 := fun W hW => look_any q m a hm W hW
  have c5 : ∀ W, Tab W → Calls Tryd.prog 46 #[.agg #[.int .u64 ((D : Nat) : Int), .int .u64 ((U : Nat) : Int), .int .u64 ((mP m : Nat) : Int), .int .u64 ((mK m : Nat) : Int)], .int .u64 ((a : Nat) : Int)] W (Makes (.tuple #[.agg #[.bool (false), .int .u64 ((M : Nat) : Int), .int .u64 ((a : Nat) : Int)], .bool true]) W) := fun W hW => by
    obtain ⟨DB, hD⟩ := bv_of (show D < 18446744073709551616 by omega)
    obtain ⟨UB, hU⟩ := bv_of (show U < 18446744073709551616 by omega)
    have k := make_any DB UB (mP m) (mK m) a _ _ e true (by unfold mP; omega) (by unfold mK; omega) (by rw [hD, hU]; exact h.enc) W hW
    rw [hD, hU, h.makes] at k
    have e1 : mkM (mP m) (mK m) (D / 2 ^ (e - 1) % 16384) (U / 2 ^ (e - 1) % 4096) e true = M := by rw [h.hM]; unfold mkM; rw [if_pos rfl]
    have e2 : mkA a true = a := by unfold mkA; rw [if_pos rfl]
    rw [e1, e2] at k
    exact k
  have c6 := fun W hW => isopen_any q m a hm W hW
  have c7 := fun W hW => cwithin_any false q M a m a b7 hm W hW
  unfold bndQ
  cases ho : openB q m a with
  | false =>
    rw [ho] at c6
    rw [Bool.false_and]
    exact bnd_1 _ _ _ _ _ _ _ _ _ _ _ _ _ _ c1 c2 c4 c5 c6 w hT
  | true =>
    rw [ho] at c6
    obtain ⟨o1, o2, o3⟩ := open_tag ho
    have hw : withinC M a m a = decide (lB m a ≤ D ∧ U ≤ lT m a) := by
      unfold withinC
      rw [b6, o2, b2, b3, b4, sub_refl]
      simp
    rw [hw] at c7
    rw [Bool.true_and]
    cases hd : decide (lB m a ≤ D ∧ U ≤ lT m a) with
    | false =>
      rw [hd] at c7
      rw [Bool.false_and]
      exact bnd_2 _ _ _ _ _ _ _ _ _ _ _ _ _ _ c1 c2 c4 c5 c6 c7 w hT
    | true =>
      rw [hd] at c7
      rw [Bool.true_and]
      cases x with
      | false =>
        rw [Bool.not_false, Bool.true_or]
        exact bnd_3 _ _ _ _ _ _ _ _ _ _ _ _ _ c1 c2 c4 c5 c6 c7 w hT
      | true =>
        rw [Bool.not_true, Bool.false_or, show decide (D = a ∧ U = a + n) = decide ((D : Int) = (a : Int) ∧ (U : Int) = ((a + n : Nat) : Int)) from decide_eq_decide.mpr (by omega)]
        exact bnd_4 _ _ _ _ _ _ _ _ _ _ _ _ _ c1 c2 c4 c5 c6 c7 w hT

theorem kept_top : Kept 281474976710656 281474976710656 0 := ⟨by omega, by unfold keeps; rw [if_pos rfl, steps_zero]; decide, fun k hk => by omega⟩
theorem bound_top (q x : Bool) (m : Nat) (hm : m < 18446744073709551616) (w : World) (hT : Tab w) :
    Calls Tryd.prog 15 #[.agg #[.bool (q), .int .u64 ((m : Nat) : Int), .int .u64 ((281474976710656 : Nat) : Int)], .int .u64 ((0 : Nat) : Int), .bool x] w (Makes (.agg #[.bool (false), .int .u64 ((m : Nat) : Int), .int .u64 ((281474976710656 : Nat) : Int)]) w) := by
  have c1 : ∀ W, Tab W → _ := fun W (_ : Tab W) => sadd_nat (a := 281474976710656) (n := 0) (by omega) (by omega) W
  rw [decide_eq_false (by omega), Nat.mod_eq_of_lt (by omega)] at c1
  have c2 : ∀ W, Tab W → _ := fun W (_ : Tab W) => rounded_of _ _ _ _ _ _ (fun W => extended_any 281474976710656 281474976710656 0 (by omega) (by omega) kept_top W) W
  have e1 : dn 281474976710656 (0 - 1) = 281474976710656 := by decide
  have e2 : up 281474976710656 (0 - 1) = 281474976710656 := by decide
  rw [e1, e2] at c2
  have c3 := fun W hW => clear_any q (m : Int) ((281474976710656 : Nat) : Int) W hW
  have c4 := fun W hW => look_any q m 281474976710656 hm W hW
  have c5 : ∀ W, Tab W → Calls Tryd.prog 46 #[.agg #[.int .u64 ((281474976710656 : Nat) : Int), .int .u64 ((281474976710656 : Nat) : Int), .int .u64 ((mP m : Nat) : Int), .int .u64 ((mK m : Nat) : Int)], .int .u64 ((281474976710656 : Nat) : Int)] W (Makes (.tuple #[.agg #[.bool (false), .int .u64 ((0 : Nat) : Int), .int .u64 ((0 : Nat) : Int)], .bool false]) W) := fun W hW => by
    obtain ⟨TB, hTB⟩ := bv_of (show 281474976710656 < 18446744073709551616 by omega)
    have k := make_any TB TB (mP m) (mK m) 281474976710656 0 0 0 true (by unfold mP; omega) (by unfold mK; omega) (by rw [hTB]; exact .inl ⟨by omega, by omega, kept_top, by decide, by decide, by decide⟩) W hW
    have e3 : mkO TB.toNat TB.toNat (mP m) (mK m) 281474976710656 0 0 0 true = false := by
      rw [hTB]
      unfold mkO
      rw [show dO 0 0 0 281474976710656 = false by decide +kernel]
      simp
    rw [e3, hTB] at k
    have e4 : mkM (mP m) (mK m) 0 0 0 false = 0 := by unfold mkM; rw [if_neg (by simp)]
    have e5 : mkA 281474976710656 false = 0 := by unfold mkA; rw [if_neg (by simp)]
    rw [e4, e5] at k
    exact k
  exact bnd_7 _ _ _ _ _ _ _ _ _ _ _ _ _ _ _ c1 c2 c3 c4 c5 w hT

theorem bound_no (q x : Bool) (m a n : Nat) (hm : m < 18446744073709551616) (ha : a < 18446744073709551616) (hn : n < 18446744073709551616) (h : ¬ (a < 281474976710656 ∧ a + n ≤ 281474976710656)) (w : World) (hT : Tab w) :
    Calls Tryd.prog 15 #[.agg #[.bool (q), .int .u64 ((m : Nat) : Int), .int .u64 ((a : Nat) : Int)], .int .u64 ((n : Nat) : Int), .bool x] w (Makes (.agg #[.bool (false), .int .u64 ((m : Nat) : Int), .int .u64 ((a : Nat) : Int)]) w) := by
  have c1 : ∀ W, Tab W → _ := fun W (_ : Tab W) => sadd_nat ha hn W
  have c3 := fun W hW => clear_any q (m : Int) (a : Int) W hW
  by_cases hov : 18446744073709551616 ≤ a + n
  · rw [decide_eq_true hov] at c1
    obtain ⟨TB, hTB⟩ := bv_of (show (a + n) % 18446744073709551616 < 18446744073709551616 by omega)
    obtain ⟨AB, hAB⟩ := bv_of ha
    rw [← hTB] at c1
    by_cases hv : AB.toNat ≤ TB.toNat ∧ TB.toNat ≤ 281474976710656
    · omega
    · have c2 := fun W (_ : Tab W) => rounded_of _ _ _ _ _ _ (fun W => extended_not AB TB hv W) W
      rw [hAB] at c2
      exact bnd_6 _ _ _ _ _ _ _ _ _ c1 c2 c3 w hT
  · rw [decide_eq_false hov, Nat.mod_eq_of_lt (show a + n < 18446744073709551616 by omega)] at c1
    by_cases hv : a + n ≤ 281474976710656
    · -- the address is the greatest one, and none is asked for
      have ha2 : a = 281474976710656 := by omega
      have hn2 : n = 0 := by omega
      subst ha2 hn2
      exact bound_top q x m hm w hT
    · obtain ⟨TB, hTB⟩ := bv_of (show a + n < 18446744073709551616 by omega)
      obtain ⟨AB, hAB⟩ := bv_of ha
      have c2 := fun W (_ : Tab W) => rounded_of _ _ _ _ _ _ (fun W => extended_not AB TB (by omega) W) W
      rw [hAB, hTB] at c2
      exact bnd_5 _ _ _ _ _ _ _ _ c1 c2 c3 w hT
end Go.Proofs.YtbncoiejbclpjaaDoor
