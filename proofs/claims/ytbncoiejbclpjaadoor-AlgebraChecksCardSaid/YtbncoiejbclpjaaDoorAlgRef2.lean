/-
  What the document's own answers of layer 6 are, in numbers.
-/
import Derived.Test.YtbncoiejbclpjaaDoorAlgRef
import Derived.Test.YtbncoiejbclpjaaDoorCapRef3
import Derived.Test.YtbncoiejbclpjaaDoorPermRef
import Derived.Test.YtbncoiejbclpjaaDoorAlgLaw
namespace Go.Proofs.YtbncoiejbclpjaaDoor
open Go.RowKit Words FieldMath BoundsMath

theorem rlive_any (q : Bool) (m a : Nat) (hm : m < 18446744073709551616) (w : World) (hT : Tab w) : Calls Tryd.prog 61 #[.agg #[.bool (q), .int .u64 ((m : Nat) : Int), .int .u64 ((a : Nat) : Int)]] w (Makes (.bool (liveB q m a)) w) := by
  unfold liveB
  cases q with
  | false =>
    rw [Bool.false_and]
    exact rlive_no _ _ w hT
  | true =>
    rw [Bool.true_and]
    exact rlive_yes _ _ _ (fun W _ => rright_any true m a hm W) w hT

theorem rlives_any (q : Bool) (m a : Nat) (hm : m < 18446744073709551616) (w : World) (hT : Tab w) : Calls Tryd.prog 34 #[.agg #[.bool (q), .int .u64 ((m : Nat) : Int), .int .u64 ((a : Nat) : Int)]] w (Makes (.bool (liveB q m a)) w) := rlives_let _ _ _ _ (fun W hW => rlive_any q m a hm W hW) w hT

theorem rkind_any (q : Bool) (m a : Nat) (w : World) (hT : Tab w) : Calls Tryd.prog 62 #[.agg #[.bool (q), .int .u64 ((m : Nat) : Int), .int .u64 ((a : Nat) : Int)]] w (Makes (.int .u64 ((mK m : Nat) : Int)) w) :=
  rkind_let _ _ _ ((m / 281474976710656 : Nat) : Int) _ (by omega) (by rw [Int.tmod_eq_emod_of_nonneg (by omega)]; unfold mK; omega) w hT

theorem rperms_any (q : Bool) (m a : Nat) (w : World) (hT : Tab w) : Calls Tryd.prog 50 #[.agg #[.bool (q), .int .u64 ((m : Nat) : Int), .int .u64 ((a : Nat) : Int)]] w (Makes (.int .u64 ((mP m : Nat) : Int)) w) :=
  rperms_let _ _ _ ((m / 4294967296 : Nat) : Int) _ (by omega) (by rw [Int.tmod_eq_emod_of_nonneg (by omega)]; unfold mP; omega) w hT

theorem risopen_any (q : Bool) (m a : Nat) (hm : m < 18446744073709551616) (w : World) (hT : Tab w) : Calls Tryd.prog 43 #[.agg #[.bool (q), .int .u64 ((m : Nat) : Int), .int .u64 ((a : Nat) : Int)]] w (Makes (.bool (openB q m a)) w) := by
  have h1 := fun W hW => rlive_any q m a hm W hW
  unfold openB
  cases hl : liveB q m a with
  | false =>
    rw [hl] at h1
    rw [Bool.false_and]
    exact ropen_no _ _ _ h1 w hT
  | true =>
    rw [hl] at h1
    rw [Bool.true_and]
    refine ropen_yes _ _ _ _ _ h1 (fun W hW => rkind_any q m a W hW) ?_ w hT
    rw [Bool.eq_iff_iff]; simp

theorem rclear_any (q : Bool) (M A : Int) (w : World) (hT : Tab w) : Calls Tryd.prog 11 #[.agg #[.bool q, .int .u64 M, .int .u64 A]] w (Makes (.agg #[.bool false, .int .u64 M, .int .u64 A]) w) := rclear_let q M A w hT

theorem raddress_any (q : Bool) (m a n : Nat) (hm : m < 18446744073709551616) (w : World) (hT : Tab w) : Calls Tryd.prog 13 #[.agg #[.bool (q), .int .u64 ((m : Nat) : Int), .int .u64 ((a : Nat) : Int)], .int .u64 ((n : Nat) : Int)] w (Makes (.agg #[.bool (addrQ q m a n), .int .u64 ((m : Nat) : Int), .int .u64 ((n : Nat) : Int)]) w) := by
  have h1 := fun W hW => risopen_any q m a hm W hW
  have h3 := fun W (_ : Tab W) => rlook_any q m a W
  have h4 := fun W (_ : Tab W) => rlook_any false m n W
  unfold addrQ
  cases hl : openB q m a with
  | false =>
    rw [hl] at h1
    rw [Bool.false_and]
    exact raddr_1 _ _ _ _ _ _ _ _ _ _ _ _ _ _ h1 h3 h4 w hT
  | true =>
    rw [hl] at h1
    rw [Bool.true_and]
    cases ho : lO m n with
    | false =>
      rw [ho] at h4
      rw [Bool.false_and]
      exact raddr_2 _ _ _ _ _ _ _ _ _ _ _ _ _ h1 h3 h4 w hT
    | true =>
      rw [ho] at h4
      rw [Bool.true_and, show decide (lB m a = lB m n ∧ lT m a = lT m n) = decide (((lB m a : Nat) : Int) = ((lB m n : Nat) : Int) ∧ ((lT m a : Nat) : Int) = ((lT m n : Nat) : Int)) from decide_eq_decide.mpr (by omega)]
      exact raddr_3 _ _ _ _ _ _ _ _ _ _ _ _ _ h1 h3 h4 w hT

theorem wrap_int {x : Int} {n : Nat} (h : x % 18446744073709551616 = (n : Int)) : IntKind.u64.wrap x = (n : Int) := h
theorem rand_any (q : Bool) (m a p : Nat) (hm : m < 18446744073709551616) (hp : p < 18446744073709551616) (w : World) (hT : Tab w) : Calls Tryd.prog 18 #[.agg #[.bool (q), .int .u64 ((m : Nat) : Int), .int .u64 ((a : Nat) : Int)], .int .u64 ((p : Nat) : Int)] w (Makes (.agg #[.bool (openB q m a), .int .u64 ((andM m p : Nat) : Int), .int .u64 ((a : Nat) : Int)]) w) := by
  have hl := mP_lt m
  have hle := and_le_part (mP m) p
  have hsub : (mP m - (mP m &&& p)) * 4294967296 ≤ m := by
    generalize mP m &&& p = x at *
    unfold mP at *
    omega
  refine rand_let _ _ _ _ _ _ _ ((((mP m - (mP m &&& p)) * 4294967296 : Nat)) : Int) _ (fun W hW => risopen_any q m a hm W hW) (fun W hW => rperms_any q m a W hW) (bits_andnot (by omega) hp) ?_ ?_ w hT
  · generalize mP m &&& p = x at *
    exact wrap_int (by omega)
  · unfold andM
    generalize (mP m - (mP m &&& p)) * 4294967296 = x at *
    exact wrap_int (by omega)

theorem rtyped_any (q : Bool) (m a k : Nat) (h2 : m / 1152921504606846976 = 0) (hk : k < 4096) (w : World) (hT : Tab w) : Calls Tryd.prog 57 #[.agg #[.bool (q), .int .u64 ((m : Nat) : Int), .int .u64 ((a : Nat) : Int)], .int .u64 ((k : Nat) : Int)] w (Makes (.agg #[.bool (true), .int .u64 ((setK m k : Nat) : Int), .int .u64 ((a : Nat) : Int)]) w) := by
  have hle : mK m * 281474976710656 ≤ m := by unfold mK; omega
  have hlt := mK_lt m
  have h8 := (setK_parts h2 hk).2.2.2.2.2.2.2
  unfold setK at *
  refine rtyped_let _ _ _ _ _ ((mK m * 281474976710656 : Nat) : Int) ((m - mK m * 281474976710656 : Nat) : Int) ((k * 281474976710656 : Nat) : Int) _ (fun W hW => rkind_any q m a W hW) ?_ ?_ ?_ ?_ w hT
  · exact wrap_int (by omega)
  · exact wrap_int (by omega)
  · exact wrap_int (by omega)
  · exact wrap_int (by omega)

theorem rwith_any (p q : Nat) (hp : p < 18446744073709551616) (hq : q < 18446744073709551616) (W : World) : Calls Tryd.prog 85 #[.int .u64 ((p : Nat) : Int), .int .u64 ((q : Nat) : Int)] W (Makes (.bool (subN p q)) W) := by
  have e := sub_within p q hp hq
  obtain ⟨P, hP⟩ := bv_of hp
  obtain ⟨Q, hQ⟩ := bv_of hq
  have e2 : withinB P Q = subN p q := by
    rw [← e]
    unfold withinB pwithinB
    have h1 : BitVec.ofNat 64 p = P := BitVec.eq_of_toNat_eq (by rw [BitVec.toNat_ofNat, hP]; exact Nat.mod_eq_of_lt hp)
    have h2 : BitVec.ofNat 64 q = Q := BitVec.eq_of_toNat_eq (by rw [BitVec.toNat_ofNat, hQ]; exact Nat.mod_eq_of_lt hq)
    rw [h1, h2]
  rw [← e2, ← hP, ← hQ]
  exact (prwithin_any P Q W).mono fun _ _ h => ⟨h.1, by rw [← h.2]; exact Below.refl _ _⟩

theorem rmay_any (q : Bool) (m a p : Nat) (hm : m < 18446744073709551616) (hp : p < 18446744073709551616) (w : World) (hT : Tab w) : Calls Tryd.prog 56 #[.agg #[.bool (q), .int .u64 ((m : Nat) : Int), .int .u64 ((a : Nat) : Int)], .int .u64 ((p : Nat) : Int)] w (Makes (.bool (allowsB q m a p)) w) := by
  have h1 := fun W hW => risopen_any q m a hm W hW
  have h2 := fun W (_ : Tab W) => rwith_any p (mP m) hp (by have := mP_lt m; omega) W
  have h3 := fun W (_ : Tab W) => rlook_any q m a W
  unfold allowsB
  cases ho : openB q m a with
  | false =>
    rw [ho] at h1
    rw [Bool.false_and]
    exact rmay_1 _ _ _ _ _ _ _ _ _ h3 h1 w hT
  | true =>
    rw [ho] at h1
    rw [Bool.true_and]
    cases hs : subN p (mP m) with
    | false =>
      rw [hs] at h2
      rw [Bool.false_and]
      exact rmay_2 _ _ _ _ _ _ _ _ _ h3 h1 h2 w hT
    | true =>
      rw [hs] at h2
      rw [Bool.true_and]
      by_cases hD : lB m a ≤ a
      · refine rmay_4 _ _ _ _ _ _ _ _ _ _ h3 h1 h2 (by omega) ?_ w hT
        exact decide_eq_decide.mpr (by omega)
      · rw [decide_eq_false (by omega)]
        exact rmay_3 _ _ _ _ _ _ _ _ _ h3 h1 h2 (by omega) w hT

theorem rseal_any (q r : Bool) (m a n b : Nat) (hm : m < 18446744073709551616) (hn : n < 18446744073709551616) (w : World) (hT : Tab w) :
    Calls Tryd.prog 21 #[.agg #[.bool (q), .int .u64 ((m : Nat) : Int), .int .u64 ((a : Nat) : Int)], .agg #[.bool (r), .int .u64 ((n : Nat) : Int), .int .u64 ((b : Nat) : Int)]] w (Makes (.agg #[.bool (sealQ q m a r n b), .int .u64 ((typedM (sealQ q m a r n b) m b : Nat) : Int), .int .u64 ((a : Nat) : Int)]) w) := by
  have h1 := fun W hW => risopen_any q m a hm W hW
  have h6 := fun W hW => rmay_any r n b 32 hn (by omega) W hW
  have h5 := fun W hW => rclear_any q (m : Int) (a : Int) W hW
  cases ht : sealQ q m a r n b with
  | true =>
    obtain ⟨⟨k1, k2⟩, k3, k4, k5, k6⟩ := sealQ_tag ht
    rw [open_of k1 k2 k3] at h1
    rw [k6] at h6
    rw [typed_yes]
    exact rseal_5 _ _ _ _ _ _ _ _ _ h1 h6 (fun W hW => rtyped_any q m a b (right_lt k2).2.1 k5 W hW) (by omega) (by omega) w hT
  | false =>
    rw [typed_no]
    unfold sealQ at ht
    cases ho : openB q m a with
    | false =>
      rw [ho] at h1
      exact rseal_1 _ _ _ _ _ _ h1 h5 w hT
    | true =>
      rw [ho] at h1 ht
      rw [Bool.true_and] at ht
      cases hl : allowsB r n b 32 with
      | false =>
        rw [hl] at h6
        exact rseal_2 _ _ _ _ _ _ h1 h6 h5 w hT
      | true =>
        rw [hl] at h6 ht
        rw [Bool.true_and, decide_eq_false_iff_not] at ht
        by_cases hB : b < 16
        · exact rseal_3 _ _ _ _ _ _ h1 h6 h5 (by omega) w hT
        · exact rseal_4 _ _ _ _ _ _ h1 h6 h5 (by omega) (by omega) w hT

theorem runseal_any (q r : Bool) (m a n b : Nat) (hm : m < 18446744073709551616) (hn : n < 18446744073709551616) (w : World) (hT : Tab w) :
    Calls Tryd.prog 23 #[.agg #[.bool (q), .int .u64 ((m : Nat) : Int), .int .u64 ((a : Nat) : Int)], .agg #[.bool (r), .int .u64 ((n : Nat) : Int), .int .u64 ((b : Nat) : Int)]] w (Makes (.agg #[.bool (unsealQ q m a r n b), .int .u64 ((typedM (unsealQ q m a r n b) m 0 : Nat) : Int), .int .u64 ((a : Nat) : Int)]) w) := by
  have h1 := fun W hW => rlive_any q m a hm W hW
  have h2 := fun W hW => rkind_any q m a W hW
  have h6 := fun W hW => rmay_any r n b 64 hn (by omega) W hW
  have h5 := fun W hW => rclear_any q (m : Int) (a : Int) W hW
  cases ht : unsealQ q m a r n b with
  | true =>
    obtain ⟨⟨k1, k2⟩, k3, k4, k5⟩ := unsealQ_tag ht
    rw [show liveB q m a = true by unfold liveB; rw [k1, k2]; rfl] at h1
    rw [k4] at h6
    rw [typed_yes]
    exact runseal_5 _ _ _ _ _ _ _ _ _ _ h1 h2 h6 (fun W hW => rtyped_any q m a 0 (right_lt k2).2.1 (by omega) W hW) (by omega) (by rw [beq_iff_eq]; omega) w hT
  | false =>
    rw [typed_no]
    unfold unsealQ at ht
    cases ho : liveB q m a with
    | false =>
      rw [ho] at h1
      exact runseal_1 _ _ _ _ _ _ h1 h5 w hT
    | true =>
      rw [ho] at h1 ht
      rw [Bool.true_and] at ht
      by_cases hK : 16 ≤ mK m
      · rw [decide_eq_true hK, Bool.true_and] at ht
        cases hl : allowsB r n b 64 with
        | false =>
          rw [hl] at h6
          exact runseal_3 _ _ _ _ _ _ _ h1 h2 h6 h5 (by omega) w hT
        | true =>
          rw [hl] at h6 ht
          rw [Bool.true_and, decide_eq_false_iff_not] at ht
          exact runseal_4 _ _ _ _ _ _ _ h1 h2 h6 h5 (by omega) (by rw [beq_eq_false_iff_ne]; omega) w hT
      · exact runseal_2 _ _ _ _ _ _ _ h1 h2 h5 (by omega) w hT

theorem renter_any (q : Bool) (m a : Nat) (hm : m < 18446744073709551616) (w : World) (hT : Tab w) : Calls Tryd.prog 25 #[.agg #[.bool (q), .int .u64 ((m : Nat) : Int), .int .u64 ((a : Nat) : Int)]] w (Makes (.agg #[.bool (enterQ q m a), .int .u64 ((typedM (enterQ q m a) m 1 : Nat) : Int), .int .u64 ((a : Nat) : Int)]) w) := by
  have h1 := fun W hW => risopen_any q m a hm W hW
  have h7 := fun W hW => rperms_any q m a W hW
  have h5 := fun W hW => rclear_any q (m : Int) (a : Int) W hW
  have hP := bits_and (a := mP m) (b := 4) (by have := mP_lt m; omega) (by omega)
  unfold enterQ
  cases ho : openB q m a with
  | false =>
    rw [ho] at h1
    rw [Bool.false_and, typed_no]
    exact renter_1 _ _ _ h1 h5 w hT
  | true =>
    rw [ho] at h1
    rw [Bool.true_and]
    obtain ⟨k1, k2, k3⟩ := open_tag ho
    rcases bit_two (mP_lt m) with ⟨e1, e2⟩ | ⟨e1, e2⟩
    · rw [e1] at hP
      rw [e2, typed_yes]
      exact renter_3 _ _ _ _ _ _ _ h1 h7 (fun W hW => rtyped_any q m a 1 (right_lt k2).2.1 (by omega) W hW) hP w hT
    · rw [e1] at hP
      rw [e2, typed_no]
      exact renter_2 _ _ _ _ h1 h7 h5 hP w hT

theorem ropened_any (q : Bool) (m a : Nat) (hm : m < 18446744073709551616) (w : World) (hT : Tab w) : Calls Tryd.prog 27 #[.agg #[.bool (q), .int .u64 ((m : Nat) : Int), .int .u64 ((a : Nat) : Int)]] w (Makes (.agg #[.bool (q), .int .u64 ((typedM (opensQ q m a) m 0 : Nat) : Int), .int .u64 ((a : Nat) : Int)]) w) := by
  have h1 := fun W hW => rlive_any q m a hm W hW
  have h2 := fun W hW => rkind_any q m a W hW
  unfold opensQ
  cases ho : liveB q m a with
  | false =>
    rw [ho] at h1
    rw [Bool.false_and, typed_no]
    exact ropened_1 _ _ _ h1 w hT
  | true =>
    rw [ho] at h1
    rw [Bool.true_and]
    obtain ⟨l1, l2⟩ := live_tag ho
    by_cases hK : mK m = 1
    · rw [decide_eq_true hK, typed_yes, l1]
      rw [l1] at h1 h2
      exact ropened_3 _ _ _ _ _ _ _ h1 h2 (fun W hW => rtyped_any true m a 0 (right_lt l2).2.1 (by omega) W hW) (by rw [beq_iff_eq]; omega) w hT
    · rw [decide_eq_false hK, typed_no]
      exact ropened_2 _ _ _ _ h1 h2 (by rw [beq_eq_false_iff_ne]; omega) w hT

theorem rbuild_any (q r : Bool) (m a n b : Nat) (hm : m < 18446744073709551616) (hn : n < 18446744073709551616) (w : World) (hT : Tab w) :
    Calls Tryd.prog 29 #[.agg #[.bool (q), .int .u64 ((m : Nat) : Int), .int .u64 ((a : Nat) : Int)], .agg #[.bool (r), .int .u64 ((n : Nat) : Int), .int .u64 ((b : Nat) : Int)]] w (Makes (.agg #[.bool (buildQ m a r n b), .int .u64 ((m : Nat) : Int), .int .u64 ((a : Nat) : Int)]) w) := by
  have h5 := fun W hW => rclear_any q (m : Int) (a : Int) W hW
  have h1 := fun W hW => risopen_any r n b hn W hW
  have h8 := fun W (_ : Tab W) => rwithin_any q r m a n b hm hn W
  unfold buildQ
  cases ho : openB r n b with
  | false =>
    rw [ho] at h1
    rw [Bool.false_and]
    exact rbuild_1 _ _ _ _ _ _ h5 h1 w hT
  | true =>
    rw [ho] at h1
    rw [Bool.true_and]
    cases hl : withinC m a n b with
    | false =>
      rw [hl] at h8
      rw [Bool.false_and]
      exact rbuild_2 _ _ _ _ _ _ h5 h1 h8 w hT
    | true =>
      rw [hl] at h8
      rw [Bool.true_and]
      exact rbuild_3 _ _ _ _ _ _ _ _ h5 h1 h8 (fun W hW => rkind_any q m a W hW) (decide_eq_decide.mpr (by omega)) w hT

theorem rbound_yes (q x : Bool) (m a n e D U M : Nat) (hm : m < 18446744073709551616) (h : Bnd m a n e D U M) (w : World) (hT : Tab w) :
    Calls Tryd.prog 16 #[.agg #[.bool (q), .int .u64 ((m : Nat) : Int), .int .u64 ((a : Nat) : Int)], .int .u64 ((n : Nat) : Int), .bool x] w (Makes (.agg #[.bool (bndQ q m a n x D U), .int .u64 ((M : Nat) : Int), .int .u64 ((a : Nat) : Int)]) w) := by
  have hle := h.le
  have hok := h.ok
  have c3 := fun W (_ : Tab W) => rlook_any q m a W
  have c11 : ∀ W, Tab W → Calls Tryd.prog 47 #[.agg #[.int .u64 ((a : Nat) : Int), .int .u64 ((a + n : Nat) : Int)]] W (Makes (.tuple #[.agg #[.int .u64 ((D : Nat) : Int), .int .u64 ((U : Nat) : Int)], .bool true]) W) := fun W _ => by
    obtain ⟨h1, h2, rfl, rfl, _⟩ := h
    exact rrounded_any a (a + n) e (by omega) (by omega) h2 W
  have c12 : ∀ W, Tab W → Calls Tryd.prog 48 #[.agg #[.int .u64 ((D : Nat) : Int), .int .u64 ((U : Nat) : Int), .int .u64 ((mP m : Nat) : Int), .int .u64 ((mK m : Nat) : Int)], .int .u64 ((a : Nat) : Int)] W (Makes (.tuple #[.agg #[.bool (false), .int .u64 ((M : Nat) : Int), .int .u64 ((a : Nat) : Int)], .bool true]) W) := fun W hW => by
    have k := rmake_any D U (mP m) (mK m) a _ _ e true h.enc W
    rw [h.makes] at k
    have e1 : mkM (mP m) (mK m) (D / 2 ^ (e - 1) % 16384) (U / 2 ^ (e - 1) % 4096) e true = M := by rw [h.hM]; unfold mkM; rw [if_pos rfl]
    have e2 : mkA a true = a := by unfold mkA; rw [if_pos rfl]
    rw [e1, e2] at k
    exact k
  have c1 := fun W hW => risopen_any q m a hm W hW
  have hA : ¬ (281474976710656 : Int) ≤ (a : Int) := by omega
  have hY : IntKind.u64.wrap (281474976710656 - (a : Int)) = ((281474976710656 - a : Nat) : Int) := wrap_int (by omega)
  have hN : ¬ ((281474976710656 - a : Nat) : Int) < (n : Int) := by omega
  have hX : IntKind.u64.wrap ((a : Int) + (n : Int)) = ((a + n : Nat) : Int) := wrap_int (by omega)
  unfold bndQ
  cases ho : openB q m a with
  | false =>
    rw [ho] at c1
    rw [Bool.false_and]
    exact rbnd_3 _ _ _ _ _ _ _ _ _ _ _ _ _ _ _ c3 c11 c12 c1 hA hY hN hX w hT
  | true =>
    rw [ho] at c1
    rw [Bool.true_and]
    by_cases hD : lB m a ≤ D
    · by_cases hU : U ≤ lT m a
      · rw [decide_eq_true ⟨hD, hU⟩, Bool.true_and]
        cases x with
        | false =>
          rw [Bool.not_false, Bool.true_or]
          exact rbnd_6 _ _ _ _ _ _ _ _ _ _ _ _ _ _ c3 c11 c12 c1 hA hY hN hX (by omega) (by omega) w hT
        | true =>
          rw [Bool.not_true, Bool.false_or, show decide (D = a ∧ U = a + n) = decide ((D : Int) = (a : Int) ∧ (U : Int) = ((a + n : Nat) : Int)) from decide_eq_decide.mpr (by omega)]
          exact rbnd_7 _ _ _ _ _ _ _ _ _ _ _ _ _ _ c3 c11 c12 c1 hA hY hN hX (by omega) (by omega) w hT
      · rw [decide_eq_false (fun h => hU h.2), Bool.false_and]
        exact rbnd_5 _ _ _ _ _ _ _ _ _ _ _ _ _ _ _ c3 c11 c12 c1 hA hY hN hX (by omega) (by omega) w hT
    · rw [decide_eq_false (fun h => hD h.1), Bool.false_and]
      exact rbnd_4 _ _ _ _ _ _ _ _ _ _ _ _ _ _ _ c3 c11 c12 c1 hA hY hN hX (by omega) w hT

theorem rbound_no (q x : Bool) (m a n : Nat) (h : ¬ (a < 281474976710656 ∧ a + n ≤ 281474976710656)) (w : World) (hT : Tab w) :
    Calls Tryd.prog 16 #[.agg #[.bool (q), .int .u64 ((m : Nat) : Int), .int .u64 ((a : Nat) : Int)], .int .u64 ((n : Nat) : Int), .bool x] w (Makes (.agg #[.bool (false), .int .u64 ((m : Nat) : Int), .int .u64 ((a : Nat) : Int)]) w) := by
  have c3 := fun W (_ : Tab W) => rlook_any q m a W
  have c5 := fun W hW => rclear_any q (m : Int) (a : Int) W hW
  by_cases hA : 281474976710656 ≤ a
  · exact rbnd_1 _ _ _ _ _ _ _ _ _ _ c3 c5 (by omega) w hT
  · have hY : IntKind.u64.wrap (281474976710656 - (a : Int)) = ((281474976710656 - a : Nat) : Int) := wrap_int (by omega)
    exact rbnd_2 _ _ _ _ _ _ _ _ _ _ _ c3 c5 (by omega) hY (by omega) w hT
end Go.Proofs.YtbncoiejbclpjaaDoor
