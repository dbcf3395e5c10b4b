/-
  What package algebra's functions answer, in numbers: what is told, whether one is open, another address, what is wrong with a use.
-/
import Derived.Test.YtbncoiejbclpjaaDoorAlg2
import Derived.Test.YtbncoiejbclpjaaDoorAlgMath2
namespace Go.Proofs.YtbncoiejbclpjaaDoor
open Go.RowKit Words FieldMath BoundsMath

theorem lB_lt (m a : Nat) : lB m a ≤ 281474976710656 := Nat.le_trans (dB_le ..) (dT_le ..)
theorem lT_lt (m a : Nat) : lT m a ≤ 281474976710656 := dT_le ..
theorem lB_lT (m a : Nat) : lB m a ≤ lT m a := dB_le ..
theorem wrap_nat {n : Nat} (h : n < 18446744073709551616) : IntKind.u64.wrap (n : Int) = (n : Int) := by
  show (n : Int) % 18446744073709551616 = _
  omega
theorem bv_of {n : Nat} (h : n < 18446744073709551616) : ∃ B : BitVec 64, B.toNat = n := ⟨BitVec.ofNat 64 n, by rw [BitVec.toNat_ofNat]; exact Nat.mod_eq_of_lt h⟩

theorem wtag_any (q t : Bool) (M A : Int) (w : World) (hT : Tab w) : Calls Tryd.prog 39 #[.agg #[.bool q, .int .u64 M, .int .u64 A], .bool t] w (Makes (.agg #[.bool t, .int .u64 M, .int .u64 A]) w) := wtag_let q t M A w hT
theorem clear_any (q : Bool) (M A : Int) (w : World) (hT : Tab w) : Calls Tryd.prog 10 #[.agg #[.bool q, .int .u64 M, .int .u64 A]] w (Makes (.agg #[.bool false, .int .u64 M, .int .u64 A]) w) := clear_let q M A (fun W hW => wtag_any _ _ _ _ W hW) w hT
theorem live_any (q : Bool) (m a : Nat) (hm : m < 18446744073709551616) (w : World) (hT : Tab w) : Calls Tryd.prog 60 #[.agg #[.bool (q), .int .u64 ((m : Nat) : Int), .int .u64 ((a : Nat) : Int)]] w (Makes (.bool (liveB q m a)) w) := by
  unfold liveB
  cases q with
  | false =>
    rw [Bool.false_and]
    exact live_no _ _ w hT
  | true =>
    rw [Bool.true_and]
    exact live_yes _ _ _ (fun W hW => right_any true m a hm W hW) w hT

theorem kind_any (q : Bool) (m a : Nat) (hm : m < 18446744073709551616) (w : World) (hT : Tab w) : Calls Tryd.prog 58 #[.agg #[.bool (q), .int .u64 ((m : Nat) : Int), .int .u64 ((a : Nat) : Int)], .func (.func 59) #[] #[]] w (Makes (.int .u64 ((mK m : Nat) : Int)) w) :=
  of_kind _ _ _ _ _ _ _ _ (fun W hW => look_any q m a hm W hW) (fun W hW => vkind_let _ _ _ _ W hW) w hT

theorem perms_any (q : Bool) (m a : Nat) (hm : m < 18446744073709551616) (w : World) (hT : Tab w) : Calls Tryd.prog 58 #[.agg #[.bool (q), .int .u64 ((m : Nat) : Int), .int .u64 ((a : Nat) : Int)], .func (.func 87) #[] #[]] w (Makes (.int .u64 ((mP m : Nat) : Int)) w) :=
  of_perms _ _ _ _ _ _ _ _ (fun W hW => look_any q m a hm W hW) (fun W hW => vperms_let _ _ _ _ W hW) w hT

theorem base_any (q : Bool) (m a : Nat) (hm : m < 18446744073709551616) (w : World) (hT : Tab w) : Calls Tryd.prog 36 #[.agg #[.bool (q), .int .u64 ((m : Nat) : Int), .int .u64 ((a : Nat) : Int)]] w (Makes (.int .u64 ((lB m a : Nat) : Int)) w) :=
  tbase_let _ _ _ _ (fun W hW => of_base _ _ _ _ _ _ _ _ (fun W hW => look_any q m a hm W hW) (fun W hW => vbase_let _ _ _ _ W hW) W hW) w hT

theorem top_any (q : Bool) (m a : Nat) (hm : m < 18446744073709551616) (w : World) (hT : Tab w) : Calls Tryd.prog 52 #[.agg #[.bool (q), .int .u64 ((m : Nat) : Int), .int .u64 ((a : Nat) : Int)]] w (Makes (.int .u64 ((lT m a : Nat) : Int)) w) :=
  ttop_let _ _ _ _ (fun W hW => of_top _ _ _ _ _ _ _ _ (fun W hW => look_any q m a hm W hW) (fun W hW => vtop_let _ _ _ _ W hW) W hW) w hT

theorem length_any (q : Bool) (m a : Nat) (hm : m < 18446744073709551616) (w : World) (hT : Tab w) : Calls Tryd.prog 35 #[.agg #[.bool (q), .int .u64 ((m : Nat) : Int), .int .u64 ((a : Nat) : Int)]] w (Makes (.int .u64 ((lT m a - lB m a : Nat) : Int)) w) := by
  have h1 := lB_lT m a
  have h2 := lT_lt m a
  exact tlength_let _ _ _ _ (fun W hW => of_length _ _ _ _ _ _ _ _ _ (fun W hW => look_any q m a hm W hW) (fun W hW => vlength_let _ _ _ _ _ (by
    rw [show ((lT m a : Nat) : Int) - ((lB m a : Nat) : Int) = ((lT m a - lB m a : Nat) : Int) by omega]
    exact wrap_nat (by omega)) W hW) W hW) w hT

theorem offset_any (q : Bool) (m a : Nat) (hm : m < 18446744073709551616) (w : World) (hT : Tab w) : Calls Tryd.prog 37 #[.agg #[.bool (q), .int .u64 ((m : Nat) : Int), .int .u64 ((a : Nat) : Int)]] w (Makes (.int .u64 (((a + (18446744073709551616 - lB m a)) % 18446744073709551616 : Nat) : Int)) w) := by
  have h2 := lB_lt m a
  refine offset_let _ _ _ _ _ (fun W hW => base_any q m a hm W hW) ?_ w hT
  rw [show (((a + (18446744073709551616 - lB m a)) % 18446744073709551616 : Nat) : Int) = ((a : Int) - ((lB m a : Nat) : Int)) % 18446744073709551616 by omega]
  rfl

theorem isopen_any (q : Bool) (m a : Nat) (hm : m < 18446744073709551616) (w : World) (hT : Tab w) : Calls Tryd.prog 40 #[.agg #[.bool (q), .int .u64 ((m : Nat) : Int), .int .u64 ((a : Nat) : Int)]] w (Makes (.bool (openB q m a)) w) := by
  have h1 := fun W hW => live_any q m a hm W hW
  unfold openB
  cases hl : liveB q m a with
  | false =>
    rw [hl] at h1
    rw [Bool.false_and]
    exact open_no _ _ _ h1 w hT
  | true =>
    rw [hl] at h1
    rw [Bool.true_and]
    refine open_yes _ _ _ _ _ h1 (fun W hW => kind_any q m a hm W hW) ?_ w hT
    rw [Bool.eq_iff_iff]; simp

theorem grants_any (q : Bool) (m a n : Nat) (hm : m < 18446744073709551616) (hn : n < 18446744073709551616) (w : World) (hT : Tab w) : Calls Tryd.prog 63 #[.agg #[.bool (q), .int .u64 ((m : Nat) : Int), .int .u64 ((a : Nat) : Int)], .int .u64 ((n : Nat) : Int)] w (Makes (.bool (subN n (mP m))) w) :=
  grants_let _ _ _ _ _ _ (fun W hW => perms_any q m a hm W hW) (fun W _ => (within_nat n (mP m) hn (by unfold mP; omega) W).mono fun _ _ h => quiet_makes h) w hT

theorem same_any (q r : Bool) (m a n b : Nat) (hm : m < 18446744073709551616) (hn : n < 18446744073709551616) (w : World) (hT : Tab w) : Calls Tryd.prog 41 #[.agg #[.bool (q), .int .u64 ((m : Nat) : Int), .int .u64 ((a : Nat) : Int)], .agg #[.bool (r), .int .u64 ((n : Nat) : Int), .int .u64 ((b : Nat) : Int)]] w (Makes (.bool (lO m a && (lO n b && decide (lB m a = lB n b ∧ lT m a = lT n b)))) w) := by
  have h1 := fun W hW => look_any q m a hm W hW
  have h2 := fun W hW => look_any r n b hn W hW
  cases ho : lO m a with
  | false =>
    rw [ho] at h1
    rw [Bool.false_and]
    exact same_no1 _ _ _ _ _ _ _ _ _ _ _ _ _ _ _ h1 h2 w hT
  | true =>
    rw [ho] at h1
    cases ho2 : lO n b with
    | false =>
      rw [ho2] at h2
      rw [Bool.true_and, Bool.false_and]
      exact same_no2 _ _ _ _ _ _ _ _ _ _ _ _ _ _ h1 h2 w hT
    | true =>
      rw [ho2] at h2
      rw [Bool.true_and, Bool.true_and, show decide (lB m a = lB n b ∧ lT m a = lT n b) = decide (((lB m a : Nat) : Int) = ((lB n b : Nat) : Int) ∧ ((lT m a : Nat) : Int) = ((lT n b : Nat) : Int)) from decide_eq_decide.mpr (by omega)]
      exact same_yes _ _ _ _ _ _ _ _ _ _ _ _ _ _ h1 h2 w hT

theorem address_any (q : Bool) (m a n : Nat) (hm : m < 18446744073709551616) (w : World) (hT : Tab w) : Calls Tryd.prog 12 #[.agg #[.bool (q), .int .u64 ((m : Nat) : Int), .int .u64 ((a : Nat) : Int)], .int .u64 ((n : Nat) : Int)] w (Makes (.agg #[.bool (addrQ q m a n), .int .u64 ((m : Nat) : Int), .int .u64 ((n : Nat) : Int)]) w) := by
  have h1 := fun W hW => isopen_any q m a hm W hW
  unfold addrQ
  cases hl : openB q m a with
  | false =>
    rw [hl] at h1
    rw [Bool.false_and]
    exact addr_no _ _ _ _ h1 w hT
  | true =>
    rw [hl] at h1
    have h2 := fun W hW => same_any q false m a m n hm hm W hW
    rw [(right_lt (open_tag hl).2.1).2.2, Bool.true_and] at h2
    rw [Bool.true_and]
    exact addr_yes _ _ _ _ _ h1 h2 w hT

theorem move_any (q : Bool) (m a d : Nat) (hm : m < 18446744073709551616) (w : World) (hT : Tab w) : Calls Tryd.prog 14 #[.agg #[.bool (q), .int .u64 ((m : Nat) : Int), .int .u64 ((a : Nat) : Int)], .int .u64 ((d : Nat) : Int)] w (Makes (.agg #[.bool (addrQ q m a ((a + d) % 18446744073709551616)), .int .u64 ((m : Nat) : Int), .int .u64 (((a + d) % 18446744073709551616 : Nat) : Int)]) w) :=
  move_let _ _ _ _ _ ((((a + d) % 18446744073709551616 : Nat)) : Int) _ _ (fun W hW => address_any q m a _ hm W hW) (by
    rw [show (((a + d) % 18446744073709551616 : Nat) : Int) = ((a : Int) + (d : Int)) % 18446744073709551616 by omega]
    rfl) w hT

theorem tunder_any (q r : Bool) (m a n b : Nat) (hm : m < 18446744073709551616) (hn : n < 18446744073709551616) (w : World) (hT : Tab w) : Calls Tryd.prog 38 #[.agg #[.bool (q), .int .u64 ((m : Nat) : Int), .int .u64 ((a : Nat) : Int)], .agg #[.bool (r), .int .u64 ((n : Nat) : Int), .int .u64 ((b : Nat) : Int)]] w (Makes (.bool (decide (q = r) && withinC m a n b)) w) := by
  by_cases h : q = r
  · subst h
    rw [decide_eq_true rfl, Bool.true_and]
    exact under_yes _ _ _ _ _ _ (fun W hW => cwithin_any q q m a n b hm hn W hW) w hT
  · rw [decide_eq_false h]
    exact under_no _ _ _ _ _ _ (decide_eq_false h) w hT

theorem fault_any (q : Bool) (m a p n : Nat) (hm : m < 18446744073709551616) (ha : a < 18446744073709551616) (hp : p < 18446744073709551616) (hn : n < 18446744073709551616) (w : World) (hT : Tab w) :
    Calls Tryd.prog 69 #[.agg #[.bool (q), .int .u64 ((m : Nat) : Int), .int .u64 ((a : Nat) : Int)], .int .u64 ((p : Nat) : Int), .int .u64 ((n : Nat) : Int)] w (Makes (.int .i64 ((checkN q m a p n : Nat) : Int)) w) := by
  have h1 := fun W hW => live_any q m a hm W hW
  have h2 := fun W hW => kind_any q m a hm W hW
  have h3 := fun W hW => grants_any q m a p hm hp W hW
  unfold checkN
  cases hl : liveB q m a with
  | false =>
    rw [hl] at h1
    exact fault_1 _ _ _ _ _ h1 w hT
  | true =>
    rw [hl] at h1
    by_cases hk : mK m = 0
    · rw [decide_eq_true hk]
      rw [hk] at h2
      cases hs : subN p (mP m) with
      | false =>
        rw [hs] at h3
        exact fault_3 _ _ _ _ _ h1 h2 h3 w hT
      | true =>
        rw [hs] at h3
        have h4 := fun W hW => base_any q m a hm W hW
        have h5 := fun W hW => top_any q m a hm W hW
        have h6 : ∀ W, Tab W → Calls Tryd.prog 89 #[.int .u64 ((a : Nat) : Int), .int .u64 ((n : Nat) : Int), .int .u64 ((lB m a : Nat) : Int), .int .u64 ((lT m a : Nat) : Int)] W (Makes (.bool (decide (lB m a ≤ a ∧ a + n ≤ lT m a))) W) := fun W _ => by
          obtain ⟨A, hA⟩ := bv_of ha
          obtain ⟨X, hX⟩ := bv_of hn
          obtain ⟨D, hD⟩ := bv_of (show lB m a < 18446744073709551616 by have := lB_lt m a; omega)
          obtain ⟨U, hU⟩ := bv_of (show lT m a < 18446744073709551616 by have := lT_lt m a; omega)
          rw [← hA, ← hX]
          rw [← hA] at hD hU
          rw [← hD, ← hU]
          exact (sin_any A X D U W).mono fun _ _ h => quiet_makes h
        cases hd : decide (lB m a ≤ a ∧ a + n ≤ lT m a) with
        | false =>
          rw [hd] at h6
          exact fault_4 _ _ _ _ _ _ _ h1 h2 h3 h4 h5 h6 w hT
        | true =>
          rw [hd] at h6
          exact fault_0 _ _ _ _ _ _ _ h1 h2 h3 h4 h5 h6 w hT
    · rw [decide_eq_false hk]
      exact fault_2 _ _ _ _ _ _ h1 h2 (by simpa using hk) w hT

theorem allows_eq (q : Bool) (m a p : Nat) : (((checkN q m a p 1 : Nat) : Int) == 0) = allowsB q m a p := by
  unfold checkN allowsB openB
  cases liveB q m a
  · rfl
  · by_cases hk : mK m = 0
    · rw [decide_eq_true hk]
      cases subN p (mP m)
      · rfl
      · by_cases hd : lB m a ≤ a ∧ a + 1 ≤ lT m a
        · rw [decide_eq_true hd]; rfl
        · rw [decide_eq_false hd]; rfl
    · rw [decide_eq_false hk]; rfl

theorem allows_any (q : Bool) (m a p : Nat) (hm : m < 18446744073709551616) (ha : a < 18446744073709551616) (hp : p < 18446744073709551616) (w : World) (hT : Tab w) : Calls Tryd.prog 53 #[.agg #[.bool (q), .int .u64 ((m : Nat) : Int), .int .u64 ((a : Nat) : Int)], .int .u64 ((p : Nat) : Int)] w (Makes (.bool (allowsB q m a p)) w) :=
  allows_let _ _ _ _ _ _ (fun W hW => fault_any q m a p 1 hm ha hp (by omega) W hW) (allows_eq q m a p) w hT

theorem wtype_any (q : Bool) (m a k : Nat) (hr : rightB m a = true) (hm : m < 18446744073709551616) (hk : k < 4096) (w : World) (hT : Tab w) : Calls Tryd.prog 55 #[.agg #[.bool (q), .int .u64 ((m : Nat) : Int), .int .u64 ((a : Nat) : Int)], .int .u64 ((k : Nat) : Int)] w (Makes (.agg #[.bool (q), .int .u64 ((setK m k : Nat) : Int), .int .u64 ((a : Nat) : Int)]) w) := by
  obtain ⟨D, hD⟩ := bv_of (show lB m a < 18446744073709551616 by have := lB_lt m a; omega)
  obtain ⟨U, hU⟩ := bv_of (show lT m a < 18446744073709551616 by have := lT_lt m a; omega)
  obtain ⟨fb, ft, e, ex, h⟩ := enc_ex (lB m a) (lT m a)
  obtain ⟨g1, g2⟩ := retyped hr hk h
  have h1 := fun W hW => look_any q m a hm W hW
  have h2 := fun W hW => make_any D U (mP m) k a fb ft e ex (by unfold mP; omega) (by omega) (by rw [hD, hU]; exact h) W hW
  rw [hD, hU, g2] at h2
  have e1 : mkM (mP m) k fb ft e true = setK m k := g1
  have e2 : mkA a true = a := rfl
  rw [e1, e2] at h2
  exact wtype_let _ _ _ _ _ _ _ _ _ _ _ _ h1 h2 (fun W hW => wtag_any _ _ _ _ W hW) w hT
end Go.Proofs.YtbncoiejbclpjaaDoor
