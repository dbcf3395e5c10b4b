/-
  What the functions of package bounds that only reckon (exponent, stretched, fits, extended, Rounded, Length, Align) answer: the first E that keeps the span, and the span that is kept; they turn nothing in memory.
-/
import Derived.Test.YtnepnckiciapfaaDoorScaleWalks
import Derived.Test.YtnepnckiciapfaaDoorBoundsMath
import Derived.Test.YtnepnckiciapfaaDoorGrows
namespace Go.Proofs.YtnepnckiciapfaaDoor
open Go.RowKit Words ScaleMath BoundsMath

theorem nat_bv {n : Nat} (h : n < 18446744073709551616) : ((BitVec.ofNat 64 n).toNat : Int) = (n : Int) := by
  rw [BitVec.toNat_ofNat, Nat.mod_eq_of_lt (by omega)]

theorem sdown_nat (b x : Nat) (hb : b < 18446744073709551616) (w : World) :
    Calls Tryd.prog 36 #[.int .u64 (b : Int), .int .i64 (x : Int)] w (Quiet (.int .u64 ((dn b x : Nat) : Int)) w) := by
  have h := sdown_any (BitVec.ofNat 64 b) (x : Int) w
  rw [nat_bv hb, down_nat, BitVec.toNat_ofNat, Nat.mod_eq_of_lt (show b < 2 ^ 64 from hb)] at h
  exact h
theorem up_nat (T : BitVec 64) (x : Nat) (h : T.toNat ≤ 281474976710656) (hx : x ≤ 48) : (upB T (x : Int)).2 = true ∧ (upB T (x : Int)).1.toNat = up T.toNat x := by
  have h2 : (2 : Nat) ^ x ≤ 2 ^ 48 := Nat.pow_le_pow_right (by decide) hx
  have hp := Nat.two_pow_pos x
  rw [up_walk T (x : Int) (by omega) (by omega)]
  rw [show ((x : Int)).toNat = x by omega]
  rw [if_neg (by omega)]
  refine ⟨rfl, ?_⟩
  show (downB _ _).toNat = _
  rw [down_nat, show ((x : Int)).toNat = x by omega]
  unfold up cq
  rw [BitVec.toNat_add, BitVec.toNat_ofNat, Nat.mod_eq_of_lt (by omega : 2 ^ x - 1 < 2 ^ 64), Nat.mod_eq_of_lt (by omega)]
theorem sup_nat (t x : Nat) (ht : t ≤ 281474976710656) (hx : x ≤ 48) (w : World) :
    Calls Tryd.prog 25 #[.int .u64 (t : Int), .int .i64 (x : Int)] w (Quiet (.tuple #[.int .u64 ((up t x : Nat) : Int), .bool true]) w) := by
  have h := sup_any (BitVec.ofNat 64 t) (x : Int) w
  have e : (BitVec.ofNat 64 t).toNat = t := by rw [BitVec.toNat_ofNat, Nat.mod_eq_of_lt (by omega)]
  obtain ⟨h1, h2⟩ := up_nat (BitVec.ofNat 64 t) x (by omega) hx
  rw [h1, h2, e] at h
  exact h

set_option maxHeartbeats 400000 in
theorem exponent_any (e : Nat) (he : e < 9223372036854775808) (w : World) :
    Calls Tryd.prog 16 #[.int .u64 (e : Int)] w (Quiet (.int .i64 ((e - 1 : Nat) : Int)) w) := by
  go_enter Tryd.func16, Tryd.ntmps16
  go_wp2
  all_goals
    go_ret
    exact ⟨ret_int (by omega), 0, rfl⟩

set_option maxHeartbeats 400000 in
theorem stretched_any (b t e : Nat) (hb : b < 18446744073709551616) (ht : t ≤ 281474976710656) (he : e ≤ 37) (w : World) :
    Calls Tryd.prog 28 #[.agg #[.int .u64 (b : Int), .int .u64 (t : Int)], .int .u64 (e : Int)] w
      (Makes (.agg #[.int .u64 ((dn b (e - 1) : Nat) : Int), .int .u64 ((up t (e - 1) : Nat) : Int)]) w) := by
  have C1 := hide (fun W => exponent_any e (by omega) W)
  have C2 := hide (fun W => sup_nat t (e - 1) ht (by omega) W)
  have C3 := hide (fun W => sdown_nat b (e - 1) hb W)
  generalize ((dn b (e - 1) : Nat) : Int) = D at *
  generalize ((up t (e - 1) : Nat) : Int) = U at *
  generalize ((e - 1 : Nat) : Int) = X at *
  generalize (e : Int) = E at *
  clear he ht hb
  go_enter Tryd.func28, Tryd.ntmps28
  go_wp2_with (first | (go_at_call 16; (with_reducible refine (C1.out _).mono ?_); rintro e w' ⟨rfl, n1, rfl⟩) | (go_at_call 25; (with_reducible refine (C2.out _).mono ?_); rintro e w' ⟨rfl, n1, rfl⟩) | (go_at_call 36; (with_reducible refine (C3.out _).mono ?_); rintro e w' ⟨rfl, n1, rfl⟩))
  refine bodyPost_ret (v := .agg #[.int .u64 D, .int .u64 U]) (by simp (maxDischargeDepth := 4) [results, Tryd.results28, go_sem]) rfl ?_
  refine ⟨rfl, ?_⟩
  repeat (first | exact Below.refl _ _ | refine Below.setCell ?_ (by simp) _ | refine below_drewN ?_ _ | refine below_alloc ?_ (by simp) _)

/-- How many steps, as the code asks it. -/
def fitsB (n e : Nat) : Bool := if e = 0 then decide (n < 4096) else decide (4096 ≤ n ∧ n < 8192)
theorem fits_iff (b t e : Nat) : fitsB (steps b t (e - 1)) e = true ↔ keeps b t e := by
  unfold fitsB keeps
  split <;> rename_i h
  · subst h; simp
  · simp
theorem steps_walk (b t x : Nat) : (up t x - dn b x) / 2 ^ x = steps b t x := by
  unfold up dn steps
  rw [← Nat.sub_mul, Nat.mul_div_cancel _ (BoundsMath.pow_pos x)]

set_option maxHeartbeats 400000 in
theorem fits_any (d u e : Nat) (hdu : d ≤ u) (hu : u ≤ 281474976710656) (he : e ≤ 37) (w : World) :
    Calls Tryd.prog 29 #[.agg #[.int .u64 (d : Int), .int .u64 (u : Int)], .int .u64 (e : Int)] w
      (Makes (.bool (fitsB ((u - d) / 2 ^ (e - 1)) e)) w) := by
  have C1 := hide (fun W => exponent_any e (by omega) W)
  have hx : 0 ≤ ((e - 1 : Nat) : Int) := by omega
  have hx2 : ((e - 1 : Nat) : Int) ≤ 64 := by omega
  have hs : IntKind.u64.wrap ((u : Int) - (d : Int)) = ((u - d : Nat) : Int) := by rw [IntKind.wrap_u64]; omega
  have hq : ((u - d : Nat) : Int) / 2 ^ ((e - 1 : Nat) : Int).toNat = (((u - d) / 2 ^ (e - 1) : Nat) : Int) := by simp
  generalize (u - d) / 2 ^ (e - 1) = Q at *
  generalize ((u - d : Nat) : Int) = S at *
  generalize ((e - 1 : Nat) : Int) = X at *
  by_cases h0 : e = 0
  · have hf : fitsB Q e = decide (Q < 4096) := by unfold fitsB; rw [if_pos h0]
    have HF := hide hf
    subst h0
    have C2 : Hid (∀ W, Calls Tryd.prog 16 #[.int .u64 0] W (Quiet (.int .i64 X) W)) := C1
    clear hf he hdu hu C1
    go_enter Tryd.func29, Tryd.ntmps29
    go_wp2
    go_quiet ((go_at_call 16; with_reducible first | exact Quiet.region (fun W => C2.out W) | exact Quiet.regionAdd (fun W => C2.out W)))
    go_wp2
    go_ret
    refine ⟨ret_bool ?_, ?_⟩
    · rw [HF.out]; first | exact decide_eq_decide.mpr (by omega) | exact (decide_eq_true (by omega)).symm | exact (decide_eq_false (by omega)).symm
    · repeat (first | exact Below.refl _ _ | refine Below.setCell ?_ (by simp) _ | refine below_drewN ?_ _ | refine below_alloc ?_ (by simp) _ | refine below_behind ?_ (by simp) (by assumption))
  · have hf : fitsB Q e = decide (4096 ≤ Q ∧ Q < 8192) := by unfold fitsB; rw [if_neg h0]
    have HF := hide hf
    have h0' : ¬ (e : Int) = 0 := by omega
    clear hf he hdu hu h0
    generalize fitsB Q e = V at *
    generalize (e : Int) = E at *
    go_enter Tryd.func29, Tryd.ntmps29
    go_wp2
    go_quiet ((go_at_call 16; with_reducible first | exact Quiet.region (fun W => C1.out W) | exact Quiet.regionAdd (fun W => C1.out W)))
    go_wp2
    all_goals
      go_ret
      refine ⟨ret_bool ?_, ?_⟩
      · rw [HF.out]; first | exact decide_eq_decide.mpr (by omega) | exact (decide_eq_true (by omega)).symm | exact (decide_eq_false (by omega)).symm
      · repeat (first | exact Below.refl _ _ | refine Below.setCell ?_ (by simp) _ | refine below_drewN ?_ _ | refine below_alloc ?_ (by simp) _ | refine below_behind ?_ (by simp) (by assumption))

set_option maxHeartbeats 800000 in
theorem extended_any (b t e : Nat) (hb : b ≤ t) (ht : t ≤ 281474976710656) (hk : Kept b t e) (w : World) :
    Calls Tryd.prog 15 #[.agg #[.int .u64 (b : Int), .int .u64 (t : Int)]] w
      (Makes (.tuple #[.agg #[.int .u64 ((dn b (e - 1) : Nat) : Int), .int .u64 ((up t (e - 1) : Nat) : Int)], .int .u64 (e : Int), .bool true]) w) := by
  have H1 := hide hk
  have CS := hide (fun (k : Nat) (hk : k ≤ 37) W => stretched_any b t k (by omega) ht hk W)
  have h1 : decide ((t : Int) < (b : Int)) = false := by simp; omega
  have h2 : decide (281474976710656 < (t : Int)) = false := by simp; omega
  generalize (b : Int) = B at *
  generalize (t : Int) = T at *
  clear hk
  have SS := cell_same
  have LB := ltB_add
  have LS := ltB_self
  have LA := alloc_reads
  have LH := alloc_holds
  go_enter Tryd.func15, Tryd.ntmps15
  go_wp2
  go_loopw [18] (fun i wr => ∃ k : Nat, k ≤ e ∧ i = .int .u64 k ∧ Below (w.heap.size + 2) ((w.alloc (.cells #[.int .u64 B, .int .u64 T] 24)).alloc (.cells #[.int .u64 0, .int .u64 0] 24)) wr) (fun i _ => e - (intOf i).toNat)
  case atStart => exact ⟨0, by omega, rfl, Below.refl _ _⟩
  case round =>
    obtain ⟨k, hk, rfl, hb0⟩ := hrel
    have hk37 : k ≤ 37 := Nat.le_trans hk H1.out.le
    have hb00 : Below w.heap.size w wr := Below.trans (by
      repeat (first | assumption | exact Below.refl _ _ | refine Below.setCell ?_ (by simp) _ | refine below_drewN ?_ _ | refine below_alloc ?_ (by simp) _ | refine below_behind ?_ (by simp) (by assumption))) (hb0.mono (by omega))
    obtain ⟨m0, hs0⟩ := below_grew hb0
    have hr0 := below_reads hb0
    have hh0 := below_holds hb0
    simp only [World.size_alloc] at hs0
    have C1 := hide (CS.out k hk37)
    have hdu : dn b (k - 1) ≤ up t (k - 1) := Nat.le_trans (dn_le _ _) (Nat.le_trans hb (up_le _ _))
    have c2 := fun W => fits_any (dn b (k - 1)) (up t (k - 1)) k hdu (up_top ht (by omega)) hk37 W
    have hf := fits_iff b t k
    rw [steps_walk] at c2
    by_cases hke : k = e
    · subst hke
      rw [hf.2 H1.out.ok] at c2
      have C2 := hide c2
      have hK : (k : Int) < 38 := by omega
      clear c2 hf hk hk37 hb ht hdu H1
      generalize ((dn b (k - 1) : Nat) : Int) = D at *
      generalize ((up t (k - 1) : Nat) : Int) = U at *
      generalize (k : Int) = K at *
      go_wp2_with (first | (go_at_call 28; (with_reducible refine (C1.out _).mono ?_); rintro e w1 ⟨rfl, hb1⟩; have hr1 := below_reads hb1; have hh1 := below_holds hb1; obtain ⟨m1, hs1⟩ := below_grew hb1) | (go_at_call 29; (with_reducible refine (C2.out _).mono ?_); rintro e w2 ⟨rfl, hb2⟩; have hr2 := below_reads hb2; have hh2 := below_holds hb2; obtain ⟨m2, hs2⟩ := below_grew hb2))
      refine bodyPost_ret (v := .tuple #[.agg #[.int .u64 D, .int .u64 U], .int .u64 K, .bool true]) (by simp (maxDischargeDepth := 4) [results, Tryd.results15, go_sem, *]) rfl ?_
      refine ⟨rfl, ?_⟩
      repeat (first | assumption | exact Below.refl _ _ | refine Below.setCell ?_ (by simp) _ | refine below_drewN ?_ _ | refine below_alloc ?_ (by simp) _ | refine below_behind ?_ (by simp) (by assumption))
    · rw [show fitsB (steps b t (k - 1)) k = false from by
        have := mt hf.1 (H1.out.no k (by omega))
        simpa using this] at c2
      have C2 := hide c2
      have hK : (k : Int) < 38 := by omega
      have hke2 : k + 1 ≤ e := by omega
      clear c2 hf hk hk37 hb ht hdu H1 hke
      generalize ((dn b (k - 1) : Nat) : Int) = D at *
      generalize ((up t (k - 1) : Nat) : Int) = U at *
      go_wp2_with (first | (go_at_call 28; (with_reducible refine (C1.out _).mono ?_); rintro e w1 ⟨rfl, hb1⟩; have hr1 := below_reads hb1; have hh1 := below_holds hb1; obtain ⟨m1, hs1⟩ := below_grew hb1) | (go_at_call 29; (with_reducible refine (C2.out _).mono ?_); rintro e w2 ⟨rfl, hb2⟩; have hr2 := below_reads hb2; have hh2 := below_holds hb2; obtain ⟨m2, hs2⟩ := below_grew hb2))
      go_roundw
      case rel => exact ⟨k + 1, hke2, by go_num, by
        repeat (first | assumption | exact Below.refl _ _ | refine Below.setCell ?_ (by simp) _ | refine below_drewN ?_ _ | refine below_alloc ?_ (by simp) _ | refine below_behind ?_ (by simp) (by assumption))⟩
      case measure => simp [intOf]; omega

set_option maxHeartbeats 400000 in
theorem extended_not (b t : BitVec 64) (h : ¬ (b.toNat ≤ t.toNat ∧ t.toNat ≤ 281474976710656)) (w : World) :
    Calls Tryd.prog 15 #[.agg #[.int .u64 (b.toNat : Int), .int .u64 (t.toNat : Int)]] w
      (Makes (.tuple #[.agg #[.int .u64 0, .int .u64 0], .int .u64 0, .bool false]) w) := by
  by_cases h1 : (t.toNat : Int) < (b.toNat : Int)
  · clear h
    generalize (t.toNat : Int) = T at *
    generalize (b.toNat : Int) = B at *
    go_enter Tryd.func15, Tryd.ntmps15
    go_wp2
    refine bodyPost_ret (v := .tuple #[.agg #[.int .u64 0, .int .u64 0], .int .u64 0, .bool false]) (by simp (maxDischargeDepth := 4) [results, Tryd.results15, go_sem, *]) rfl ?_
    refine ⟨rfl, ?_⟩
    repeat (first | assumption | exact Below.refl _ _ | refine Below.setCell ?_ (by simp) _ | refine below_drewN ?_ _ | refine below_alloc ?_ (by simp) _ | refine below_behind ?_ (by simp) (by assumption))
  · have h2 : 281474976710656 < (t.toNat : Int) := by omega
    clear h
    generalize (t.toNat : Int) = T at *
    generalize (b.toNat : Int) = B at *
    go_enter Tryd.func15, Tryd.ntmps15
    go_wp2
    refine bodyPost_ret (v := .tuple #[.agg #[.int .u64 0, .int .u64 0], .int .u64 0, .bool false]) (by simp (maxDischargeDepth := 4) [results, Tryd.results15, go_sem, *]) rfl ?_
    refine ⟨rfl, ?_⟩
    repeat (first | assumption | exact Below.refl _ _ | refine Below.setCell ?_ (by simp) _ | refine below_drewN ?_ _ | refine below_alloc ?_ (by simp) _ | refine below_behind ?_ (by simp) (by assumption))

theorem length_of (T D U E : Int) (O : Bool) (C : ∀ W, Calls Tryd.prog 15 #[.agg #[.int .u64 0, .int .u64 T]] W (Makes (.tuple #[.agg #[.int .u64 D, .int .u64 U], .int .u64 E, .bool O]) W)) (w : World) :
    Calls Tryd.prog 26 #[.int .u64 T] w (Makes (.tuple #[.int .u64 U, .bool O]) w) := by
  have C1 := hide C
  clear C
  have SS := cell_same
  have LB := ltB_add
  have LS := ltB_self
  have LA := alloc_reads
  have LH := alloc_holds
  go_enter Tryd.func26, Tryd.ntmps26
  go_wp2_with (first | (go_at_call 15; (with_reducible refine (C1.out _).mono ?_); rintro e w1 ⟨rfl, hb1⟩; have hr1 := below_reads hb1; have hh1 := below_holds hb1; obtain ⟨m1, hs1⟩ := below_grew hb1))
  go_ret2
  refine ⟨rfl, ?_⟩
  repeat (first | assumption | exact Below.refl _ _ | refine Below.setCell ?_ (by simp) _ | refine below_drewN ?_ _ | refine below_alloc ?_ (by simp) _ | refine below_behind ?_ (by simp) (by assumption))

theorem align_of (T D U : Int) (E : Nat) (hE : E ≤ 37) (O : Bool) (C : ∀ W, Calls Tryd.prog 15 #[.agg #[.int .u64 0, .int .u64 T]] W (Makes (.tuple #[.agg #[.int .u64 D, .int .u64 U], .int .u64 (E : Int), .bool O]) W)) (w : World) :
    Calls Tryd.prog 27 #[.int .u64 T] w (Makes (.tuple #[.int .i64 ((E - 1 : Nat) : Int), .bool O]) w) := by
  have C1 := hide C
  have C2 := hide (fun W => exponent_any E (by omega) W)
  generalize ((E - 1 : Nat) : Int) = X at *
  generalize (E : Int) = F at *
  clear C hE
  have SS := cell_same
  have LB := ltB_add
  have LS := ltB_self
  have LA := alloc_reads
  have LH := alloc_holds
  go_enter Tryd.func27, Tryd.ntmps27
  go_wp2_with (first | (go_at_call 15; (with_reducible refine (C1.out _).mono ?_); rintro e w1 ⟨rfl, hb1⟩; have hr1 := below_reads hb1; have hh1 := below_holds hb1; obtain ⟨m1, hs1⟩ := below_grew hb1) | (go_at_call 16; (with_reducible refine (C2.out _).mono ?_); rintro e w' ⟨rfl, n1, rfl⟩))
  go_ret2
  refine ⟨rfl, ?_⟩
  repeat (first | assumption | exact Below.refl _ _ | refine Below.setCell ?_ (by simp) _ | refine below_drewN ?_ _ | refine below_alloc ?_ (by simp) _ | refine below_behind ?_ (by simp) (by assumption))
end Go.Proofs.YtnepnckiciapfaaDoor
