/-
  What the document's own answers of layer 1 (package mintmarkref01) are, called with any arguments: each is the plain function of XFieldMath, though reckoned bit by bit in a loop.
-/
import Derived.Test.YtholamocbkfcmaaDoorFieldWalks
namespace Go.Proofs.YtholamocbkfcmaaDoor
open Go.RowKit Words FieldMath

/-- The lowest i bits of T: what a loop that lays T bit by bit has after i rounds. -/
def lowB (T : BitVec 64) (i : Nat) : BitVec 64 := T &&& maskB i
theorem low_bit (T : BitVec 64) (i j : Nat) (hj : j < 64) : (lowB T i).getLsbD j = (decide (j < i) && T.getLsbD j) := by
  unfold lowB
  rw [BitVec.getLsbD_and, mask_bit]
  have e : ((j : Int) < (i : Int)) ↔ j < i := by omega
  simp only [hj, e, decide_true, Bool.true_and]
  exact Bool.and_comm _ _
theorem low_zero (T : BitVec 64) : lowB T 0 = 0 := ext64 fun j hj => by rw [low_bit _ _ _ hj]; simp
theorem low_all (T : BitVec 64) : lowB T 64 = T := ext64 fun j hj => by rw [low_bit _ _ _ hj]; simp [hj]
theorem low_step (T B : BitVec 64) (i : Nat) (hi : i < 64) (h : B.getLsbD 0 = T.getLsbD i) : lowB T i ||| ((B &&& 1#64) <<< i) = lowB T (i + 1) := by
  refine ext64 fun j hj => ?_
  rw [BitVec.getLsbD_or, BitVec.getLsbD_shiftLeft, BitVec.getLsbD_and, low_bit _ _ _ hj, low_bit _ _ _ hj]
  have e1 : (1#64).getLsbD (j - i) = decide (j - i = 0) := by
    rw [BitVec.getLsbD_one]; simp
  rw [e1]
  by_cases h1 : j < i
  · have h2 : j < i + 1 := by omega
    simp [h1, h2]
  · by_cases h3 : j = i
    · subst h3
      simp only [Nat.lt_irrefl, decide_false, Bool.false_and, Bool.false_or, Nat.sub_self, decide_true, Bool.and_true, Bool.not_false, hj, Nat.lt_succ_self, Bool.true_and, h]
    · have h4 : ¬ j < i + 1 := by omega
      have h5 : j - i ≠ 0 := by omega
      simp [h1, h4, h5]
/-- The round's number, as the walk spells it. -/
theorem low_walk (T B : BitVec 64) (i : Nat) (hi : i < 64) (h : B.getLsbD 0 = T.getLsbD i) :
    bits .or .u64 ((lowB T i).toNat : Int) (IntKind.u64.wrap (bits .and .u64 (B.toNat : Int) 1 * 2 ^ i)) = ((lowB T (i + 1)).toNat : Int) := by
  have e1 : (1 : Int) = ((1#64).toNat : Int) := by decide
  rw [e1, and_bv, shl_bv, or_bv, low_step T B i hi h]

set_option maxHeartbeats 400000 in
theorem rmay_any (a b : Int) (w : World) : Calls Tryd.prog 42 #[.int .i64 a, .int .i64 b] w (Quiet (.bool (okF a b)) w) := by
  go_enter Tryd.func42, Tryd.ntmps42
  go_wp2
  all_goals
    go_ret
    exact ⟨ret_bool (by unfold okF; first | exact decide_eq_decide.mpr (by omega) | exact (decide_eq_true (by omega)).symm | exact (decide_eq_false (by omega)).symm), 0, rfl⟩

theorem get_low (x : BitVec 64) (a w : Int) (k : Nat) (hk : k < 64) (h : okF a w = true) (hw : (k : Int) < w) : (x >>> (a + k).toNat).getLsbD 0 = (getB x a w).getLsbD k := by
  have hb : 0 ≤ w ∧ w ≤ 64 ∧ 0 ≤ a ∧ a ≤ 64 - w := by simpa [okF] using h
  rw [BitVec.getLsbD_ushiftRight, get_bit _ _ _ _ hk, h]
  have e : (a + k).toNat + 0 = a.toNat + k := by omega
  rw [e]
  simp only [hw, decide_true, Bool.true_and]
theorem get_end (x : BitVec 64) (a w : Int) (k : Nat) (h : okF a w = true) (hw : ¬ (k : Int) < w) : lowB (getB x a w) k = getB x a w := by
  refine ext64 fun j hj => ?_
  rw [low_bit _ _ _ hj, get_bit _ _ _ _ hj, h]
  by_cases h1 : (j : Int) < w
  · have h2 : j < k := by omega
    simp only [h2, decide_true, Bool.true_and]
  · simp only [h1, decide_false, Bool.and_false, Bool.false_and]
set_option maxHeartbeats 400000 in
theorem rget_any (x : BitVec 64) (a b : Int) (w : World) : Calls Tryd.prog 25 #[.int .u64 (x.toNat : Int), .int .i64 a, .int .i64 b] w (Quiet (.int .u64 ((getB x a b).toNat : Int)) w) := by
  by_cases h : okF a b = true
  · have hb : 0 ≤ b ∧ b ≤ 64 ∧ 0 ≤ a ∧ a ≤ 64 - b := by simpa [okF] using h
    obtain ⟨h1, h2, h3, h4⟩ := hb
    have HOK := hide h
    have hv := fun W => rmay_any a b W
    rw [h] at hv
    have HV := hide hv
    clear h hv
    go_enter Tryd.func25, Tryd.ntmps25
    go_wp2
    go_loopw [7, 8] (fun m i wr => ∃ k : Nat, (k : Int) ≤ b ∧ i = .int .i64 k ∧ m = .int .u64 ((lowB (getB x a b) k).toNat : Int) ∧ ∃ n, wr = w.drewN n) (fun _ i _ => 64 - (intOf i).toNat)
    case atStart => exact ⟨0, by omega, rfl, by rw [low_zero]; rfl, 0, rfl⟩
    case round =>
      obtain ⟨k, hk, rfl, rfl, nn, rfl⟩ := hrel
      by_cases hlt : (k : Int) < b
      · have hk64 : k < 64 := by omega
        have hs := low_walk (getB x a b) (x >>> (a + k).toNat) k hk64 (get_low x a b k hk64 HOK.out hlt)
        have hr := shr_bv x (a + k).toNat
        obtain ⟨M1, hM⟩ : ∃ M1, lowB (getB x a b) (k + 1) = M1 := ⟨_, rfl⟩
        rw [hM] at hs
        have HM := hide hM
        clear hM
        generalize lowB (getB x a b) k = M0 at hs
        generalize x >>> (a + k).toNat = X1 at hs hr
        have g1 : 0 ≤ a + k := by omega
        have g2 : a + k ≤ 64 := by omega
        go_wp2_with (go_at_call 42; refine (HV.out _).mono ?_; rintro e w' ⟨rfl, n, rfl⟩)
        go_roundw
        case rel => exact ⟨k + 1, by omega, by go_num, by rw [HM.out], _, rfl⟩
        case measure => simp [intOf]; omega
      · have he := get_end x a b k HOK.out hlt
        have HE := hide he
        clear he
        go_wp2_with (go_at_call 42; refine (HV.out _).mono ?_; rintro e w' ⟨rfl, n, rfl⟩)
        go_ret
        exact ⟨ret_int (by rw [HE.out]), _, rfl⟩
  · have hg : getB x a b = 0 := by unfold getB; rw [if_neg h]
    have HG := hide hg
    clear hg
    have h' : okF a b = false := by simpa using h
    have hv := fun W => rmay_any a b W
    rw [h'] at hv
    have HV := hide hv
    clear h h' hv
    go_enter Tryd.func25, Tryd.ntmps25
    go_wp2
    refine wp_loop_rounds 1 ?_
    rw [rounds_succ]
    go_wp2_with (go_at_call 42; refine (HV.out _).mono ?_; rintro e w' ⟨rfl, n, rfl⟩)
    go_ret
    exact ⟨ret_int (by rw [HG.out]; rfl), _, rfl⟩

theorem bit_zero (x : BitVec 64) (n k : Nat) (h : n = k) : (x >>> n).getLsbD 0 = x.getLsbD k := by
  rw [BitVec.getLsbD_ushiftRight, h]; simp

set_option maxHeartbeats 1000000 in
theorem rsign_any (x : BitVec 64) (b : Int) (w : World) :
    Calls Tryd.prog 19 #[.int .u64 (x.toNat : Int), .int .i64 b] w (Quiet (.int .u64 ((signB x b).toNat : Int)) w) := by
  by_cases h1 : b < 1
  · have hg : signB x b = 0 := by unfold signB numW; rw [decide_eq_false (by omega)]; rfl
    have HG := hide hg
    clear hg
    go_enter Tryd.func19, Tryd.ntmps19
    go_wp2
    go_ret
    exact ⟨ret_int (by rw [HG.out]; rfl), 0, rfl⟩
  · by_cases h2 : 64 < b
    · have hg : signB x b = 0 := by unfold signB numW; rw [decide_eq_false (by omega)]; rfl
      have HG := hide hg
      clear hg
      go_enter Tryd.func19, Tryd.ntmps19
      go_wp2
      go_ret
      exact ⟨ret_int (by rw [HG.out]; rfl), 0, rfl⟩
    · have hn : numW b = true := decide_eq_true ⟨by omega, by omega⟩
      have HN := hide hn
      clear hn
      go_enter Tryd.func19, Tryd.ntmps19
      go_wp2
      go_loop [5, 6] (fun m i => ∃ k : Nat, k ≤ 64 ∧ i = .int .i64 k ∧ m = .int .u64 ((lowB (signB x b) k).toNat : Int)) (fun _ i => 64 - (intOf i).toNat)
      case atStart => exact ⟨0, by omega, rfl, by rw [low_zero]; rfl⟩
      case round =>
        obtain ⟨k, hk, rfl, rfl⟩ := hrel
        by_cases hlt : k < 64
        · have hp := sign_bit x b k hlt
          rw [HN.out, Bool.true_and] at hp
          by_cases i1 : (k : Int) < b
          · rw [if_pos i1, ← bit_zero x k k rfl] at hp
            have hs := low_walk (signB x b) (x >>> k) k hlt hp.symm
            have hrx := shr_bv x k
            obtain ⟨M1, hM⟩ : ∃ M1, lowB (signB x b) (k + 1) = M1 := ⟨_, rfl⟩
            rw [hM] at hs
            have HM := hide hM
            clear hM hp
            generalize lowB (signB x b) k = M0 at hs
            generalize x >>> k = X1 at hs hrx
            go_wp2
            go_round
            case rel => exact ⟨k + 1, by omega, by go_num, by rw [HM.out]⟩
            case measure => simp [intOf]; omega
          · rw [if_neg i1, ← bit_zero x (b.toNat - 1) (b - 1).toNat (by omega)] at hp
            have hs := low_walk (signB x b) (x >>> (b.toNat - 1)) k hlt hp.symm
            have hrx := shr_bv x (b.toNat - 1)
            have i6 : 0 ≤ b - 1 := by omega
            have i7 : b - 1 ≤ 64 := by omega
            obtain ⟨M1, hM⟩ : ∃ M1, lowB (signB x b) (k + 1) = M1 := ⟨_, rfl⟩
            rw [hM] at hs
            have HM := hide hM
            clear hM hp
            generalize lowB (signB x b) k = M0 at hs
            generalize x >>> (b.toNat - 1) = X1 at hs hrx
            go_wp2
            go_round
            case rel => exact ⟨k + 1, by omega, by go_num, by rw [HM.out]⟩
            case measure => simp [intOf]; omega
        · obtain rfl : k = 64 := by omega
          rw [low_all]
          go_wp2
          go_ret
          exact ⟨rfl, 0, rfl⟩

end Go.Proofs.YtholamocbkfcmaaDoor