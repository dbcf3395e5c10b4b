/-
  Texts laid one behind the other: FieldMath, FieldWalks, Ref01Walks.
  Plain mathematics of bit fields of words (64 bits), for the layer 'field': what Mask, Get, Put, Sign, Fits answer, as functions on BitVec 64, bit by bit. No Go text here.
  What the functions of package field answer, called with any arguments: each is the plain function of XFieldMath on words of 64 bits, and turns nothing in memory (it draws orders only).
  What the document's own answers of layer 1 (package mintmarkref01) are, called with any arguments: each is the plain function of XFieldMath, though reckoned bit by bit in a loop.
-/
import Derived.Test.YtlommbeokbicjaaGreatDoorGBase
namespace Go.Proofs.YtlommbeokbicjaaGreatDoor.FieldMath
open Go Words

/-! the answers -/
def maskB (w : Int) : BitVec 64 := BitVec.ofNat 64 (2 ^ (min w.toNat 64) - 1)
def okF (a w : Int) : Bool := decide (0 ≤ w ∧ w ≤ 64 ∧ 0 ≤ a ∧ a ≤ 64 - w)
def getB (x : BitVec 64) (a w : Int) : BitVec 64 := if okF a w then (x >>> a.toNat) &&& maskB w else 0
def putB (x : BitVec 64) (a w : Int) (v : BitVec 64) : BitVec 64 :=
  if okF a w then (x &&& ~~~(maskB w <<< a.toNat)) ||| ((v <<< a.toNat) &&& (maskB w <<< a.toNat)) else x
def numW (w : Int) : Bool := decide (1 ≤ w ∧ w ≤ 64)
def signB (x : BitVec 64) (w : Int) : BitVec 64 := if numW w then (x <<< (64 - w).toNat).sshiftRight (64 - w).toNat else 0
def fitsB (x : Int) (w : Int) (s : Bool) : Bool :=
  numW w && (if s then signB (BitVec.ofInt 64 x) w == BitVec.ofInt 64 x else decide (0 ≤ x) && decide (x ≤ ((maskB w).toNat : Int)))

theorem mask_bit (w : Int) (i : Nat) : (maskB w).getLsbD i = (decide (i < 64) && decide ((i : Int) < w)) := by
  unfold maskB
  rw [BitVec.getLsbD_ofNat, Nat.testBit_two_pow_sub_one]
  by_cases h : i < 64 <;> simp [h]
  omega
theorem mask_low (w : Int) (h : w < 1) : maskB w = 0 := by
  unfold maskB
  have : w.toNat = 0 := by omega
  simp [this]
theorem mask_walk (w : Int) (_h : 1 ≤ w) : IntKind.u64.wrap (IntKind.u64.wrap (2 ^ min w.toNat 64) - 1) = ((maskB w).toNat : Int) := by
  unfold maskB
  rw [BitVec.toNat_ofNat]
  have hm : min w.toNat 64 ≤ 64 := by omega
  generalize min w.toNat 64 = k at hm
  have hp : (0 : Nat) < 2 ^ k := Nat.two_pow_pos k
  have hc : ((2 : Int) ^ k) = ((2 ^ k : Nat) : Int) := by simp
  rw [hc, IntKind.wrap_u64, IntKind.wrap_u64]
  rcases Nat.lt_or_eq_of_le hm with h | h
  · have h2 : 2 ^ k < 2 ^ 64 := Nat.pow_lt_pow_right (by decide) h
    omega
  · subst h; decide
theorem get_bit (x : BitVec 64) (a w : Int) (i : Nat) (hi : i < 64) : (getB x a w).getLsbD i = (okF a w && decide ((i : Int) < w) && x.getLsbD (a.toNat + i)) := by
  unfold getB
  by_cases h : okF a w = true
  · rw [if_pos h, BitVec.getLsbD_and, BitVec.getLsbD_ushiftRight, mask_bit, h]
    simp [hi, Bool.and_comm]
  · simp [h]
theorem put_bit (x : BitVec 64) (a w : Int) (v : BitVec 64) (i : Nat) (hi : i < 64) :
    (putB x a w v).getLsbD i = if okF a w = true ∧ a ≤ i ∧ (i : Int) < a + w then v.getLsbD (i - a.toNat) else x.getLsbD i := by
  unfold putB
  by_cases h : okF a w = true
  · have hb : 0 ≤ w ∧ w ≤ 64 ∧ 0 ≤ a ∧ a ≤ 64 - w := by simpa [okF] using h
    obtain ⟨h1, h2, h3, h4⟩ := hb
    simp only [h, if_true, BitVec.getLsbD_or, BitVec.getLsbD_and, BitVec.getLsbD_not, BitVec.getLsbD_shiftLeft, mask_bit]
    by_cases h5 : a ≤ i
    · by_cases h6 : (i : Int) < a + w
      · have e1 : ¬ i < a.toNat := by omega
        have e2 : i - a.toNat < 64 := by omega
        have e3 : ((i - a.toNat : Nat) : Int) < w := by omega
        simp [hi, h5, h6, e1, e2, e3]
      · have e3 : ¬ ((i - a.toNat : Nat) : Int) < w := by omega
        simp [hi, h6, e3]
    · have e1 : i < a.toNat := by omega
      simp [hi, h5, e1]
  · simp [h]
theorem sign_bit (x : BitVec 64) (w : Int) (i : Nat) (hi : i < 64) : (signB x w).getLsbD i = (numW w && x.getLsbD (if (i : Int) < w then i else (w - 1).toNat)) := by
  unfold signB
  by_cases h : numW w = true
  · have hb : 1 ≤ w ∧ w ≤ 64 := by simpa [numW] using h
    obtain ⟨h1, h2⟩ := hb
    have hk : (64 - w).toNat < 64 := by omega
    simp only [h, if_true, BitVec.getLsbD_sshiftRight, BitVec.getLsbD_shiftLeft, BitVec.msb_eq_getLsbD_last, Bool.true_and]
    by_cases h3 : (i : Int) < w
    · have e1 : (64 - w).toNat + i < 64 := by omega
      have e2 : ¬ 64 ≤ i := by omega
      have e3 : ¬ (64 - w).toNat + i < (64 - w).toNat := by omega
      have e4 : (64 - w).toNat + i - (64 - w).toNat = i := by omega
      rw [if_pos h3, if_pos e1, e4]
      simp only [e1, e2, e3, decide_true, decide_false, Bool.not_false, Bool.true_and]
    · have e1 : ¬ (64 - w).toNat + i < 64 := by omega
      have e2 : ¬ 64 ≤ i := by omega
      have e3 : 63 - (64 - w).toNat = (w - 1).toNat := by omega
      have e4 : ¬ 63 < (64 - w).toNat := by omega
      simp [h3, e1, e2, e3, e4]
  · simp [h]
end Go.Proofs.YtlommbeokbicjaaGreatDoor.FieldMath

namespace Go.Proofs.YtlommbeokbicjaaGreatDoor
open Go.RowKit Words FieldMath

set_option maxHeartbeats 400000 in
theorem mask_any (a : Int) (w : World) : Calls Tryz.prog 43 #[.int .i64 a] w (Quiet (.int .u64 ((maskB a).toNat : Int)) w) := by
  by_cases h : a < 1
  · go_enter Tryz.func43, Tryz.ntmps43
    go_wp2
    go_ret
    exact ⟨ret_int (by rw [mask_low a h]; rfl), 0, rfl⟩
  · have h1 : 1 ≤ a := by omega
    have h0 : 0 ≤ a := by omega
    go_enter Tryz.func43, Tryz.ntmps43
    go_wp2
    go_ret
    exact ⟨ret_int (mask_walk a h1), 0, rfl⟩

set_option maxHeartbeats 400000 in
theorem valid_any (a b : Int) (w : World) : Calls Tryz.prog 42 #[.int .i64 a, .int .i64 b] w (Quiet (.bool (okF a b)) w) := by
  go_enter Tryz.func42, Tryz.ntmps42
  go_wp2
  all_goals
    go_ret
    exact ⟨ret_bool (by unfold okF; first | exact decide_eq_decide.mpr (by omega) | exact (decide_eq_true (by omega)).symm | exact (decide_eq_false (by omega)).symm), 0, rfl⟩

set_option maxHeartbeats 400000 in
theorem hasNumbers_any (a : Int) (w : World) : Calls Tryz.prog 73 #[.int .i64 a] w (Quiet (.bool (numW a)) w) := by
  go_enter Tryz.func73, Tryz.ntmps73
  go_wp2
  all_goals
    go_ret
    exact ⟨ret_bool (by unfold numW; first | exact decide_eq_decide.mpr (by omega) | exact (decide_eq_true (by omega)).symm | exact (decide_eq_false (by omega)).symm), 0, rfl⟩

set_option maxHeartbeats 400000 in
theorem get_any (x : BitVec 64) (a b : Int) (w : World) : Calls Tryz.prog 71 #[.int .u64 (x.toNat : Int), .int .i64 a, .int .i64 b] w (Quiet (.int .u64 ((getB x a b).toNat : Int)) w) := by
  by_cases h : okF a b = true
  · have hb : 0 ≤ b ∧ b ≤ 64 ∧ 0 ≤ a ∧ a ≤ 64 - b := by simpa [okF] using h
    obtain ⟨h1, h2, h3, h4⟩ := hb
    have h5 : a ≤ 64 := by omega
    have hg : getB x a b = (x >>> a.toNat) &&& maskB b := by unfold getB; rw [if_pos h]
    have HG := hide hg
    clear hg
    have hv := fun W => valid_any a b W
    rw [h] at hv
    clear h
    go_enter Tryz.func71, Tryz.ntmps71
    go_wp2_with (go_at_call 42; refine (hv _).mono ?_; rintro e w' ⟨rfl, n, rfl⟩)
    go_quiet ((go_at_call 43; first | exact Quiet.region (fun W => mask_any b W) | exact Quiet.regionAdd (fun W => mask_any b W)))
    go_wp2
    go_ret
    exact ⟨ret_int (by rw [HG.out, shr_bv, and_bv]), _, World.drewN_drewN ..⟩
  · have hg : getB x a b = 0 := by unfold getB; rw [if_neg h]
    have HG := hide hg
    clear hg
    have h' : okF a b = false := by simpa using h
    have hv := fun W => valid_any a b W
    rw [h'] at hv
    clear h h'
    go_enter Tryz.func71, Tryz.ntmps71
    go_wp2_with (go_at_call 42; refine (hv _).mono ?_; rintro e w' ⟨rfl, n, rfl⟩)
    go_ret
    exact ⟨ret_int (by rw [HG.out]; rfl), _, rfl⟩


set_option maxHeartbeats 400000 in
theorem put_any (x : BitVec 64) (a b : Int) (v : BitVec 64) (w : World) :
    Calls Tryz.prog 18 #[.int .u64 (x.toNat : Int), .int .i64 a, .int .i64 b, .int .u64 (v.toNat : Int)] w (Quiet (.int .u64 ((putB x a b v).toNat : Int)) w) := by
  by_cases h : okF a b = true
  · have hb : 0 ≤ b ∧ b ≤ 64 ∧ 0 ≤ a ∧ a ≤ 64 - b := by simpa [okF] using h
    obtain ⟨h1, h2, h3, h4⟩ := hb
    have h5 : a ≤ 64 := by omega
    have hg : putB x a b v = (x &&& ~~~(maskB b <<< a.toNat)) ||| ((v <<< a.toNat) &&& (maskB b <<< a.toNat)) := by unfold putB; rw [if_pos h]
    have HG := hide hg
    clear hg
    have hv := fun W => valid_any a b W
    rw [h] at hv
    clear h
    go_enter Tryz.func18, Tryz.ntmps18
    go_wp2_with (first | (go_at_call 42; refine (hv _).mono ?_; rintro e w' ⟨rfl, n, rfl⟩) | (go_at_call 43; refine (mask_any _ _).mono ?_; rintro e w' ⟨rfl, n, rfl⟩))
    go_ret
    exact ⟨ret_int (by rw [HG.out, shl_bv, shl_bv, and_bv, andNot_bv, or_bv]), _, rfl⟩
  · have hg : putB x a b v = x := by unfold putB; rw [if_neg h]
    have HG := hide hg
    clear hg
    have h' : okF a b = false := by simpa using h
    have hv := fun W => valid_any a b W
    rw [h'] at hv
    clear h h'
    go_enter Tryz.func18, Tryz.ntmps18
    go_wp2_with (go_at_call 42; refine (hv _).mono ?_; rintro e w' ⟨rfl, n, rfl⟩)
    go_ret
    exact ⟨ret_int (by rw [HG.out]), _, rfl⟩

set_option maxHeartbeats 400000 in
theorem sign_any (x : BitVec 64) (b : Int) (w : World) :
    Calls Tryz.prog 72 #[.int .u64 (x.toNat : Int), .int .i64 b] w (Quiet (.int .u64 ((signB x b).toNat : Int)) w) := by
  by_cases h : numW b = true
  · have hb : 1 ≤ b ∧ b ≤ 64 := by simpa [numW] using h
    obtain ⟨h1, h2⟩ := hb
    have hg : signB x b = (x <<< (64 - b).toNat).sshiftRight (64 - b).toNat := by unfold signB; rw [if_pos h]
    have HG := hide hg
    clear hg
    have hv := fun W => hasNumbers_any b W
    rw [h] at hv
    clear h
    go_enter Tryz.func72, Tryz.ntmps72
    go_wp2_with (go_at_call 73; refine (hv _).mono ?_; rintro e w' ⟨rfl, n, rfl⟩)
    go_ret
    exact ⟨ret_int (by rw [HG.out, shl_bv, wrap64_bv, sar_bv, wrap_toInt]), _, rfl⟩
  · have hg : signB x b = 0 := by unfold signB; rw [if_neg h]
    have HG := hide hg
    clear hg
    have h' : numW b = false := by simpa using h
    have hv := fun W => hasNumbers_any b W
    rw [h'] at hv
    clear h h'
    go_enter Tryz.func72, Tryz.ntmps72
    go_wp2_with (go_at_call 73; refine (hv _).mono ?_; rintro e w' ⟨rfl, n, rfl⟩)
    go_ret
    exact ⟨ret_int (by rw [HG.out]; rfl), _, rfl⟩


set_option maxHeartbeats 400000 in
theorem fits_any (x : Int) (b : Int) (s : Bool) (w : World) (hx : -9223372036854775808 ≤ x) (hx2 : x < 9223372036854775808) :
    Calls Tryz.prog 40 #[.int .i64 x, .int .i64 b, .bool s] w (Quiet (.bool (fitsB x b s)) w) := by
  by_cases h : numW b = true
  · have hv := fun W => hasNumbers_any b W
    rw [h] at hv
    have hs := fun W => sign_any (BitVec.ofInt 64 x) b W
    rw [← wrap_u64_bv] at hs
    cases s with
    | true =>
      have hg : fitsB x b true = (signB (BitVec.ofInt 64 x) b == BitVec.ofInt 64 x) := by unfold fitsB; rw [h]; simp
      have HG := hide hg
      clear hg h
      go_enter Tryz.func40, Tryz.ntmps40
      go_wp2_with (first | (go_at_call 73; refine (hv _).mono ?_; rintro e w' ⟨rfl, n, rfl⟩) | (go_at_call 72; refine (hs _).mono ?_; rintro e w' ⟨rfl, n2, rfl⟩))
      go_ret
      exact ⟨ret_bool (by rw [HG.out, wrap_u64_bv, bv_eq_iff]), _, rfl⟩
    | false =>
      have hg : fitsB x b false = (decide (0 ≤ x) && decide (x ≤ ((maskB b).toNat : Int))) := by unfold fitsB; rw [h]; simp
      have HG := hide hg
      clear hg h
      by_cases h0 : 0 ≤ x
      · go_enter Tryz.func40, Tryz.ntmps40
        go_wp2_with (first | (go_at_call 73; refine (hv _).mono ?_; rintro e w' ⟨rfl, n, rfl⟩) | (go_at_call 43; refine (mask_any _ _).mono ?_; rintro e w' ⟨rfl, n2, rfl⟩))
        go_ret
        exact ⟨ret_bool (by rw [HG.out]; simp [h0]), _, rfl⟩
      · go_enter Tryz.func40, Tryz.ntmps40
        go_wp2_with (first | (go_at_call 73; refine (hv _).mono ?_; rintro e w' ⟨rfl, n, rfl⟩))
        go_ret
        exact ⟨ret_bool (by rw [HG.out, decide_eq_false (show ¬ 0 ≤ x by omega)]; rfl), _, rfl⟩
  · have hg : fitsB x b s = false := by unfold fitsB; simp [h]
    have HG := hide hg
    clear hg
    have h' : numW b = false := by simpa using h
    have hv := fun W => hasNumbers_any b W
    rw [h'] at hv
    clear h h'
    go_enter Tryz.func40, Tryz.ntmps40
    go_wp2_with (go_at_call 73; refine (hv _).mono ?_; rintro e w' ⟨rfl, n, rfl⟩)
    go_ret
    exact ⟨ret_bool (by rw [HG.out]), _, rfl⟩

end Go.Proofs.YtlommbeokbicjaaGreatDoor

namespace Go.Proofs.YtlommbeokbicjaaGreatDoor
open Go.RowKit Words FieldMath

/-- The lowest i bits of T: what a loop that lays T bit by bit has after i rounds. -/
def lowB (T : BitVec 64) (i : Nat) : BitVec 64 := T &&& maskB i
theorem low_bit (T : BitVec 64) (i j : Nat) (hj : j < 64) : (lowB T i).getLsbD j = (decide (j < i) && T.getLsbD j) := by
  unfold lowB
  rw [BitVec.getLsbD_and, mask_bit]
  have e : ((j : Int) < (i : Int)) ↔ j < i := by omega
  simp only [hj, e, decide_true, Bool.true_and]
  exact Bool.and_comm _ _
theorem low_zero (T : BitVec 64) : lowB T 0 = 0 := ext64 fun j hj => by rw [low_bit _ _ _ hj]; simp
theorem low_all (T : BitVec 64) : lowB T 64 = T := ext64 fun j hj => by rw [low_bit _ _ _ hj]; simp [hj]
theorem low_step (T B : BitVec 64) (i : Nat) (hi : i < 64) (h : B.getLsbD 0 = T.getLsbD i) : lowB T i ||| ((B &&& 1#64) <<< i) = lowB T (i + 1) := by
  refine ext64 fun j hj => ?_
  rw [BitVec.getLsbD_or, BitVec.getLsbD_shiftLeft, BitVec.getLsbD_and, low_bit _ _ _ hj, low_bit _ _ _ hj]
  have e1 : (1#64).getLsbD (j - i) = decide (j - i = 0) := by
    rw [BitVec.getLsbD_one]; simp
  rw [e1]
  by_cases h1 : j < i
  · have h2 : j < i + 1 := by omega
    simp [h1, h2]
  · by_cases h3 : j = i
    · subst h3
      simp only [Nat.lt_irrefl, decide_false, Bool.false_and, Bool.false_or, Nat.sub_self, decide_true, Bool.and_true, Bool.not_false, hj, Nat.lt_succ_self, Bool.true_and, h]
    · have h4 : ¬ j < i + 1 := by omega
      have h5 : j - i ≠ 0 := by omega
      simp [h1, h4, h5]
/-- The round's number, as the walk spells it. -/
theorem low_walk (T B : BitVec 64) (i : Nat) (hi : i < 64) (h : B.getLsbD 0 = T.getLsbD i) :
    bits .or .u64 ((lowB T i).toNat : Int) (IntKind.u64.wrap (bits .and .u64 (B.toNat : Int) 1 * 2 ^ i)) = ((lowB T (i + 1)).toNat : Int) := by
  have e1 : (1 : Int) = ((1#64).toNat : Int) := by decide
  rw [e1, and_bv, shl_bv, or_bv, low_step T B i hi h]

set_option maxHeartbeats 400000 in
theorem rmay_any (a b : Int) (w : World) : Calls Tryz.prog 125 #[.int .i64 a, .int .i64 b] w (Quiet (.bool (okF a b)) w) := by
  go_enter Tryz.func125, Tryz.ntmps125
  go_wp2
  all_goals
    go_ret
    exact ⟨ret_bool (by unfold okF; first | exact decide_eq_decide.mpr (by omega) | exact (decide_eq_true (by omega)).symm | exact (decide_eq_false (by omega)).symm), 0, rfl⟩

theorem get_low (x : BitVec 64) (a w : Int) (k : Nat) (hk : k < 64) (h : okF a w = true) (hw : (k : Int) < w) : (x >>> (a + k).toNat).getLsbD 0 = (getB x a w).getLsbD k := by
  have hb : 0 ≤ w ∧ w ≤ 64 ∧ 0 ≤ a ∧ a ≤ 64 - w := by simpa [okF] using h
  rw [BitVec.getLsbD_ushiftRight, get_bit _ _ _ _ hk, h]
  have e : (a + k).toNat + 0 = a.toNat + k := by omega
  rw [e]
  simp only [hw, decide_true, Bool.true_and]
theorem get_end (x : BitVec 64) (a w : Int) (k : Nat) (h : okF a w = true) (hw : ¬ (k : Int) < w) : lowB (getB x a w) k = getB x a w := by
  refine ext64 fun j hj => ?_
  rw [low_bit _ _ _ hj, get_bit _ _ _ _ hj, h]
  by_cases h1 : (j : Int) < w
  · have h2 : j < k := by omega
    simp only [h2, decide_true, Bool.true_and]
  · simp only [h1, decide_false, Bool.and_false, Bool.false_and]
set_option maxHeartbeats 400000 in
theorem rget_any (x : BitVec 64) (a b : Int) (w : World) : Calls Tryz.prog 94 #[.int .u64 (x.toNat : Int), .int .i64 a, .int .i64 b] w (Quiet (.int .u64 ((getB x a b).toNat : Int)) w) := by
  by_cases h : okF a b = true
  · have hb : 0 ≤ b ∧ b ≤ 64 ∧ 0 ≤ a ∧ a ≤ 64 - b := by simpa [okF] using h
    obtain ⟨h1, h2, h3, h4⟩ := hb
    have HOK := hide h
    have hv := fun W => rmay_any a b W
    rw [h] at hv
    have HV := hide hv
    clear h hv
    go_enter Tryz.func94, Tryz.ntmps94
    go_wp2
    go_loopw [7, 8] (fun m i wr => ∃ k : Nat, (k : Int) ≤ b ∧ i = .int .i64 k ∧ m = .int .u64 ((lowB (getB x a b) k).toNat : Int) ∧ ∃ n, wr = w.drewN n) (fun _ i _ => 64 - (intOf i).toNat)
    case atStart => exact ⟨0, by omega, rfl, by rw [low_zero]; rfl, 0, rfl⟩
    case round =>
      obtain ⟨k, hk, rfl, rfl, nn, rfl⟩ := hrel
      by_cases hlt : (k : Int) < b
      · have hk64 : k < 64 := by omega
        have hs := low_walk (getB x a b) (x >>> (a + k).toNat) k hk64 (get_low x a b k hk64 HOK.out hlt)
        have hr := shr_bv x (a + k).toNat
        obtain ⟨M1, hM⟩ : ∃ M1, lowB (getB x a b) (k + 1) = M1 := ⟨_, rfl⟩
        rw [hM] at hs
        have HM := hide hM
        clear hM
        generalize lowB (getB x a b) k = M0 at hs
        generalize x >>> (a + k).toNat = X1 at hs hr
        have g1 : 0 ≤ a + k := by omega
        have g2 : a + k ≤ 64 := by omega
        go_wp2_with (go_at_call 125; refine (HV.out _).mono ?_; rintro e w' ⟨rfl, n, rfl⟩)
        go_roundw
        case rel => exact ⟨k + 1, by omega, by go_num, by rw [HM.out], _, rfl⟩
        case measure => simp [intOf]; omega
      · have he := get_end x a b k HOK.out hlt
        have HE := hide he
        clear he
        go_wp2_with (go_at_call 125; refine (HV.out _).mono ?_; rintro e w' ⟨rfl, n, rfl⟩)
        go_ret
        exact ⟨ret_int (by rw [HE.out]), _, rfl⟩
  · have hg : getB x a b = 0 := by unfold getB; rw [if_neg h]
    have HG := hide hg
    clear hg
    have h' : okF a b = false := by simpa using h
    have hv := fun W => rmay_any a b W
    rw [h'] at hv
    have HV := hide hv
    clear h h' hv
    go_enter Tryz.func94, Tryz.ntmps94
    go_wp2
    refine wp_loop_rounds 1 ?_
    rw [rounds_succ]
    go_wp2_with (go_at_call 125; refine (HV.out _).mono ?_; rintro e w' ⟨rfl, n, rfl⟩)
    go_ret
    exact ⟨ret_int (by rw [HG.out]; rfl), _, rfl⟩

theorem bit_zero (x : BitVec 64) (n k : Nat) (h : n = k) : (x >>> n).getLsbD 0 = x.getLsbD k := by
  rw [BitVec.getLsbD_ushiftRight, h]; simp

set_option maxHeartbeats 1000000 in
theorem rsign_any (x : BitVec 64) (b : Int) (w : World) :
    Calls Tryz.prog 124 #[.int .u64 (x.toNat : Int), .int .i64 b] w (Quiet (.int .u64 ((signB x b).toNat : Int)) w) := by
  by_cases h1 : b < 1
  · have hg : signB x b = 0 := by unfold signB numW; rw [decide_eq_false (by omega)]; rfl
    have HG := hide hg
    clear hg
    go_enter Tryz.func124, Tryz.ntmps124
    go_wp2
    go_ret
    exact ⟨ret_int (by rw [HG.out]; rfl), 0, rfl⟩
  · by_cases h2 : 64 < b
    · have hg : signB x b = 0 := by unfold signB numW; rw [decide_eq_false (by omega)]; rfl
      have HG := hide hg
      clear hg
      go_enter Tryz.func124, Tryz.ntmps124
      go_wp2
      go_ret
      exact ⟨ret_int (by rw [HG.out]; rfl), 0, rfl⟩
    · have hn : numW b = true := decide_eq_true ⟨by omega, by omega⟩
      have HN := hide hn
      clear hn
      go_enter Tryz.func124, Tryz.ntmps124
      go_wp2
      go_loop [5, 6] (fun m i => ∃ k : Nat, k ≤ 64 ∧ i = .int .i64 k ∧ m = .int .u64 ((lowB (signB x b) k).toNat : Int)) (fun _ i => 64 - (intOf i).toNat)
      case atStart => exact ⟨0, by omega, rfl, by rw [low_zero]; rfl⟩
      case round =>
        obtain ⟨k, hk, rfl, rfl⟩ := hrel
        by_cases hlt : k < 64
        · have hp := sign_bit x b k hlt
          rw [HN.out, Bool.true_and] at hp
          by_cases i1 : (k : Int) < b
          · rw [if_pos i1, ← bit_zero x k k rfl] at hp
            have hs := low_walk (signB x b) (x >>> k) k hlt hp.symm
            have hrx := shr_bv x k
            obtain ⟨M1, hM⟩ : ∃ M1, lowB (signB x b) (k + 1) = M1 := ⟨_, rfl⟩
            rw [hM] at hs
            have HM := hide hM
            clear hM hp
            generalize lowB (signB x b) k = M0 at hs
            generalize x >>> k = X1 at hs hrx
            go_wp2
            go_round
            case rel => exact ⟨k + 1, by omega, by go_num, by rw [HM.out]⟩
            case measure => simp [intOf]; omega
          · rw [if_neg i1, ← bit_zero x (b.toNat - 1) (b - 1).toNat (by omega)] at hp
            have hs := low_walk (signB x b) (x >>> (b.toNat - 1)) k hlt hp.symm
            have hrx := shr_bv x (b.toNat - 1)
            have i6 : 0 ≤ b - 1 := by omega
            have i7 : b - 1 ≤ 64 := by omega
            obtain ⟨M1, hM⟩ : ∃ M1, lowB (signB x b) (k + 1) = M1 := ⟨_, rfl⟩
            rw [hM] at hs
            have HM := hide hM
            clear hM hp
            generalize lowB (signB x b) k = M0 at hs
            generalize x >>> (b.toNat - 1) = X1 at hs hrx
            go_wp2
            go_round
            case rel => exact ⟨k + 1, by omega, by go_num, by rw [HM.out]⟩
            case measure => simp [intOf]; omega
        · obtain rfl : k = 64 := by omega
          rw [low_all]
          go_wp2
          go_ret
          exact ⟨rfl, 0, rfl⟩

theorem mask_toNat (w : Int) (h2 : w ≤ 64) : (maskB w).toNat = 2 ^ w.toNat - 1 := by
  unfold maskB
  have e : min w.toNat 64 = w.toNat := by omega
  have hk : w.toNat ≤ 64 := by omega
  rw [e, BitVec.toNat_ofNat]
  generalize w.toNat = k at hk
  have : 2 ^ k ≤ 2 ^ 64 := Nat.pow_le_pow_right (by decide) hk
  have hp : (0 : Nat) < 2 ^ k := Nat.two_pow_pos k
  omega
theorem get_fits (X : BitVec 64) (w : Int) (h1 : 1 ≤ w) (h2 : w ≤ 64) : (((getB X 0 w).toNat : Int) == (X.toNat : Int)) = decide ((X.toNat : Int) ≤ ((maskB w).toNat : Int)) := by
  have ho : okF 0 w = true := decide_eq_true ⟨by omega, h2, by omega, by omega⟩
  have e : getB X 0 w = X &&& maskB w := by
    unfold getB
    rw [if_pos ho]
    simp
  rw [e, BitVec.toNat_and, mask_toNat w h2, Nat.and_two_pow_sub_one_eq_mod, Bool.eq_iff_iff, beq_iff_eq, decide_eq_true_eq]
  have hp : (0 : Nat) < 2 ^ w.toNat := Nat.two_pow_pos _
  have hm := Nat.mod_lt X.toNat hp
  constructor
  · intro h; omega
  · intro h
    rw [Nat.mod_eq_of_lt (by omega)]
set_option maxHeartbeats 1000000 in
theorem rfits_any (x : Int) (b : Int) (s : Bool) (w : World) (hx : -9223372036854775808 ≤ x) (hx2 : x < 9223372036854775808) :
    Calls Tryz.prog 97 #[.int .i64 x, .int .i64 b, .bool s] w (Quiet (.bool (fitsB x b s)) w) := by
  by_cases h : numW b = true
  · have hb : 1 ≤ b ∧ b ≤ 64 := by simpa [numW] using h
    obtain ⟨h1, h2⟩ := hb
    have hs := fun W => rsign_any (BitVec.ofInt 64 x) b W
    rw [← wrap_u64_bv] at hs
    cases s with
    | true =>
      have hg : fitsB x b true = (signB (BitVec.ofInt 64 x) b == BitVec.ofInt 64 x) := by unfold fitsB; rw [h]; simp
      have HG := hide hg
      have HS := hide hs
      clear hg h hs
      go_enter Tryz.func97, Tryz.ntmps97
      go_wp2_with (go_at_call 124; refine (HS.out _).mono ?_; rintro e w' ⟨rfl, n2, rfl⟩)
      go_ret
      exact ⟨ret_bool (by rw [HG.out, wrap_u64_bv, bv_eq_iff]), _, rfl⟩
    | false =>
      have hg : fitsB x b false = (decide (0 ≤ x) && decide (x ≤ ((maskB b).toNat : Int))) := by unfold fitsB; rw [h]; simp
      have HG := hide hg
      clear hg h hs
      by_cases h0 : 0 ≤ x
      · obtain ⟨G, hu, hf⟩ : ∃ G : Int, (∀ W, Calls Tryz.prog 94 #[.int .u64 x, .int .i64 0, .int .i64 b] W (Quiet (.int .u64 G) W)) ∧ (G == x) = decide (x ≤ ((maskB b).toNat : Int)) := by
          obtain ⟨X, rfl⟩ : ∃ X : BitVec 64, x = (X.toNat : Int) := ⟨BitVec.ofNat 64 x.toNat, by rw [BitVec.toNat_ofNat, Nat.mod_eq_of_lt (by omega)]; omega⟩
          exact ⟨_, fun W => rget_any X 0 b W, get_fits X b h1 h2⟩
        have HF := hide hf
        have HU := hide hu
        clear hf hu
        go_enter Tryz.func97, Tryz.ntmps97
        go_wp2_with (go_at_call 94; refine (HU.out _).mono ?_; rintro e w' ⟨rfl, n2, rfl⟩)
        go_ret
        exact ⟨ret_bool (by rw [HG.out, HF.out, decide_eq_true h0]; rfl), _, rfl⟩
      · go_enter Tryz.func97, Tryz.ntmps97
        go_wp2
        go_ret
        exact ⟨ret_bool (by rw [HG.out, decide_eq_false (show ¬ 0 ≤ x by omega)]; rfl), 0, rfl⟩
  · have hg : fitsB x b s = false := by unfold fitsB; simp [h]
    have HG := hide hg
    clear hg
    have h' : ¬ (1 ≤ b ∧ b ≤ 64) := by simpa [numW] using h
    clear h
    by_cases h1 : b < 1
    · go_enter Tryz.func97, Tryz.ntmps97
      go_wp2
      go_ret
      exact ⟨ret_bool (by rw [HG.out]), 0, rfl⟩
    · have h2 : 64 < b := by omega
      clear h'
      go_enter Tryz.func97, Tryz.ntmps97
      go_wp2
      go_ret
      exact ⟨ret_bool (by rw [HG.out]), 0, rfl⟩
end Go.Proofs.YtlommbeokbicjaaGreatDoor
