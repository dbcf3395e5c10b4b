/-
  What the functions of package field answer, called with any arguments: each is the plain function of XFieldMath on words of 64 bits, and turns nothing in memory (it draws orders only).
-/
import Derived.Test.YtlommbeokbicjaaGreatDoorQuiet
import Derived.Test.YtlommbeokbicjaaGreatDoorFieldMath
namespace Go.Proofs.YtlommbeokbicjaaGreatDoor
open Go.RowKit Words FieldMath

set_option maxHeartbeats 400000 in
theorem mask_any (a : Int) (w : World) : Calls Tryz.prog 43 #[.int .i64 a] w (Quiet (.int .u64 ((maskB a).toNat : Int)) w) := by
  by_cases h : a < 1
  · go_enter Tryz.func43, Tryz.ntmps43
    go_wp2
    go_ret
    exact ⟨ret_int (by rw [mask_low a h]; rfl), 0, rfl⟩
  · have h1 : 1 ≤ a := by omega
    have h0 : 0 ≤ a := by omega
    go_enter Tryz.func43, Tryz.ntmps43
    go_wp2
    go_ret
    exact ⟨ret_int (mask_walk a h1), 0, rfl⟩

set_option maxHeartbeats 400000 in
theorem valid_any (a b : Int) (w : World) : Calls Tryz.prog 42 #[.int .i64 a, .int .i64 b] w (Quiet (.bool (okF a b)) w) := by
  go_enter Tryz.func42, Tryz.ntmps42
  go_wp2
  all_goals
    go_ret
    exact ⟨ret_bool (by unfold okF; first | exact decide_eq_decide.mpr (by omega) | exact (decide_eq_true (by omega)).symm | exact (decide_eq_false (by omega)).symm), 0, rfl⟩

set_option maxHeartbeats 400000 in
theorem hasNumbers_any (a : Int) (w : World) : Calls Tryz.prog 73 #[.int .i64 a] w (Quiet (.bool (numW a)) w) := by
  go_enter Tryz.func73, Tryz.ntmps73
  go_wp2
  all_goals
    go_ret
    exact ⟨ret_bool (by unfold numW; first | exact decide_eq_decide.mpr (by omega) | exact (decide_eq_true (by omega)).symm | exact (decide_eq_false (by omega)).symm), 0, rfl⟩

set_option maxHeartbeats 400000 in
theorem get_any (x : BitVec 64) (a b : Int) (w : World) : Calls Tryz.prog 71 #[.int .u64 (x.toNat : Int), .int .i64 a, .int .i64 b] w (Quiet (.int .u64 ((getB x a b).toNat : Int)) w) := by
  by_cases h : okF a b = true
  · have hb : 0 ≤ b ∧ b ≤ 64 ∧ 0 ≤ a ∧ a ≤ 64 - b := by simpa [okF] using h
    obtain ⟨h1, h2, h3, h4⟩ := hb
    have h5 : a ≤ 64 := by omega
    have hg : getB x a b = (x >>> a.toNat) &&& maskB b := by unfold getB; rw [if_pos h]
    have HG := hide hg
    clear hg
    have hv := fun W => valid_any a b W
    rw [h] at hv
    clear h
    go_enter Tryz.func71, Tryz.ntmps71
    go_wp2_with (go_at_call 42; refine (hv _).mono ?_; rintro e w' ⟨rfl, n, rfl⟩)
    go_quiet ((go_at_call 43; first | exact Quiet.region (fun W => mask_any b W) | exact Quiet.regionAdd (fun W => mask_any b W)))
    go_wp2
    go_ret
    exact ⟨ret_int (by rw [HG.out, shr_bv, and_bv]), _, World.drewN_drewN ..⟩
  · have hg : getB x a b = 0 := by unfold getB; rw [if_neg h]
    have HG := hide hg
    clear hg
    have h' : okF a b = false := by simpa using h
    have hv := fun W => valid_any a b W
    rw [h'] at hv
    clear h h'
    go_enter Tryz.func71, Tryz.ntmps71
    go_wp2_with (go_at_call 42; refine (hv _).mono ?_; rintro e w' ⟨rfl, n, rfl⟩)
    go_ret
    exact ⟨ret_int (by rw [HG.out]; rfl), _, rfl⟩


set_option maxHeartbeats 400000 in
theorem put_any (x : BitVec 64) (a b : Int) (v : BitVec 64) (w : World) :
    Calls Tryz.prog 18 #[.int .u64 (x.toNat : Int), .int .i64 a, .int .i64 b, .int .u64 (v.toNat : Int)] w (Quiet (.int .u64 ((putB x a b v).toNat : Int)) w) := by
  by_cases h : okF a b = true
  · have hb : 0 ≤ b ∧ b ≤ 64 ∧ 0 ≤ a ∧ a ≤ 64 - b := by simpa [okF] using h
    obtain ⟨h1, h2, h3, h4⟩ := hb
    have h5 : a ≤ 64 := by omega
    have hg : putB x a b v = (x &&& ~~~(maskB b <<< a.toNat)) ||| ((v <<< a.toNat) &&& (maskB b <<< a.toNat)) := by unfold putB; rw [if_pos h]
    have HG := hide hg
    clear hg
    have hv := fun W => valid_any a b W
    rw [h] at hv
    clear h
    go_enter Tryz.func18, Tryz.ntmps18
    go_wp2_with (first | (go_at_call 42; refine (hv _).mono ?_; rintro e w' ⟨rfl, n, rfl⟩) | (go_at_call 43; refine (mask_any _ _).mono ?_; rintro e w' ⟨rfl, n, rfl⟩))
    go_ret
    exact ⟨ret_int (by rw [HG.out, shl_bv, shl_bv, and_bv, andNot_bv, or_bv]), _, rfl⟩
  · have hg : putB x a b v = x := by unfold putB; rw [if_neg h]
    have HG := hide hg
    clear hg
    have h' : okF a b = false := by simpa using h
    have hv := fun W => valid_any a b W
    rw [h'] at hv
    clear h h'
    go_enter Tryz.func18, Tryz.ntmps18
    go_wp2_with (go_at_call 42; refine (hv _).mono ?_; rintro e w' ⟨rfl, n, rfl⟩)
    go_ret
    exact ⟨ret_int (by rw [HG.out]), _, rfl⟩

set_option maxHeartbeats 400000 in
theorem sign_any (x : BitVec 64) (b : Int) (w : World) :
    Calls Tryz.prog 72 #[.int .u64 (x.toNat : Int), .int .i64 b] w (Quiet (.int .u64 ((signB x b).toNat : Int)) w) := by
  by_cases h : numW b = true
  · have hb : 1 ≤ b ∧ b ≤ 64 := by simpa [numW] using h
    obtain ⟨h1, h2⟩ := hb
    have hg : signB x b = (x <<< (64 - b).toNat).sshiftRight (64 - b).toNat := by unfold signB; rw [if_pos h]
    have HG := hide hg
    clear hg
    have hv := fun W => hasNumbers_any b W
    rw [h] at hv
    clear h
    go_enter Tryz.func72, Tryz.ntmps72
    go_wp2_with (go_at_call 73; refine (hv _).mono ?_; rintro e w' ⟨rfl, n, rfl⟩)
    go_ret
    exact ⟨ret_int (by rw [HG.out, shl_bv, wrap64_bv, sar_bv, wrap_toInt]), _, rfl⟩
  · have hg : signB x b = 0 := by unfold signB; rw [if_neg h]
    have HG := hide hg
    clear hg
    have h' : numW b = false := by simpa using h
    have hv := fun W => hasNumbers_any b W
    rw [h'] at hv
    clear h h'
    go_enter Tryz.func72, Tryz.ntmps72
    go_wp2_with (go_at_call 73; refine (hv _).mono ?_; rintro e w' ⟨rfl, n, rfl⟩)
    go_ret
    exact ⟨ret_int (by rw [HG.out]; rfl), _, rfl⟩


set_option maxHeartbeats 400000 in
theorem fits_any (x : Int) (b : Int) (s : Bool) (w : World) (hx : -9223372036854775808 ≤ x) (hx2 : x < 9223372036854775808) :
    Calls Tryz.prog 40 #[.int .i64 x, .int .i64 b, .bool s] w (Quiet (.bool (fitsB x b s)) w) := by
  by_cases h : numW b = true
  · have hv := fun W => hasNumbers_any b W
    rw [h] at hv
    have hs := fun W => sign_any (BitVec.ofInt 64 x) b W
    rw [← wrap_u64_bv] at hs
    cases s with
    | true =>
      have hg : fitsB x b true = (signB (BitVec.ofInt 64 x) b == BitVec.ofInt 64 x) := by unfold fitsB; rw [h]; simp
      have HG := hide hg
      clear hg h
      go_enter Tryz.func40, Tryz.ntmps40
      go_wp2_with (first | (go_at_call 73; refine (hv _).mono ?_; rintro e w' ⟨rfl, n, rfl⟩) | (go_at_call 72; refine (hs _).mono ?_; rintro e w' ⟨rfl, n2, rfl⟩))
      go_ret
      exact ⟨ret_bool (by rw [HG.out, wrap_u64_bv, bv_eq_iff]), _, rfl⟩
    | false =>
      have hg : fitsB x b false = (decide (0 ≤ x) && decide (x ≤ ((maskB b).toNat : Int))) := by unfold fitsB; rw [h]; simp
      have HG := hide hg
      clear hg h
      by_cases h0 : 0 ≤ x
      · go_enter Tryz.func40, Tryz.ntmps40
        go_wp2_with (first | (go_at_call 73; refine (hv _).mono ?_; rintro e w' ⟨rfl, n, rfl⟩) | (go_at_call 43; refine (mask_any _ _).mono ?_; rintro e w' ⟨rfl, n2, rfl⟩))
        go_ret
        exact ⟨ret_bool (by rw [HG.out]; simp [h0]), _, rfl⟩
      · go_enter Tryz.func40, Tryz.ntmps40
        go_wp2_with (first | (go_at_call 73; refine (hv _).mono ?_; rintro e w' ⟨rfl, n, rfl⟩))
        go_ret
        exact ⟨ret_bool (by rw [HG.out, decide_eq_false (show ¬ 0 ≤ x by omega)]; rfl), _, rfl⟩
  · have hg : fitsB x b s = false := by unfold fitsB; simp [h]
    have HG := hide hg
    clear hg
    have h' : numW b = false := by simpa using h
    have hv := fun W => hasNumbers_any b W
    rw [h'] at hv
    clear h h'
    go_enter Tryz.func40, Tryz.ntmps40
    go_wp2_with (go_at_call 73; refine (hv _).mono ?_; rintro e w' ⟨rfl, n, rfl⟩)
    go_ret
    exact ⟨ret_bool (by rw [HG.out]), _, rfl⟩

end Go.Proofs.YtlommbeokbicjaaGreatDoor
