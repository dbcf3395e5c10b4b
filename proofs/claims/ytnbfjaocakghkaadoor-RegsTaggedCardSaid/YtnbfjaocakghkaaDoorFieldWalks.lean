/-
  What the functions of package field answer, called with any arguments: each is the plain function of XFieldMath on words of 64 bits, and turns nothing in memory (it draws orders only).
-/
import Derived.Test.YtnbfjaocakghkaaDoorQuiet
import Derived.Test.YtnbfjaocakghkaaDoorFieldMath
namespace Go.Proofs.YtnbfjaocakghkaaDoor
open Go.RowKit Words FieldMath

set_option maxHeartbeats 400000 in
theorem mask_any (a : Int) (w : World) : Calls Tryd.prog 50 #[.int .i64 a] w (Quiet (.int .u64 ((maskB a).toNat : Int)) w) := by
  by_cases h : a < 1
  · go_enter Tryd.func50, Tryd.ntmps50
    go_wp2
    go_ret
    exact ⟨ret_int (by rw [mask_low a h]; rfl), 0, rfl⟩
  · have h1 : 1 ≤ a := by omega
    have h0 : 0 ≤ a := by omega
    go_enter Tryd.func50, Tryd.ntmps50
    go_wp2
    go_ret
    exact ⟨ret_int (mask_walk a h1), 0, rfl⟩

set_option maxHeartbeats 400000 in
theorem valid_any (a b : Int) (w : World) : Calls Tryd.prog 49 #[.int .i64 a, .int .i64 b] w (Quiet (.bool (okF a b)) w) := by
  go_enter Tryd.func49, Tryd.ntmps49
  go_wp2
  all_goals
    go_ret
    exact ⟨ret_bool (by unfold okF; first | exact decide_eq_decide.mpr (by omega) | exact (decide_eq_true (by omega)).symm | exact (decide_eq_false (by omega)).symm), 0, rfl⟩

set_option maxHeartbeats 400000 in
theorem get_any (x : BitVec 64) (a b : Int) (w : World) : Calls Tryd.prog 43 #[.int .u64 (x.toNat : Int), .int .i64 a, .int .i64 b] w (Quiet (.int .u64 ((getB x a b).toNat : Int)) w) := by
  by_cases h : okF a b = true
  · have hb : 0 ≤ b ∧ b ≤ 64 ∧ 0 ≤ a ∧ a ≤ 64 - b := by simpa [okF] using h
    obtain ⟨h1, h2, h3, h4⟩ := hb
    have h5 : a ≤ 64 := by omega
    have hg : getB x a b = (x >>> a.toNat) &&& maskB b := by unfold getB; rw [if_pos h]
    have HG := hide hg
    clear hg
    have hv := fun W => valid_any a b W
    rw [h] at hv
    clear h
    go_enter Tryd.func43, Tryd.ntmps43
    go_wp2_with (go_at_call 49; refine (hv _).mono ?_; rintro e w' ⟨rfl, n, rfl⟩)
    go_quiet ((go_at_call 50; first | exact Quiet.region (fun W => mask_any b W) | exact Quiet.regionAdd (fun W => mask_any b W)))
    go_wp2
    go_ret
    exact ⟨ret_int (by rw [HG.out, shr_bv, and_bv]), _, World.drewN_drewN ..⟩
  · have hg : getB x a b = 0 := by unfold getB; rw [if_neg h]
    have HG := hide hg
    clear hg
    have h' : okF a b = false := by simpa using h
    have hv := fun W => valid_any a b W
    rw [h'] at hv
    clear h h'
    go_enter Tryd.func43, Tryd.ntmps43
    go_wp2_with (go_at_call 49; refine (hv _).mono ?_; rintro e w' ⟨rfl, n, rfl⟩)
    go_ret
    exact ⟨ret_int (by rw [HG.out]; rfl), _, rfl⟩


set_option maxHeartbeats 400000 in
theorem put_any (x : BitVec 64) (a b : Int) (v : BitVec 64) (w : World) :
    Calls Tryd.prog 54 #[.int .u64 (x.toNat : Int), .int .i64 a, .int .i64 b, .int .u64 (v.toNat : Int)] w (Quiet (.int .u64 ((putB x a b v).toNat : Int)) w) := by
  by_cases h : okF a b = true
  · have hb : 0 ≤ b ∧ b ≤ 64 ∧ 0 ≤ a ∧ a ≤ 64 - b := by simpa [okF] using h
    obtain ⟨h1, h2, h3, h4⟩ := hb
    have h5 : a ≤ 64 := by omega
    have hg : putB x a b v = (x &&& ~~~(maskB b <<< a.toNat)) ||| ((v <<< a.toNat) &&& (maskB b <<< a.toNat)) := by unfold putB; rw [if_pos h]
    have HG := hide hg
    clear hg
    have hv := fun W => valid_any a b W
    rw [h] at hv
    clear h
    go_enter Tryd.func54, Tryd.ntmps54
    go_wp2_with (first | (go_at_call 49; refine (hv _).mono ?_; rintro e w' ⟨rfl, n, rfl⟩) | (go_at_call 50; refine (mask_any _ _).mono ?_; rintro e w' ⟨rfl, n, rfl⟩))
    go_ret
    exact ⟨ret_int (by rw [HG.out, shl_bv, shl_bv, and_bv, andNot_bv, or_bv]), _, rfl⟩
  · have hg : putB x a b v = x := by unfold putB; rw [if_neg h]
    have HG := hide hg
    clear hg
    have h' : okF a b = false := by simpa using h
    have hv := fun W => valid_any a b W
    rw [h'] at hv
    clear h h'
    go_enter Tryd.func54, Tryd.ntmps54
    go_wp2_with (go_at_call 49; refine (hv _).mono ?_; rintro e w' ⟨rfl, n, rfl⟩)
    go_ret
    exact ⟨ret_int (by rw [HG.out]), _, rfl⟩

end Go.Proofs.YtnbfjaocakghkaaDoor
