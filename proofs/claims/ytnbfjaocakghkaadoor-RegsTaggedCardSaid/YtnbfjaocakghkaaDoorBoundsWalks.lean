/-
  What the functions of package bounds that only reckon (exponent, stretched, fits, extended, Rounded, Length, Align) answer: the first E that keeps the span, and the span that is kept; they turn nothing in memory.
-/
import Derived.Test.YtnbfjaocakghkaaDoorScaleWalks
import Derived.Test.YtnbfjaocakghkaaDoorBoundsMath
import Derived.Test.YtnbfjaocakghkaaDoorGrows
namespace Go.Proofs.YtnbfjaocakghkaaDoor
open Go.RowKit Words ScaleMath BoundsMath

theorem nat_bv {n : Nat} (h : n < 18446744073709551616) : ((BitVec.ofNat 64 n).toNat : Int) = (n : Int) := by
  rw [BitVec.toNat_ofNat, Nat.mod_eq_of_lt (by omega)]

set_option maxHeartbeats 400000 in
theorem exponent_any (e : Nat) (he : e < 9223372036854775808) (w : World) :
    Calls Tryd.prog 46 #[.int .u64 (e : Int)] w (Quiet (.int .i64 ((e - 1 : Nat) : Int)) w) := by
  go_enter Tryd.func46, Tryd.ntmps46
  go_wp2
  all_goals
    go_ret
    exact ⟨ret_int (by omega), 0, rfl⟩

/-- How many steps, as the code asks it. -/
def fitsB (n e : Nat) : Bool := if e = 0 then decide (n < 4096) else decide (4096 ≤ n ∧ n < 8192)
theorem fits_iff (b t e : Nat) : fitsB (steps b t (e - 1)) e = true ↔ keeps b t e := by
  unfold fitsB keeps
  split <;> rename_i h
  · subst h; simp
  · simp
theorem steps_walk (b t x : Nat) : (up t x - dn b x) / 2 ^ x = steps b t x := by
  unfold up dn steps
  rw [← Nat.sub_mul, Nat.mul_div_cancel _ (BoundsMath.pow_pos x)]

end Go.Proofs.YtnbfjaocakghkaaDoor