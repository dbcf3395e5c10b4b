/-
  FieldTells holds: for every x, at and v the law returns true and turns nothing that was there.
-/
import Derived.Test.YtpllegpdiplokaaRef01Walks
import Derived.Test.YtpllegpdiplokaaLawFrame
namespace Go.Proofs.Ytpllegpdiplokaa.FieldTells
open Go.RowKit Words FieldMath

theorem sign15 : signB (BitVec.ofNat 64 15) 4 = BitVec.ofNat 64 18446744073709551615 := by decide
set_option maxHeartbeats 2000000 in
theorem walk (x v : BitVec 64) (a b : Int) (w : World) :
    Calls Try.prog 3 #[.int .u64 (x.toNat : Int), .agg #[.int .i64 a, .int .i64 b], .int .u64 (v.toNat : Int)] w
      fun e w' => e = .returned (.bool true) ∧ Below w.heap.size w w' := by
  have c1 : ∀ W, Calls Try.prog 14 #[.int .u64 15, .int .i64 4] W (Quiet (.int .u64 18446744073709551615) W) := fun W => by
    have := sign_any (BitVec.ofNat 64 15) 4 W
    rw [sign15] at this
    exact this
  have hi := BitVec.toInt_lt (x := x)
  have lo := BitVec.le_toInt (x := x)
  have c2 := fun s W => fits_any x.toInt b s W (by simpa using lo) (by simpa using hi)
  have c3 := fun s W => rfits_any x.toInt b s W (by simpa using lo) (by simpa using hi)
  have hw := wrap64_bv x
  generalize x.toInt = X at c2 c3 hw
  have C1 := hide c1
  have C2 := hide c2
  have C3 := hide c3
  clear c1 c2 c3 hi lo
  go_enter Try.func3, Try.ntmps3
  go_wp2
  go_quiet (fail)
  go_wp2_with (first | (go_at_call 8; refine (mask_any _ _).mono ?_; rintro e w' ⟨rfl, n1, rfl⟩) | (go_at_call 9; refine (rmask_any _ _).mono ?_; rintro e w' ⟨rfl, n1, rfl⟩) | (go_at_call 10; refine (get_any _ _ _ _).mono ?_; rintro e w' ⟨rfl, n1, rfl⟩) | (go_at_call 11; refine (rget_any _ _ _ _).mono ?_; rintro e w' ⟨rfl, n1, rfl⟩) | (go_at_call 12; refine (put_any _ _ _ _ _).mono ?_; rintro e w' ⟨rfl, n1, rfl⟩) | (go_at_call 13; refine (rput_any _ _ _ _ _).mono ?_; rintro e w' ⟨rfl, n1, rfl⟩) | (go_at_call 15; refine (rsign_any _ _ _).mono ?_; rintro e w' ⟨rfl, n1, rfl⟩) | (go_at_call 17; refine (C3.out _ _).mono ?_; rintro e w' ⟨rfl, n1, rfl⟩) | (go_at_call 16; refine (C2.out _ _).mono ?_; rintro e w' ⟨rfl, n1, rfl⟩) | (go_at_call 14; ((with_reducible first | refine (sign_any _ _ _).mono ?_ | refine (C1.out _).mono ?_); rintro e w' ⟨rfl, n1, rfl⟩)))
  go_ret
  exact ⟨rfl, below_drewN ((Below.refl _ _).alloc (Nat.le_refl _) _) _⟩

open Go.ChangeShapes Go.WideShapes Go.ChangeAt
theorem walks : Frame.Walks 3 Try.f3 := by
  intro H enc W base args ds ps hval hA
  rw [Try.params3] at hA hval
  obtain ⟨v0, v1, v2, d0, d1, d2, p0, p1, p2, hargs, rfl, rfl, h0, h1, h2⟩ := trodAll_three hA
  obtain rfl : args = #[v0, v1, v2] := by cases args; simp_all
  obtain ⟨x, rfl, rfl, rfl, wx⟩ := open_int Try.underlying22 (hval 0 22 v0 rfl rfl) h0
  obtain ⟨zs, rfl, hl, _⟩ := Frame.open_arr Try.underlying23 Try.underlying3 (by kernel_rfl) (by kernel_rfl) (hval 1 23 v1 rfl rfl) h1
  obtain ⟨y, rfl, rfl, rfl, wy⟩ := open_int Try.underlying22 (hval 2 22 v2 rfl rfl) h2
  obtain ⟨c0, c1, rfl⟩ := Frame.arr2 hl
  obtain ⟨X, rfl⟩ := Frame.wf_u64 wx
  obtain ⟨Y, rfl⟩ := Frame.wf_u64 wy
  exact walk X Y c0 c1 W
set_option maxRecDepth 100000 in
theorem proved : Rows.FieldTellsSaid :=
  OpenClaim.holds_of_wide 3 Try.f3 rfl rfl rfl rfl rfl rfl rfl ⟨rfl, rfl, rfl, rfl, rfl⟩ rfl rfl rfl rfl rfl (by kernel_rfl) Try.func3 (by kernel_rfl)
    (of_decide_eq_true (by kernel_rfl)) (by unfold Func.isWrapper; first | (rw [if_pos (by decide +kernel)]; kernel_rfl) | (rw [if_neg (by decide +kernel)]; exact ⟨rfl, rfl⟩))
    (fun os started H enc _ => Frame.lift os started H enc _ _ Rows.fieldTellsSpec 4 (by kernel_rfl) Try.func3 Try.underlying4 (by kernel_rfl) rfl (by kernel_rfl)
      (fun ds h => by match ds, h with | [_, _, _], _ => exact ⟨rfl, rfl, rfl⟩)
      (ChangeSpec.witness6 (enc := enc) (C := Try.checked) false ⟨#[], #[.int .u64 0, .agg #[.int .i64 0, .int .i64 0], .int .u64 0], []⟩ 8 (by kernel_rfl) (by kernel_rfl) (by kernel_rfl) (by kernel_rfl)) walks)
end Go.Proofs.Ytpllegpdiplokaa.FieldTells
