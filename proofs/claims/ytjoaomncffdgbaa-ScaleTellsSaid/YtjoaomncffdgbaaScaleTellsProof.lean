/-
  ScaleTells holds: for every x and e the law returns true and turns nothing that was there.
-/
import Derived.Test.YtjoaomncffdgbaaOnesWalks
import Derived.Test.YtjoaomncffdgbaaLawFrame
namespace Go.Proofs.Ytjoaomncffdgbaa.ScaleTells
open Go.RowKit Words ScaleMath

theorem log4096 (W : World) : Calls Try.prog 10 #[.int .u64 4096] W fun e W' => e = .returned (.int .i64 12) ∧ Below W.heap.size W W' := by
  have := slog_any 4096#64 W
  rw [show logI 4096#64 = 12 by decide] at this
  exact this
set_option maxHeartbeats 2000000 in
theorem walk (x : BitVec 64) (a : Int) (w : World) :
    Calls Try.prog 3 #[.int .u64 (x.toNat : Int), .int .i64 a] w
      fun e w' => e = .returned (.bool true) ∧ Below w.heap.size w w' := by
  have c1 := fun W => sup_any x a W
  have c2 := fun W => rup_any x a W
  generalize (upB x a).1 = U at c1 c2
  generalize (upB x a).2 = O at c1 c2
  have c3 := fun W => slog_any x W
  have c4 := fun W => rlog_any x W
  generalize logI x = L at c3 c4
  have c5 := fun W => szeros_any x W
  have c6 := fun W => rzeros_any x W
  generalize zerosI x = Z at c5 c6
  have c7 := fun W => sdown_any x a W
  have c8 := fun W => rdown_any x a W
  generalize downB x a = D at c7 c8
  have C1 := hide c1
  have C2 := hide c2
  have C3 := hide c3
  have C4 := hide c4
  have C5 := hide c5
  have C6 := hide c6
  have C7 := hide c7
  have C8 := hide c8
  have C9 := hide log4096
  clear c1 c2 c3 c4 c5 c6 c7 c8
  go_enter Try.func3, Try.ntmps3
  go_wp2_with (first | (go_at_call 8; (with_reducible refine (C1.out _).mono ?_); rintro e w' ⟨rfl, n1, rfl⟩) | (go_at_call 9; (with_reducible refine (C2.out _).mono ?_); rintro e w' ⟨rfl, n1, rfl⟩) | (go_at_call 11; (with_reducible refine (C4.out _).mono ?_); rintro e w' ⟨rfl, n1, rfl⟩) | (go_at_call 13; (with_reducible refine (C6.out _).mono ?_); rintro e w' ⟨rfl, n1, rfl⟩) | (go_at_call 14; (with_reducible refine (C7.out _).mono ?_); rintro e w' ⟨rfl, n1, rfl⟩) | (go_at_call 15; (with_reducible refine (C8.out _).mono ?_); rintro e w' ⟨rfl, n1, rfl⟩) | (go_at_call 10; (with_reducible first | refine (C3.out _).mono ?_ | refine (C9.out _).mono ?_); rintro e w' ⟨rfl, hb⟩) | (go_at_call 12; (with_reducible refine (C5.out _).mono ?_); rintro e w' ⟨rfl, hb⟩))
  go_ret
  refine ⟨rfl, ?_⟩
  repeat (first | exact Below.refl _ _ | refine Frame.below_then ?_ (by assumption) | refine below_drewN ?_ _)

open Go.ChangeShapes Go.WideShapes Go.ChangeAt
theorem walks : Frame.Walks 3 Try.f3 := by
  intro H enc W base args ds ps hval hA
  rw [Try.params3] at hA hval
  obtain ⟨v0, v1, d0, d1, p0, p1, hargs, rfl, rfl, h0, h1⟩ := trodAll_two hA
  obtain rfl : args = #[v0, v1] := by cases args; simp_all
  obtain ⟨x0, rfl, rfl, rfl, w0⟩ := open_int Try.underlying22 (hval 0 22 v0 rfl rfl) h0
  obtain ⟨x1, rfl, rfl, rfl, w1⟩ := open_int Try.underlying3 (hval 1 3 v1 rfl rfl) h1
  obtain ⟨X0, rfl⟩ := Frame.wf_u64 w0
  exact walk X0 x1 W
set_option maxRecDepth 100000 in
theorem proved : Rows.ScaleTellsSaid :=
  OpenClaim.holds_of_wide 3 Try.f3 rfl rfl rfl rfl rfl rfl rfl ⟨rfl, rfl, rfl, rfl, rfl⟩ rfl rfl rfl rfl rfl (by kernel_rfl) Try.func3 (by kernel_rfl)
    (of_decide_eq_true (by kernel_rfl)) (by unfold Func.isWrapper; first | (rw [if_pos (by decide +kernel)]; kernel_rfl) | (rw [if_neg (by decide +kernel)]; exact ⟨rfl, rfl⟩))
    (fun os started H enc _ => Frame.lift os started H enc _ _ Rows.scaleTellsSpec 4 (by kernel_rfl) Try.func3 Try.underlying4 (by kernel_rfl) rfl (by kernel_rfl)
      (fun ds h => by match ds, h with | [_, _], _ => exact ⟨rfl, rfl, rfl⟩)
      (ChangeSpec.witness6 (enc := enc) (C := Try.checked) false ⟨#[], #[.int .u64 0, .int .i64 0], []⟩ 8 (by kernel_rfl) (by kernel_rfl) (by kernel_rfl) (by kernel_rfl)) walks)
end Go.Proofs.Ytjoaomncffdgbaa.ScaleTells
