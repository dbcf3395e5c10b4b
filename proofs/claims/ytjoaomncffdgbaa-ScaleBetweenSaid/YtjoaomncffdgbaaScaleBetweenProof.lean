/-
  ScaleBetween holds: for every x and e the law returns true and turns nothing that was there.
-/
import Derived.Test.YtjoaomncffdgbaaOnesWalks
import Derived.Test.YtjoaomncffdgbaaLawFrame
namespace Go.Proofs.Ytjoaomncffdgbaa.ScaleBetween
open Go.RowKit Words ScaleMath

theorem down52 (W : World) : Calls Try.prog 14 #[.int .u64 5, .int .i64 2] W (Quiet (.int .u64 4) W) := by
  have := sdown_any 5#64 2 W
  rw [show downB 5#64 2 = 4#64 by decide] at this
  exact this
theorem pow_walk (e : Int) : IntKind.u64.wrap (2 ^ e.toNat) = ((1#64 <<< e.toNat).toNat : Int) := by
  have e1 : (2 : Int) ^ e.toNat = ((1#64).toNat : Int) * 2 ^ e.toNat := by simp
  rw [e1, shl_bv]
set_option maxHeartbeats 4000000 in
theorem walk (x : BitVec 64) (a : Int) (w : World) :
    Calls Try.prog 6 #[.int .u64 (x.toNat : Int), .int .i64 a] w
      fun e w' => e = .returned (.bool true) ∧ Below w.heap.size w w' := by
  obtain ⟨E, hE, h0, h63⟩ : ∃ E, bits .and .i64 a 63 = E ∧ 0 ≤ E ∧ E ≤ 63 := ⟨_, rfl, low63 a⟩
  have c1 := fun W => sdown_any x E W
  have c2 := fun W => sup_any x E W
  have c3 := fun W => szeros_any (downB x E) W
  have hz := zeros_down x E (by omega)
  have hle := down_le x E
  have hgap := down_gap x E h0 (by omega)
  have hsub := sub_bv x (downB x E)
  have hpow := pow_walk E
  have C9 := hide down52
  have hle' : ¬ (x.toNat : Int) < ((downB x E).toNat : Int) := by omega
  cases hO : (upB x E).2 with
  | false =>
    obtain ⟨hu, hne⟩ := up_not x E hO
    rw [hO, hu] at c2
    generalize zerosI (downB x E) = Z at *
    have hne' : ¬ ((downB x E).toNat : Int) = (x.toNat : Int) := fun h => hne (BitVec.eq_of_toNat_eq (by omega))
    generalize x - downB x E = G at *
    generalize downB x E = D at *
    generalize 1#64 <<< E.toNat = P at *
    have C1 := hide c1
    have C2 := hide c2
    have C3 := hide c3
    clear c1 c2 c3 hO hu hne
    go_enter Try.func6, Try.ntmps6
    go_wp2_with (first | (go_at_call 8; (with_reducible refine (C2.out _).mono ?_); rintro e w' ⟨rfl, n1, rfl⟩) | (go_at_call 14; (with_reducible refine (C1.out _).mono ?_); rintro e w' ⟨rfl, n1, rfl⟩) | (go_at_call 12; (with_reducible refine (C3.out _).mono ?_); rintro e w' ⟨rfl, hb⟩))
    go_ret
    refine ⟨ret_bool (by simpa using hne'), ?_⟩
    repeat (first | exact Below.refl _ _ | refine Frame.below_then ?_ (by assumption) | refine below_drewN ?_ _)
  | true =>
    obtain ⟨hxu, hug, hdu, hux⟩ := up_is x E h0 (by omega) hO
    have hus := sub_bv (upB x E).1 (downB x E)
    have hzu := zeros_down (upB x E).1 E (by omega)
    have c4 := fun W => szeros_any (upB x E).1 W
    have c5 := fun W => sup_any (upB x E).1 E W
    have c6 := fun W => sdown_any (upB x E).1 E W
    rw [up_of_down _ _ hdu] at c5
    rw [hdu] at c6 hzu
    rw [hO] at c2
    have hux' : ((downB x E).toNat : Int) = (x.toNat : Int) → ((upB x E).1.toNat : Int) = (x.toNat : Int) := fun h => by rw [hux (BitVec.eq_of_toNat_eq (by omega))]
    generalize zerosI (downB x E) = Z at *
    generalize zerosI (upB x E).1 = Z2 at *
    generalize x - downB x E = G at *
    generalize (upB x E).1 - downB x E = G2 at *
    generalize (upB x E).1 = U at *
    generalize downB x E = D at *
    generalize 1#64 <<< E.toNat = P at *
    have C1 := hide c1
    have C2 := hide c2
    have C3 := hide c3
    have C4 := hide c4
    have C5 := hide c5
    have C6 := hide c6
    clear c1 c2 c3 c4 c5 c6 hO hdu hux
    by_cases hDx : (D.toNat : Int) = (x.toNat : Int)
    · obtain rfl : U = x := BitVec.eq_of_toNat_eq (by have := hux' hDx; omega)
      obtain rfl : D = U := BitVec.eq_of_toNat_eq (by omega)
      clear hux' hDx hxu hle
      go_enter Try.func6, Try.ntmps6
      go_wp2_with (first | (go_at_call 8; (with_reducible first | refine (C2.out _).mono ?_ | refine (C5.out _).mono ?_); rintro e w' ⟨rfl, n1, rfl⟩) | (go_at_call 14; (with_reducible first | refine (C1.out _).mono ?_ | refine (C6.out _).mono ?_ | refine (C9.out _).mono ?_); rintro e w' ⟨rfl, n1, rfl⟩) | (go_at_call 12; (with_reducible first | refine (C3.out _).mono ?_ | refine (C4.out _).mono ?_); rintro e w' ⟨rfl, hb⟩))
      go_ret
      refine ⟨rfl, ?_⟩
      repeat (first | exact Below.refl _ _ | refine Frame.below_then ?_ (by assumption) | refine below_drewN ?_ _)
    · clear hux'
      go_enter Try.func6, Try.ntmps6
      go_wp2_with (first | (go_at_call 8; (with_reducible first | refine (C2.out _).mono ?_ | refine (C5.out _).mono ?_); rintro e w' ⟨rfl, n1, rfl⟩) | (go_at_call 14; (with_reducible first | refine (C1.out _).mono ?_ | refine (C6.out _).mono ?_ | refine (C9.out _).mono ?_); rintro e w' ⟨rfl, n1, rfl⟩) | (go_at_call 12; (with_reducible first | refine (C3.out _).mono ?_ | refine (C4.out _).mono ?_); rintro e w' ⟨rfl, hb⟩))
      go_ret
      refine ⟨rfl, ?_⟩
      repeat (first | exact Below.refl _ _ | refine Frame.below_then ?_ (by assumption) | refine below_drewN ?_ _)

open Go.ChangeShapes Go.WideShapes Go.ChangeAt
theorem walks : Frame.Walks 6 Try.f6 := by
  intro H enc W base args ds ps hval hA
  rw [Try.params6] at hA hval
  obtain ⟨v0, v1, d0, d1, p0, p1, hargs, rfl, rfl, h0, h1⟩ := trodAll_two hA
  obtain rfl : args = #[v0, v1] := by cases args; simp_all
  obtain ⟨x0, rfl, rfl, rfl, w0⟩ := open_int Try.underlying22 (hval 0 22 v0 rfl rfl) h0
  obtain ⟨x1, rfl, rfl, rfl, w1⟩ := open_int Try.underlying3 (hval 1 3 v1 rfl rfl) h1
  obtain ⟨X0, rfl⟩ := Frame.wf_u64 w0
  exact walk X0 x1 W
set_option maxRecDepth 100000 in
theorem proved : Rows.ScaleBetweenSaid :=
  OpenClaim.holds_of_wide 6 Try.f6 rfl rfl rfl rfl rfl rfl rfl ⟨rfl, rfl, rfl, rfl, rfl⟩ rfl rfl rfl rfl rfl (by kernel_rfl) Try.func6 (by kernel_rfl)
    (of_decide_eq_true (by kernel_rfl)) (by unfold Func.isWrapper; first | (rw [if_pos (by decide +kernel)]; kernel_rfl) | (rw [if_neg (by decide +kernel)]; exact ⟨rfl, rfl⟩))
    (fun os started H enc _ => Frame.lift os started H enc _ _ Rows.scaleBetweenSpec 4 (by kernel_rfl) Try.func6 Try.underlying4 (by kernel_rfl) rfl (by kernel_rfl)
      (fun ds h => by match ds, h with | [_, _], _ => exact ⟨rfl, rfl, rfl⟩)
      (ChangeSpec.witness6 (enc := enc) (C := Try.checked) false ⟨#[], #[.int .u64 0, .int .i64 0], []⟩ 8 (by kernel_rfl) (by kernel_rfl) (by kernel_rfl) (by kernel_rfl)) walks)
end Go.Proofs.Ytjoaomncffdgbaa.ScaleBetween
