/-
  ScaleSpans holds: for every x and l the law returns true and turns nothing that was there.
-/
import Derived.Test.YtjoaomncffdgbaaRef02Walks
import Derived.Test.YtjoaomncffdgbaaLawFrame
namespace Go.Proofs.Ytjoaomncffdgbaa.ScaleSpans
open Go.RowKit Words ScaleMath

theorem lit4 (W : World) : Calls Try.prog 17 #[.int .u64 4, .int .u64 4, .int .u64 0, .int .u64 8] W (Quiet (.bool true) W) := by
  have := sin_any 4#64 4#64 0#64 8#64 W
  rw [show inB 4#64 4#64 0#64 8#64 = true by decide] at this
  exact this
/-- The six calls, and what comes of them. -/
structure Met (x y k a b : BitVec 64) (K : Int) (S1 : BitVec 64) (M R : Int) (O I P Q : Bool) : Prop where
  whole : ∀ W, Calls Try.prog 17 #[.int .u64 (x.toNat : Int), .int .u64 (y.toNat : Int), .int .u64 (a.toNat : Int), .int .u64 (b.toNat : Int)] W (Quiet (.bool I) W)
  sum : ∀ W, Calls Try.prog 16 #[.int .u64 (x.toNat : Int), .int .u64 K] W (Quiet (.tuple #[.int .u64 M, .bool O]) W)
  first : ∀ W, Calls Try.prog 17 #[.int .u64 (x.toNat : Int), .int .u64 K, .int .u64 (a.toNat : Int), .int .u64 (b.toNat : Int)] W (Quiet (.bool P) W)
  rest : ∀ W, Calls Try.prog 17 #[.int .u64 M, .int .u64 R, .int .u64 (a.toNat : Int), .int .u64 (b.toNat : Int)] W (Quiet (.bool Q) W)
  behind : ∀ W, Calls Try.prog 17 #[.int .u64 (x.toNat : Int), .int .u64 1, .int .u64 (S1.toNat : Int), .int .u64 18446744073709551615] W (Quiet (.bool false) W)
  top : ∀ W, Calls Try.prog 17 #[.int .u64 (b.toNat : Int), .int .u64 1, .int .u64 0, .int .u64 (b.toNat : Int)] W (Quiet (.bool false) W)
  next : IntKind.u64.wrap ((x.toNat : Int) + 1) = (S1.toNat : Int)
theorem met (x y k a b K : BitVec 64) (h : K.toNat ≤ y.toNat) : ∃ S1 O I P Q, Met x y k a b (K.toNat : Int) S1 ((x + K).toNat : Int) ((y - K).toNat : Int) O I P Q ∧ I = (!O && P && Q) := by
  refine ⟨x + 1#64, overB x K, _, _, _, ⟨sin_any x y a b, sadd_any x K, sin_any x K a b, sin_any (x + K) (y - K) a b, fun W => ?_, fun W => ?_, add_bv x 1#64⟩, in_parts x y K a b h⟩
  · have := sin_any x 1#64 (x + 1#64) (BitVec.ofNat 64 18446744073709551615) W
    rw [in_one x _ (x + 1#64) (by rw [BitVec.toNat_add]; rfl)] at this
    exact this
  · have := sin_any b 1#64 0#64 b W
    rw [in_end b] at this
    exact this
set_option maxHeartbeats 4000000 in
theorem walk (x y k a b : BitVec 64) (w : World) :
    Calls Try.prog 7 #[.agg #[.int .u64 (x.toNat : Int), .int .u64 (y.toNat : Int), .int .u64 (k.toNat : Int)], .agg #[.int .u64 (a.toNat : Int), .int .u64 (b.toNat : Int)]] w
      fun e w' => e = .returned (.bool true) ∧ Below w.heap.size w w' := by
  by_cases hn : 0 < y.toNat
  · obtain ⟨K, hK, hle⟩ : ∃ K : BitVec 64, (k.toNat : Int) % (y.toNat : Int) = (K.toNat : Int) ∧ K.toNat ≤ y.toNat := ⟨k % y, by rw [BitVec.toNat_umod]; omega, by rw [BitVec.toNat_umod]; exact Nat.le_of_lt (Nat.mod_lt _ hn)⟩
    obtain ⟨S1, O, I, P, Q, hm, hI⟩ := met x y k a b K hle
    have hR := sub_bv y K
    generalize x + K = M at hm
    generalize y - K = R at hm hR
    have CM := hide hm
    have hS := hm.next
    clear hm hle
    have H4 := hide lit4
    cases O with
    | true =>
      rw [Bool.not_true, Bool.false_and, Bool.false_and] at hI
      subst hI
      go_enter Try.func7, Try.ntmps7
      go_wp2
      go_quiet (fail)
      go_wp2_with (first | (go_at_call 16; (with_reducible refine (CM.out.sum _).mono ?_); rintro e w' ⟨rfl, n1, rfl⟩) | (go_at_call 17; (with_reducible first | refine (CM.out.whole _).mono ?_ | refine (CM.out.first _).mono ?_ | refine (CM.out.rest _).mono ?_ | refine (CM.out.behind _).mono ?_ | refine (CM.out.top _).mono ?_ | refine (H4.out _).mono ?_); rintro e w' ⟨rfl, n1, rfl⟩))
      go_ret
      exact ⟨rfl, below_drewN (((Below.refl _ w).alloc (Nat.le_refl _) _).alloc (by simp) _) _⟩
    | false =>
      rw [Bool.not_false, Bool.true_and] at hI
      cases P with
      | false =>
        rw [Bool.false_and] at hI
        subst hI
        go_enter Try.func7, Try.ntmps7
        go_wp2
        go_quiet (fail)
        go_wp2_with (first | (go_at_call 16; (with_reducible refine (CM.out.sum _).mono ?_); rintro e w' ⟨rfl, n1, rfl⟩) | (go_at_call 17; (with_reducible first | refine (CM.out.whole _).mono ?_ | refine (CM.out.first _).mono ?_ | refine (CM.out.rest _).mono ?_ | refine (CM.out.behind _).mono ?_ | refine (CM.out.top _).mono ?_ | refine (H4.out _).mono ?_); rintro e w' ⟨rfl, n1, rfl⟩))
        go_ret
        exact ⟨rfl, below_drewN (((Below.refl _ w).alloc (Nat.le_refl _) _).alloc (by simp) _) _⟩
      | true =>
        rw [Bool.true_and] at hI
        subst hI
        go_enter Try.func7, Try.ntmps7
        go_wp2
        go_quiet (fail)
        go_wp2_with (first | (go_at_call 16; (with_reducible refine (CM.out.sum _).mono ?_); rintro e w' ⟨rfl, n1, rfl⟩) | (go_at_call 17; (with_reducible first | refine (CM.out.whole _).mono ?_ | refine (CM.out.first _).mono ?_ | refine (CM.out.rest _).mono ?_ | refine (CM.out.behind _).mono ?_ | refine (CM.out.top _).mono ?_ | refine (H4.out _).mono ?_); rintro e w' ⟨rfl, n1, rfl⟩))
        go_ret
        exact ⟨rfl, below_drewN (((Below.refl _ w).alloc (Nat.le_refl _) _).alloc (by simp) _) _⟩
  · obtain ⟨S1, O, I, P, Q, hm, hI⟩ := met x y k a b 0#64 (Nat.zero_le _)
    have hR : IntKind.u64.wrap (y.toNat : Int) = (y.toNat : Int) := by rw [wrap_u64_bv, ofInt_toNat]
    rw [BitVec.sub_zero] at hm
    generalize x + 0#64 = M at hm
    have hm' : Met x y k a b 0 S1 (M.toNat : Int) (y.toNat : Int) O I P Q := hm
    have CM := hide hm'
    have hS := hm.next
    clear hm hm'
    have H4 := hide lit4
    cases O with
    | true =>
      rw [Bool.not_true, Bool.false_and, Bool.false_and] at hI
      subst hI
      go_enter Try.func7, Try.ntmps7
      go_wp2
      go_quiet (fail)
      go_wp2_with (first | (go_at_call 16; (with_reducible refine (CM.out.sum _).mono ?_); rintro e w' ⟨rfl, n1, rfl⟩) | (go_at_call 17; (with_reducible first | refine (CM.out.whole _).mono ?_ | refine (CM.out.first _).mono ?_ | refine (CM.out.rest _).mono ?_ | refine (CM.out.behind _).mono ?_ | refine (CM.out.top _).mono ?_ | refine (H4.out _).mono ?_); rintro e w' ⟨rfl, n1, rfl⟩))
      go_ret
      exact ⟨rfl, below_drewN (((Below.refl _ w).alloc (Nat.le_refl _) _).alloc (by simp) _) _⟩
    | false =>
      rw [Bool.not_false, Bool.true_and] at hI
      cases P with
      | false =>
        rw [Bool.false_and] at hI
        subst hI
        go_enter Try.func7, Try.ntmps7
        go_wp2
        go_quiet (fail)
        go_wp2_with (first | (go_at_call 16; (with_reducible refine (CM.out.sum _).mono ?_); rintro e w' ⟨rfl, n1, rfl⟩) | (go_at_call 17; (with_reducible first | refine (CM.out.whole _).mono ?_ | refine (CM.out.first _).mono ?_ | refine (CM.out.rest _).mono ?_ | refine (CM.out.behind _).mono ?_ | refine (CM.out.top _).mono ?_ | refine (H4.out _).mono ?_); rintro e w' ⟨rfl, n1, rfl⟩))
        go_ret
        exact ⟨rfl, below_drewN (((Below.refl _ w).alloc (Nat.le_refl _) _).alloc (by simp) _) _⟩
      | true =>
        rw [Bool.true_and] at hI
        subst hI
        go_enter Try.func7, Try.ntmps7
        go_wp2
        go_quiet (fail)
        go_wp2_with (first | (go_at_call 16; (with_reducible refine (CM.out.sum _).mono ?_); rintro e w' ⟨rfl, n1, rfl⟩) | (go_at_call 17; (with_reducible first | refine (CM.out.whole _).mono ?_ | refine (CM.out.first _).mono ?_ | refine (CM.out.rest _).mono ?_ | refine (CM.out.behind _).mono ?_ | refine (CM.out.top _).mono ?_ | refine (H4.out _).mono ?_); rintro e w' ⟨rfl, n1, rfl⟩))
        go_ret
        exact ⟨rfl, below_drewN (((Below.refl _ w).alloc (Nat.le_refl _) _).alloc (by simp) _) _⟩

open Go.ChangeShapes Go.WideShapes Go.ChangeAt
theorem walks : Frame.Walks 7 Try.f7 := by
  intro H enc W base args ds ps hval hA
  rw [Try.params7] at hA hval
  obtain ⟨v0, v1, d0, d1, p0, p1, hargs, rfl, rfl, h0, h1⟩ := trodAll_two hA
  obtain rfl : args = #[v0, v1] := by cases args; simp_all
  obtain ⟨ys, rfl, hl, hy⟩ := Frame.open_arr Try.underlying40 Try.underlying22 (by kernel_rfl) (by kernel_rfl) (hval 0 40 v0 rfl rfl) h0
  obtain ⟨zs, rfl, hl1, hz⟩ := Frame.open_arr Try.underlying28 Try.underlying22 (by kernel_rfl) (by kernel_rfl) (hval 1 28 v1 rfl rfl) h1
  obtain ⟨x0, x1, x2, rfl⟩ := Frame.arr3 hl
  obtain ⟨c0, c1, rfl⟩ := Frame.arr2 hl1
  obtain ⟨X, rfl⟩ := Frame.wf_u64 (hy x0 (by simp))
  obtain ⟨Y, rfl⟩ := Frame.wf_u64 (hy x1 (by simp))
  obtain ⟨K, rfl⟩ := Frame.wf_u64 (hy x2 (by simp))
  obtain ⟨A, rfl⟩ := Frame.wf_u64 (hz c0 (by simp))
  obtain ⟨B, rfl⟩ := Frame.wf_u64 (hz c1 (by simp))
  exact walk X Y K A B W
set_option maxRecDepth 100000 in
theorem proved : Rows.ScaleSpansSaid :=
  OpenClaim.holds_of_wide 7 Try.f7 rfl rfl rfl rfl rfl rfl rfl ⟨rfl, rfl, rfl, rfl, rfl⟩ rfl rfl rfl rfl rfl (by kernel_rfl) Try.func7 (by kernel_rfl)
    (of_decide_eq_true (by kernel_rfl)) (by unfold Func.isWrapper; first | (rw [if_pos (by decide +kernel)]; kernel_rfl) | (rw [if_neg (by decide +kernel)]; exact ⟨rfl, rfl⟩))
    (fun os started H enc _ => Frame.lift os started H enc _ _ Rows.scaleSpansSpec 4 (by kernel_rfl) Try.func7 Try.underlying4 (by kernel_rfl) rfl (by kernel_rfl)
      (fun ds h => by match ds, h with | [_, _], _ => exact ⟨rfl, rfl, rfl⟩)
      (ChangeSpec.witness6 (enc := enc) (C := Try.checked) false ⟨#[], #[.agg #[.int .u64 0, .int .u64 0, .int .u64 0], .agg #[.int .u64 0, .int .u64 0]], []⟩ 8 (by kernel_rfl) (by kernel_rfl) (by kernel_rfl) (by kernel_rfl)) walks)
end Go.Proofs.Ytjoaomncffdgbaa.ScaleSpans
