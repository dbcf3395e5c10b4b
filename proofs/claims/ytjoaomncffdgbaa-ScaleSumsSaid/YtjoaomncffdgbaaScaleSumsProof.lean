/-
  ScaleSums holds: for every x, y and l the law returns true and turns nothing that was there.
-/
import Derived.Test.YtjoaomncffdgbaaRef02Walks
import Derived.Test.YtjoaomncffdgbaaLawFrame
namespace Go.Proofs.Ytjoaomncffdgbaa.ScaleSums
open Go.RowKit Words ScaleMath

theorem in_lit (a : Nat) (ha : a < 100) : inB (BitVec.ofNat 64 a) 4 0 8 = decide (a ≤ 4) := by
  unfold inB
  rw [decide_eq_decide, BitVec.toNat_ofNat, Nat.mod_eq_of_lt (by omega)]
  simp
theorem lit_any (a : Nat) (ha : a < 100) (W : World) : Calls Try.prog 17 #[.int .u64 (a : Int), .int .u64 4, .int .u64 0, .int .u64 8] W (Quiet (.bool (decide (a ≤ 4))) W) := by
  have := sin_any (BitVec.ofNat 64 a) 4 0 8 W
  rw [in_lit a ha, BitVec.toNat_ofNat, Nat.mod_eq_of_lt (by omega)] at this
  exact this
set_option maxHeartbeats 2000000 in
theorem walk (x y a b : BitVec 64) (w : World) :
    Calls Try.prog 4 #[.int .u64 (x.toNat : Int), .int .u64 (y.toNat : Int), .agg #[.int .u64 (a.toNat : Int), .int .u64 (b.toNat : Int)]] w
      fun e w' => e = .returned (.bool true) ∧ Below w.heap.size w w' := by
  have c1 := fun W => sadd_any x y W
  have hs := add_bv x y
  have ho : decide ((x + y).toNat < x.toNat) = overB x y := by rw [← over_bv, decide_eq_decide]; omega
  generalize x + y = S at c1 hs ho
  have c2 := fun W => sin_any x y a b W
  have c3 := fun W => rin_any x y a b W
  have c4 : ∀ W, Calls Try.prog 17 #[.int .u64 4, .int .u64 4, .int .u64 0, .int .u64 8] W (Quiet (.bool true) W) := fun W => lit_any 4 (by omega) W
  have c5 : ∀ W, Calls Try.prog 17 #[.int .u64 5, .int .u64 4, .int .u64 0, .int .u64 8] W (Quiet (.bool false) W) := fun W => lit_any 5 (by omega) W
  generalize overB x y = O at c1 ho
  generalize inB x y a b = I at c2 c3
  have C1 := hide c1
  have C2 := hide c2
  have C3 := hide c3
  have C4 := hide c4
  have C5 := hide c5
  clear c1 c2 c3 c4 c5
  go_enter Try.func4, Try.ntmps4
  go_wp2_with (go_at_call 16; (with_reducible refine (C1.out _).mono ?_); rintro e w' ⟨rfl, n1, rfl⟩)
  go_quiet (first | (go_at_call 17; with_reducible first | exact Quiet.region (fun W => C2.out W) | exact Quiet.regionAdd (fun W => C2.out W) | exact Quiet.region (fun W => C4.out W) | exact Quiet.regionAdd (fun W => C4.out W) | exact Quiet.region (fun W => C5.out W) | exact Quiet.regionAdd (fun W => C5.out W)) | (go_at_call 18; with_reducible first | exact Quiet.region (fun W => C3.out W) | exact Quiet.regionAdd (fun W => C3.out W)))
  go_wp2
  go_ret
  exact ⟨rfl, below_drewN (below_drewN ((Below.refl _ _).alloc (Nat.le_refl _) _) _) _⟩

open Go.ChangeShapes Go.WideShapes Go.ChangeAt
theorem walks : Frame.Walks 4 Try.f4 := by
  intro H enc W base args ds ps hval hA
  rw [Try.params4] at hA hval
  obtain ⟨v0, v1, v2, d0, d1, d2, p0, p1, p2, hargs, rfl, rfl, h0, h1, h2⟩ := trodAll_three hA
  obtain rfl : args = #[v0, v1, v2] := by cases args; simp_all
  obtain ⟨x, rfl, rfl, rfl, wx⟩ := open_int Try.underlying22 (hval 0 22 v0 rfl rfl) h0
  obtain ⟨y, rfl, rfl, rfl, wy⟩ := open_int Try.underlying22 (hval 1 22 v1 rfl rfl) h1
  obtain ⟨zs, rfl, hl, hz⟩ := Frame.open_arr Try.underlying28 Try.underlying22 (by kernel_rfl) (by kernel_rfl) (hval 2 28 v2 rfl rfl) h2
  obtain ⟨c0, c1, rfl⟩ := Frame.arr2 hl
  obtain ⟨X, rfl⟩ := Frame.wf_u64 wx
  obtain ⟨Y, rfl⟩ := Frame.wf_u64 wy
  obtain ⟨A, rfl⟩ := Frame.wf_u64 (hz c0 (by simp))
  obtain ⟨B, rfl⟩ := Frame.wf_u64 (hz c1 (by simp))
  exact walk X Y A B W
set_option maxRecDepth 100000 in
theorem proved : Rows.ScaleSumsSaid :=
  OpenClaim.holds_of_wide 4 Try.f4 rfl rfl rfl rfl rfl rfl rfl ⟨rfl, rfl, rfl, rfl, rfl⟩ rfl rfl rfl rfl rfl (by kernel_rfl) Try.func4 (by kernel_rfl)
    (of_decide_eq_true (by kernel_rfl)) (by unfold Func.isWrapper; first | (rw [if_pos (by decide +kernel)]; kernel_rfl) | (rw [if_neg (by decide +kernel)]; exact ⟨rfl, rfl⟩))
    (fun os started H enc _ => Frame.lift os started H enc _ _ Rows.scaleSumsSpec 4 (by kernel_rfl) Try.func4 Try.underlying4 (by kernel_rfl) rfl (by kernel_rfl)
      (fun ds h => by match ds, h with | [_, _, _], _ => exact ⟨rfl, rfl, rfl⟩)
      (ChangeSpec.witness6 (enc := enc) (C := Try.checked) false ⟨#[], #[.int .u64 0, .int .u64 0, .agg #[.int .u64 0, .int .u64 0]], []⟩ 8 (by kernel_rfl) (by kernel_rfl) (by kernel_rfl) (by kernel_rfl)) walks)
end Go.Proofs.Ytjoaomncffdgbaa.ScaleSums
