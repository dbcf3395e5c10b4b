/-
  PteParts holds: for every address and level the law returns true and turns nothing that was there.
-/
import Derived.Test.YtiimoepngppabaaPteSmall
import Derived.Test.YtiimoepngppabaaLawFrame
namespace Go.Proofs.Ytiimoepngppabaa.PteParts
open Go.RowKit Words FieldMath PteMath

set_option maxHeartbeats 2000000 in
theorem main (V l I A : Int) (h0 : 0 ≤ V) (h1 : V < 18446744073709551616) (hA : IntKind.u64.wrap (V * 4096) = A) (c1 : ∀ W, Calls Try.prog 4 #[.int .u64 V, .int .i64 l] W (Quiet (.int .i64 I) W)) (c2 : ∀ W, Calls Try.prog 5 #[.int .u64 V, .int .i64 l] W (Quiet (.int .i64 I) W)) (c3 : ∀ W, Calls Try.prog 6 #[.int .u64 V] W (Quiet (.int .u64 (V / 4096)) W)) (c4 : ∀ W, Calls Try.prog 7 #[.int .u64 V] W (Quiet (.int .u64 (V % 4096)) W)) (c5 : ∀ W, Calls Try.prog 8 #[.int .u64 V] W (Quiet (.int .u64 A) W)) (c6 : ∀ W, Calls Try.prog 9 #[.int .u64 V] W (Quiet (.bool (decide (V < 274877906944))) W)) (c7 : ∀ W, Calls Try.prog 4 #[.int .u64 12288, .int .i64 0] W (Quiet (.int .i64 3) W)) (w : World) :
    Calls Try.prog 3 #[.int .u64 V, .int .i64 l] w (Makes (.bool true) w) := by
  have Cc1 := hide c1
  have Cc2 := hide c2
  have Cc3 := hide c3
  have Cc4 := hide c4
  have Cc5 := hide c5
  have Cc6 := hide c6
  have Cc7 := hide c7
  clear c1 c2 c3 c4 c5 c6 c7
  go_enter Try.func3, Try.ntmps3
  go_wp2_with (first | (go_at_call 4; (with_reducible first | refine (Cc1.out _).mono ?_ | refine (Cc7.out _).mono ?_); rintro e w' ⟨rfl, n1, rfl⟩) | (go_at_call 5; (with_reducible first | refine (Cc2.out _).mono ?_); rintro e w' ⟨rfl, n1, rfl⟩) | (go_at_call 6; (with_reducible first | refine (Cc3.out _).mono ?_); rintro e w' ⟨rfl, n1, rfl⟩) | (go_at_call 7; (with_reducible first | refine (Cc4.out _).mono ?_); rintro e w' ⟨rfl, n1, rfl⟩) | (go_at_call 8; (with_reducible first | refine (Cc5.out _).mono ?_); rintro e w' ⟨rfl, n1, rfl⟩) | (go_at_call 9; (with_reducible first | refine (Cc6.out _).mono ?_); rintro e w' ⟨rfl, n1, rfl⟩))
  all_goals
    go_ret
    refine ⟨rfl, ?_⟩
    repeat (first | with_reducible assumption | with_reducible exact Below.refl _ _ | with_reducible refine Below.drew ?_ | with_reducible refine below_drewN ?_ _ | with_reducible refine bw_alloc ?_ _ | (with_reducible refine bw_set ?_ ?_ _; focus (dsimp only; omega)) | (with_reducible apply bw_behind; with_reducible assumption))

theorem idx3 : idx 12288 0 = 3 := by decide
theorem walk (x : BitVec 64) (l : Int) (w : World) : Calls Try.prog 3 #[.int .u64 (x.toNat : Int), .int .i64 l] w (Makes (.bool true) w) := by
  refine main (x.toNat : Int) l (idx x.toNat l : Int) (IntKind.u64.wrap ((x.toNat : Int) * 4096)) (by omega) (by have := toNat_lt x; omega) rfl (fun W => index_any x l W) (fun W => rindex_any x l W) (fun W => by have := number_any x W; simpa using this) (fun W => by have := offset_any x W; simpa using this) (fun W => address_any x W) (fun W => may_any x W) (fun W => ?_) w
  exact index_any (BitVec.ofNat 64 12288) 0 W

open Go.ChangeShapes Go.WideShapes Go.ChangeAt
theorem walks : Frame.Walks 3 Try.f3 := by
  intro H enc W base args ds ps hval hA
  rw [Try.params3] at hA hval
  obtain ⟨v0, v1, d0, d1, p0, p1, hargs, rfl, rfl, h0, h1⟩ := trodAll_two hA
  obtain rfl : args = #[v0, v1] := by cases args; simp_all
  obtain ⟨x0, rfl, rfl, rfl, w0⟩ := open_int Try.underlying22 (hval 0 22 v0 rfl rfl) h0
  obtain ⟨x1, rfl, rfl, rfl, w1⟩ := open_int Try.underlying3 (hval 1 3 v1 rfl rfl) h1
  obtain ⟨X0, rfl⟩ := Frame.wf_u64 w0
  exact walk X0 x1 W
set_option maxRecDepth 100000 in
theorem proved : Rows.PtePartsSaid :=
  OpenClaim.holds_of_wide 3 Try.f3 rfl rfl rfl rfl rfl rfl rfl ⟨rfl, rfl, rfl, rfl, rfl⟩ rfl rfl rfl rfl rfl (by kernel_rfl) Try.func3 (by kernel_rfl)
    (of_decide_eq_true (by kernel_rfl)) (by unfold Func.isWrapper; first | (rw [if_pos (by decide +kernel)]; kernel_rfl) | (rw [if_neg (by decide +kernel)]; exact ⟨rfl, rfl⟩))
    (fun os started H enc _ => Frame.lift os started H enc _ _ Rows.ptePartsSpec 4 (by kernel_rfl) Try.func3 Try.underlying4 (by kernel_rfl) rfl (by kernel_rfl)
      (fun ds h => by match ds, h with | [_, _], _ => exact ⟨rfl, rfl, rfl⟩)
      (ChangeSpec.witness6 (enc := enc) (C := Try.checked) false ⟨#[], #[.int .u64 0, .int .i64 0], []⟩ 8 (by kernel_rfl) (by kernel_rfl) (by kernel_rfl) (by kernel_rfl)) walks)
end Go.Proofs.Ytiimoepngppabaa.PteParts
