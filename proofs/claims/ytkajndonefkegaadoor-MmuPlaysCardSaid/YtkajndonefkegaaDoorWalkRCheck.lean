/-
  What the document's Check answers.
-/
import Derived.Test.YtkajndonefkegaaDoorGWm
import Derived.Test.YtkajndonefkegaaDoorPteRef
set_option maxRecDepth 100000
set_option maxHeartbeats 64000000
namespace Go.Proofs.YtkajndonefkegaaDoor
open Go.RowKit Words FieldMath PteMath

theorem rcheck_let (b0 b1 b2 b3 b4 b5 b6 b7 b8 b9 b10 b11 L tagged gen : Bool) (N k : Int) (c1 : ∀ W, Calls Tryd.prog 67 #[.agg #[.bool b0, .bool b1, .bool b2, .bool b3, .bool b4, .bool b5, .bool b6, .bool b7, .bool b8, .bool b9, .bool b10, .bool b11, .int .u64 N]] W (Makes (.bool L) W)) (w : World) : Calls Tryd.prog 36 #[.agg #[.bool b0, .bool b1, .bool b2, .bool b3, .bool b4, .bool b5, .bool b6, .bool b7, .bool b8, .bool b9, .bool b10, .bool b11, .int .u64 N], .int .i64 k, .bool tagged, .bool gen] w (Makes (.int .i64 (checkQ L b4 (allowQ k b1 b2 b3) b8 b9 b11 k tagged gen)) w) := by
  have Cc1 := hide c1
  clear c1
  obtain ⟨SS, LB', LS, LA', LH⟩ := rules5
  rcases kinds k with rfl | rfl | rfl | rfl | rfl | ⟨h0, h1, h2, h3, h4⟩
  · cases L with
    | false =>
      go_enter Tryd.func36, Tryd.ntmps36
      go_wp2_with (go_at_call 67; (with_reducible refine (Cc1.out _).mono ?_); rintro e w1 ⟨rfl, hb1⟩; obtain ⟨hr1, hh1, m1, hs1⟩ := bl_all hb1)
      go_ret
      refine ⟨ret_int (by simp [checkQ]), ?_⟩
      repeat (with_reducible first | assumption | exact Below.refl _ _ | refine Below.drew ?_ | refine below_drewN ?_ _ | refine bw_alloc ?_ _ | (refine bw_set ?_ ?_ _; focus (dsimp only; omega)) | (apply bw_behind; assumption))
    | true =>
      cases b3 with
      | false =>
        cases b4 with
        | false =>
          go_enter Tryd.func36, Tryd.ntmps36
          go_wp2_with (go_at_call 67; (with_reducible refine (Cc1.out _).mono ?_); rintro e w1 ⟨rfl, hb1⟩; obtain ⟨hr1, hh1, m1, hs1⟩ := bl_all hb1)
          go_ret
          refine ⟨ret_int (by simp [checkQ]), ?_⟩
          repeat (with_reducible first | assumption | exact Below.refl _ _ | refine Below.drew ?_ | refine below_drewN ?_ _ | refine bw_alloc ?_ _ | (refine bw_set ?_ ?_ _; focus (dsimp only; omega)) | (apply bw_behind; assumption))
        | true =>
          go_enter Tryd.func36, Tryd.ntmps36
          go_wp2_with (go_at_call 67; (with_reducible refine (Cc1.out _).mono ?_); rintro e w1 ⟨rfl, hb1⟩; obtain ⟨hr1, hh1, m1, hs1⟩ := bl_all hb1)
          go_ret
          refine ⟨ret_int (by simp [checkQ, allowQ]), ?_⟩
          repeat (with_reducible first | assumption | exact Below.refl _ _ | refine Below.drew ?_ | refine below_drewN ?_ _ | refine bw_alloc ?_ _ | (refine bw_set ?_ ?_ _; focus (dsimp only; omega)) | (apply bw_behind; assumption))
      | true =>
        cases b4 with
        | false =>
          go_enter Tryd.func36, Tryd.ntmps36
          go_wp2_with (go_at_call 67; (with_reducible refine (Cc1.out _).mono ?_); rintro e w1 ⟨rfl, hb1⟩; obtain ⟨hr1, hh1, m1, hs1⟩ := bl_all hb1)
          go_ret
          refine ⟨ret_int (by simp [checkQ]), ?_⟩
          repeat (with_reducible first | assumption | exact Below.refl _ _ | refine Below.drew ?_ | refine below_drewN ?_ _ | refine bw_alloc ?_ _ | (refine bw_set ?_ ?_ _; focus (dsimp only; omega)) | (apply bw_behind; assumption))
        | true =>
          go_enter Tryd.func36, Tryd.ntmps36
          go_wp2_with (go_at_call 67; (with_reducible refine (Cc1.out _).mono ?_); rintro e w1 ⟨rfl, hb1⟩; obtain ⟨hr1, hh1, m1, hs1⟩ := bl_all hb1)
          go_ret
          refine ⟨ret_int (by simp [checkQ, allowQ]), ?_⟩
          repeat (with_reducible first | assumption | exact Below.refl _ _ | refine Below.drew ?_ | refine below_drewN ?_ _ | refine bw_alloc ?_ _ | (refine bw_set ?_ ?_ _; focus (dsimp only; omega)) | (apply bw_behind; assumption))
  · cases L with
    | false =>
      go_enter Tryd.func36, Tryd.ntmps36
      go_wp2_with (go_at_call 67; (with_reducible refine (Cc1.out _).mono ?_); rintro e w1 ⟨rfl, hb1⟩; obtain ⟨hr1, hh1, m1, hs1⟩ := bl_all hb1)
      go_ret
      refine ⟨ret_int (by simp [checkQ]), ?_⟩
      repeat (with_reducible first | assumption | exact Below.refl _ _ | refine Below.drew ?_ | refine below_drewN ?_ _ | refine bw_alloc ?_ _ | (refine bw_set ?_ ?_ _; focus (dsimp only; omega)) | (apply bw_behind; assumption))
    | true =>
      cases b1 with
      | false =>
        cases b4 with
        | false =>
          go_enter Tryd.func36, Tryd.ntmps36
          go_wp2_with (go_at_call 67; (with_reducible refine (Cc1.out _).mono ?_); rintro e w1 ⟨rfl, hb1⟩; obtain ⟨hr1, hh1, m1, hs1⟩ := bl_all hb1)
          go_ret
          refine ⟨ret_int (by simp [checkQ]), ?_⟩
          repeat (with_reducible first | assumption | exact Below.refl _ _ | refine Below.drew ?_ | refine below_drewN ?_ _ | refine bw_alloc ?_ _ | (refine bw_set ?_ ?_ _; focus (dsimp only; omega)) | (apply bw_behind; assumption))
        | true =>
          go_enter Tryd.func36, Tryd.ntmps36
          go_wp2_with (go_at_call 67; (with_reducible refine (Cc1.out _).mono ?_); rintro e w1 ⟨rfl, hb1⟩; obtain ⟨hr1, hh1, m1, hs1⟩ := bl_all hb1)
          go_ret
          refine ⟨ret_int (by simp [checkQ, allowQ]), ?_⟩
          repeat (with_reducible first | assumption | exact Below.refl _ _ | refine Below.drew ?_ | refine below_drewN ?_ _ | refine bw_alloc ?_ _ | (refine bw_set ?_ ?_ _; focus (dsimp only; omega)) | (apply bw_behind; assumption))
      | true =>
        cases b4 with
        | false =>
          go_enter Tryd.func36, Tryd.ntmps36
          go_wp2_with (go_at_call 67; (with_reducible refine (Cc1.out _).mono ?_); rintro e w1 ⟨rfl, hb1⟩; obtain ⟨hr1, hh1, m1, hs1⟩ := bl_all hb1)
          go_ret
          refine ⟨ret_int (by simp [checkQ]), ?_⟩
          repeat (with_reducible first | assumption | exact Below.refl _ _ | refine Below.drew ?_ | refine below_drewN ?_ _ | refine bw_alloc ?_ _ | (refine bw_set ?_ ?_ _; focus (dsimp only; omega)) | (apply bw_behind; assumption))
        | true =>
          go_enter Tryd.func36, Tryd.ntmps36
          go_wp2_with (go_at_call 67; (with_reducible refine (Cc1.out _).mono ?_); rintro e w1 ⟨rfl, hb1⟩; obtain ⟨hr1, hh1, m1, hs1⟩ := bl_all hb1)
          go_ret
          refine ⟨ret_int (by simp [checkQ, allowQ]), ?_⟩
          repeat (with_reducible first | assumption | exact Below.refl _ _ | refine Below.drew ?_ | refine below_drewN ?_ _ | refine bw_alloc ?_ _ | (refine bw_set ?_ ?_ _; focus (dsimp only; omega)) | (apply bw_behind; assumption))
  · cases L with
    | false =>
      go_enter Tryd.func36, Tryd.ntmps36
      go_wp2_with (go_at_call 67; (with_reducible refine (Cc1.out _).mono ?_); rintro e w1 ⟨rfl, hb1⟩; obtain ⟨hr1, hh1, m1, hs1⟩ := bl_all hb1)
      go_ret
      refine ⟨ret_int (by simp [checkQ]), ?_⟩
      repeat (with_reducible first | assumption | exact Below.refl _ _ | refine Below.drew ?_ | refine below_drewN ?_ _ | refine bw_alloc ?_ _ | (refine bw_set ?_ ?_ _; focus (dsimp only; omega)) | (apply bw_behind; assumption))
    | true =>
      cases b2 with
      | false =>
        cases b4 with
        | false =>
          go_enter Tryd.func36, Tryd.ntmps36
          go_wp2_with (go_at_call 67; (with_reducible refine (Cc1.out _).mono ?_); rintro e w1 ⟨rfl, hb1⟩; obtain ⟨hr1, hh1, m1, hs1⟩ := bl_all hb1)
          go_ret
          refine ⟨ret_int (by simp [checkQ]), ?_⟩
          repeat (with_reducible first | assumption | exact Below.refl _ _ | refine Below.drew ?_ | refine below_drewN ?_ _ | refine bw_alloc ?_ _ | (refine bw_set ?_ ?_ _; focus (dsimp only; omega)) | (apply bw_behind; assumption))
        | true =>
          go_enter Tryd.func36, Tryd.ntmps36
          go_wp2_with (go_at_call 67; (with_reducible refine (Cc1.out _).mono ?_); rintro e w1 ⟨rfl, hb1⟩; obtain ⟨hr1, hh1, m1, hs1⟩ := bl_all hb1)
          go_ret
          refine ⟨ret_int (by simp [checkQ, allowQ]), ?_⟩
          repeat (with_reducible first | assumption | exact Below.refl _ _ | refine Below.drew ?_ | refine below_drewN ?_ _ | refine bw_alloc ?_ _ | (refine bw_set ?_ ?_ _; focus (dsimp only; omega)) | (apply bw_behind; assumption))
      | true =>
        cases b4 with
        | false =>
          go_enter Tryd.func36, Tryd.ntmps36
          go_wp2_with (go_at_call 67; (with_reducible refine (Cc1.out _).mono ?_); rintro e w1 ⟨rfl, hb1⟩; obtain ⟨hr1, hh1, m1, hs1⟩ := bl_all hb1)
          go_ret
          refine ⟨ret_int (by simp [checkQ]), ?_⟩
          repeat (with_reducible first | assumption | exact Below.refl _ _ | refine Below.drew ?_ | refine below_drewN ?_ _ | refine bw_alloc ?_ _ | (refine bw_set ?_ ?_ _; focus (dsimp only; omega)) | (apply bw_behind; assumption))
        | true =>
          go_enter Tryd.func36, Tryd.ntmps36
          go_wp2_with (go_at_call 67; (with_reducible refine (Cc1.out _).mono ?_); rintro e w1 ⟨rfl, hb1⟩; obtain ⟨hr1, hh1, m1, hs1⟩ := bl_all hb1)
          go_ret
          refine ⟨ret_int (by simp [checkQ, allowQ]), ?_⟩
          repeat (with_reducible first | assumption | exact Below.refl _ _ | refine Below.drew ?_ | refine below_drewN ?_ _ | refine bw_alloc ?_ _ | (refine bw_set ?_ ?_ _; focus (dsimp only; omega)) | (apply bw_behind; assumption))
  · cases L with
    | false =>
      go_enter Tryd.func36, Tryd.ntmps36
      go_wp2_with (go_at_call 67; (with_reducible refine (Cc1.out _).mono ?_); rintro e w1 ⟨rfl, hb1⟩; obtain ⟨hr1, hh1, m1, hs1⟩ := bl_all hb1)
      go_ret
      refine ⟨ret_int (by simp [checkQ]), ?_⟩
      repeat (with_reducible first | assumption | exact Below.refl _ _ | refine Below.drew ?_ | refine below_drewN ?_ _ | refine bw_alloc ?_ _ | (refine bw_set ?_ ?_ _; focus (dsimp only; omega)) | (apply bw_behind; assumption))
    | true =>
      cases b1 with
      | false =>
        cases b4 with
        | false =>
          go_enter Tryd.func36, Tryd.ntmps36
          go_wp2_with (go_at_call 67; (with_reducible refine (Cc1.out _).mono ?_); rintro e w1 ⟨rfl, hb1⟩; obtain ⟨hr1, hh1, m1, hs1⟩ := bl_all hb1)
          go_ret
          refine ⟨ret_int (by simp [checkQ]), ?_⟩
          repeat (with_reducible first | assumption | exact Below.refl _ _ | refine Below.drew ?_ | refine below_drewN ?_ _ | refine bw_alloc ?_ _ | (refine bw_set ?_ ?_ _; focus (dsimp only; omega)) | (apply bw_behind; assumption))
        | true =>
          go_enter Tryd.func36, Tryd.ntmps36
          go_wp2_with (go_at_call 67; (with_reducible refine (Cc1.out _).mono ?_); rintro e w1 ⟨rfl, hb1⟩; obtain ⟨hr1, hh1, m1, hs1⟩ := bl_all hb1)
          go_ret
          refine ⟨ret_int (by simp [checkQ, allowQ]), ?_⟩
          repeat (with_reducible first | assumption | exact Below.refl _ _ | refine Below.drew ?_ | refine below_drewN ?_ _ | refine bw_alloc ?_ _ | (refine bw_set ?_ ?_ _; focus (dsimp only; omega)) | (apply bw_behind; assumption))
      | true =>
        cases b4 with
        | false =>
          go_enter Tryd.func36, Tryd.ntmps36
          go_wp2_with (go_at_call 67; (with_reducible refine (Cc1.out _).mono ?_); rintro e w1 ⟨rfl, hb1⟩; obtain ⟨hr1, hh1, m1, hs1⟩ := bl_all hb1)
          go_ret
          refine ⟨ret_int (by simp [checkQ]), ?_⟩
          repeat (with_reducible first | assumption | exact Below.refl _ _ | refine Below.drew ?_ | refine below_drewN ?_ _ | refine bw_alloc ?_ _ | (refine bw_set ?_ ?_ _; focus (dsimp only; omega)) | (apply bw_behind; assumption))
        | true =>
          cases b9 with
          | false =>
            go_enter Tryd.func36, Tryd.ntmps36
            go_wp2_with (go_at_call 67; (with_reducible refine (Cc1.out _).mono ?_); rintro e w1 ⟨rfl, hb1⟩; obtain ⟨hr1, hh1, m1, hs1⟩ := bl_all hb1)
            go_ret
            refine ⟨ret_int (by simp [checkQ, allowQ]), ?_⟩
            repeat (with_reducible first | assumption | exact Below.refl _ _ | refine Below.drew ?_ | refine below_drewN ?_ _ | refine bw_alloc ?_ _ | (refine bw_set ?_ ?_ _; focus (dsimp only; omega)) | (apply bw_behind; assumption))
          | true =>
            cases b11 with
            | false =>
              cases gen with
              | false =>
                go_enter Tryd.func36, Tryd.ntmps36
                go_wp2_with (go_at_call 67; (with_reducible refine (Cc1.out _).mono ?_); rintro e w1 ⟨rfl, hb1⟩; obtain ⟨hr1, hh1, m1, hs1⟩ := bl_all hb1)
                go_ret
                refine ⟨ret_int (by simp [checkQ, allowQ]), ?_⟩
                repeat (with_reducible first | assumption | exact Below.refl _ _ | refine Below.drew ?_ | refine below_drewN ?_ _ | refine bw_alloc ?_ _ | (refine bw_set ?_ ?_ _; focus (dsimp only; omega)) | (apply bw_behind; assumption))
              | true =>
                go_enter Tryd.func36, Tryd.ntmps36
                go_wp2_with (go_at_call 67; (with_reducible refine (Cc1.out _).mono ?_); rintro e w1 ⟨rfl, hb1⟩; obtain ⟨hr1, hh1, m1, hs1⟩ := bl_all hb1)
                go_ret
                refine ⟨ret_int (by simp [checkQ, allowQ]), ?_⟩
                repeat (with_reducible first | assumption | exact Below.refl _ _ | refine Below.drew ?_ | refine below_drewN ?_ _ | refine bw_alloc ?_ _ | (refine bw_set ?_ ?_ _; focus (dsimp only; omega)) | (apply bw_behind; assumption))
            | true =>
              cases gen with
              | false =>
                go_enter Tryd.func36, Tryd.ntmps36
                go_wp2_with (go_at_call 67; (with_reducible refine (Cc1.out _).mono ?_); rintro e w1 ⟨rfl, hb1⟩; obtain ⟨hr1, hh1, m1, hs1⟩ := bl_all hb1)
                go_ret
                refine ⟨ret_int (by simp [checkQ, allowQ]), ?_⟩
                repeat (with_reducible first | assumption | exact Below.refl _ _ | refine Below.drew ?_ | refine below_drewN ?_ _ | refine bw_alloc ?_ _ | (refine bw_set ?_ ?_ _; focus (dsimp only; omega)) | (apply bw_behind; assumption))
              | true =>
                go_enter Tryd.func36, Tryd.ntmps36
                go_wp2_with (go_at_call 67; (with_reducible refine (Cc1.out _).mono ?_); rintro e w1 ⟨rfl, hb1⟩; obtain ⟨hr1, hh1, m1, hs1⟩ := bl_all hb1)
                go_ret
                refine ⟨ret_int (by simp [checkQ, allowQ]), ?_⟩
                repeat (with_reducible first | assumption | exact Below.refl _ _ | refine Below.drew ?_ | refine below_drewN ?_ _ | refine bw_alloc ?_ _ | (refine bw_set ?_ ?_ _; focus (dsimp only; omega)) | (apply bw_behind; assumption))
  · cases L with
    | false =>
      go_enter Tryd.func36, Tryd.ntmps36
      go_wp2_with (go_at_call 67; (with_reducible refine (Cc1.out _).mono ?_); rintro e w1 ⟨rfl, hb1⟩; obtain ⟨hr1, hh1, m1, hs1⟩ := bl_all hb1)
      go_ret
      refine ⟨ret_int (by simp [checkQ]), ?_⟩
      repeat (with_reducible first | assumption | exact Below.refl _ _ | refine Below.drew ?_ | refine below_drewN ?_ _ | refine bw_alloc ?_ _ | (refine bw_set ?_ ?_ _; focus (dsimp only; omega)) | (apply bw_behind; assumption))
    | true =>
      cases b2 with
      | false =>
        cases b4 with
        | false =>
          go_enter Tryd.func36, Tryd.ntmps36
          go_wp2_with (go_at_call 67; (with_reducible refine (Cc1.out _).mono ?_); rintro e w1 ⟨rfl, hb1⟩; obtain ⟨hr1, hh1, m1, hs1⟩ := bl_all hb1)
          go_ret
          refine ⟨ret_int (by simp [checkQ]), ?_⟩
          repeat (with_reducible first | assumption | exact Below.refl _ _ | refine Below.drew ?_ | refine below_drewN ?_ _ | refine bw_alloc ?_ _ | (refine bw_set ?_ ?_ _; focus (dsimp only; omega)) | (apply bw_behind; assumption))
        | true =>
          go_enter Tryd.func36, Tryd.ntmps36
          go_wp2_with (go_at_call 67; (with_reducible refine (Cc1.out _).mono ?_); rintro e w1 ⟨rfl, hb1⟩; obtain ⟨hr1, hh1, m1, hs1⟩ := bl_all hb1)
          go_ret
          refine ⟨ret_int (by simp [checkQ, allowQ]), ?_⟩
          repeat (with_reducible first | assumption | exact Below.refl _ _ | refine Below.drew ?_ | refine below_drewN ?_ _ | refine bw_alloc ?_ _ | (refine bw_set ?_ ?_ _; focus (dsimp only; omega)) | (apply bw_behind; assumption))
      | true =>
        cases b4 with
        | false =>
          go_enter Tryd.func36, Tryd.ntmps36
          go_wp2_with (go_at_call 67; (with_reducible refine (Cc1.out _).mono ?_); rintro e w1 ⟨rfl, hb1⟩; obtain ⟨hr1, hh1, m1, hs1⟩ := bl_all hb1)
          go_ret
          refine ⟨ret_int (by simp [checkQ]), ?_⟩
          repeat (with_reducible first | assumption | exact Below.refl _ _ | refine Below.drew ?_ | refine below_drewN ?_ _ | refine bw_alloc ?_ _ | (refine bw_set ?_ ?_ _; focus (dsimp only; omega)) | (apply bw_behind; assumption))
        | true =>
          cases tagged with
          | false =>
            go_enter Tryd.func36, Tryd.ntmps36
            go_wp2_with (go_at_call 67; (with_reducible refine (Cc1.out _).mono ?_); rintro e w1 ⟨rfl, hb1⟩; obtain ⟨hr1, hh1, m1, hs1⟩ := bl_all hb1)
            go_ret
            refine ⟨ret_int (by simp [checkQ, allowQ]), ?_⟩
            repeat (with_reducible first | assumption | exact Below.refl _ _ | refine Below.drew ?_ | refine below_drewN ?_ _ | refine bw_alloc ?_ _ | (refine bw_set ?_ ?_ _; focus (dsimp only; omega)) | (apply bw_behind; assumption))
          | true =>
            cases b8 with
            | false =>
              go_enter Tryd.func36, Tryd.ntmps36
              go_wp2_with (go_at_call 67; (with_reducible refine (Cc1.out _).mono ?_); rintro e w1 ⟨rfl, hb1⟩; obtain ⟨hr1, hh1, m1, hs1⟩ := bl_all hb1)
              go_ret
              refine ⟨ret_int (by simp [checkQ, allowQ]), ?_⟩
              repeat (with_reducible first | assumption | exact Below.refl _ _ | refine Below.drew ?_ | refine below_drewN ?_ _ | refine bw_alloc ?_ _ | (refine bw_set ?_ ?_ _; focus (dsimp only; omega)) | (apply bw_behind; assumption))
            | true =>
              go_enter Tryd.func36, Tryd.ntmps36
              go_wp2_with (go_at_call 67; (with_reducible refine (Cc1.out _).mono ?_); rintro e w1 ⟨rfl, hb1⟩; obtain ⟨hr1, hh1, m1, hs1⟩ := bl_all hb1)
              go_ret
              refine ⟨ret_int (by simp [checkQ, allowQ]), ?_⟩
              repeat (with_reducible first | assumption | exact Below.refl _ _ | refine Below.drew ?_ | refine below_drewN ?_ _ | refine bw_alloc ?_ _ | (refine bw_set ?_ ?_ _; focus (dsimp only; omega)) | (apply bw_behind; assumption))
  · have hne := hide (other_ne h0 h1 h2 h3 h4)
    cases L with
    | false =>
      go_enter Tryd.func36, Tryd.ntmps36
      go_wp2_with (go_at_call 67; (with_reducible refine (Cc1.out _).mono ?_); rintro e w1 ⟨rfl, hb1⟩; obtain ⟨hr1, hh1, m1, hs1⟩ := bl_all hb1)
      go_ret
      refine ⟨ret_int (by simp [checkQ]), ?_⟩
      repeat (with_reducible first | assumption | exact Below.refl _ _ | refine Below.drew ?_ | refine below_drewN ?_ _ | refine bw_alloc ?_ _ | (refine bw_set ?_ ?_ _; focus (dsimp only; omega)) | (apply bw_behind; assumption))
    | true =>
      cases b4 with
      | false =>
        go_enter Tryd.func36, Tryd.ntmps36
        go_wp2_with (go_at_call 67; (with_reducible refine (Cc1.out _).mono ?_); rintro e w1 ⟨rfl, hb1⟩; obtain ⟨hr1, hh1, m1, hs1⟩ := bl_all hb1)
        go_ret
        refine ⟨ret_int (by simp [checkQ]), ?_⟩
        repeat (with_reducible first | assumption | exact Below.refl _ _ | refine Below.drew ?_ | refine below_drewN ?_ _ | refine bw_alloc ?_ _ | (refine bw_set ?_ ?_ _; focus (dsimp only; omega)) | (apply bw_behind; assumption))
      | true =>
        go_enter Tryd.func36, Tryd.ntmps36
        go_wp2_with (go_at_call 67; (with_reducible refine (Cc1.out _).mono ?_); rintro e w1 ⟨rfl, hb1⟩; obtain ⟨hr1, hh1, m1, hs1⟩ := bl_all hb1)
        go_ret
        refine ⟨ret_int (by simp [checkQ, allowQ, hne.out]), ?_⟩
        repeat (with_reducible first | assumption | exact Below.refl _ _ | refine Below.drew ?_ | refine below_drewN ?_ _ | refine bw_alloc ?_ _ | (refine bw_set ?_ ?_ _; focus (dsimp only; omega)) | (apply bw_behind; assumption))

theorem rcheck_any (b0 b1 b2 b3 b4 b5 b6 b7 b8 b9 b10 b11 tagged gen : Bool) (F : BitVec 64) (k : Int) (w : World) : Calls Tryd.prog 36 #[.agg #[.bool b0, .bool b1, .bool b2, .bool b3, .bool b4, .bool b5, .bool b6, .bool b7, .bool b8, .bool b9, .bool b10, .bool b11, .int .u64 (F.toNat : Int)], .int .i64 k, .bool tagged, .bool gen] w (Makes (.int .i64 (checkQ (b0 && (b1 || b2 || b3)) b4 (allowQ k b1 b2 b3) b8 b9 b11 k tagged gen)) w) :=
  rcheck_let b0 b1 b2 b3 b4 b5 b6 b7 b8 b9 b10 b11 _ tagged gen _ k (fun W => rleaf_any b0 b1 b2 b3 b4 b5 b6 b7 b8 b9 b10 b11 F W) w
end Go.Proofs.YtkajndonefkegaaDoor
