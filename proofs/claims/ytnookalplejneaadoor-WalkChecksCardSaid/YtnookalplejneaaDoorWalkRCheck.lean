/-
  What the document's Check answers.
-/
import Derived.Test.YtnookalplejneaaDoorWalkMark
import Derived.Test.YtnookalplejneaaDoorPteRef
namespace Go.Proofs.YtnookalplejneaaDoor
open Go.RowKit Words FieldMath PteMath

set_option maxRecDepth 100000 in
set_option maxHeartbeats 8000000 in
theorem rcheck_let (b0 b1 b2 b3 b4 b5 b6 b7 b8 b9 b10 b11 L tagged gen : Bool) (N k : Int) (c1 : ∀ W, Calls Tryd.prog 36 #[.agg #[.bool b0, .bool b1, .bool b2, .bool b3, .bool b4, .bool b5, .bool b6, .bool b7, .bool b8, .bool b9, .bool b10, .bool b11, .int .u64 N]] W (Makes (.bool L) W)) (w : World) : Calls Tryd.prog 13 #[.agg #[.bool b0, .bool b1, .bool b2, .bool b3, .bool b4, .bool b5, .bool b6, .bool b7, .bool b8, .bool b9, .bool b10, .bool b11, .int .u64 N], .int .i64 k, .bool tagged, .bool gen] w (Makes (.int .i64 (checkQ L b4 (allowQ k b1 b2 b3) b8 b9 b11 k tagged gen)) w) := by
  have Cc1 := hide c1
  clear c1
  have SS := cell_same
  have LB' := ltB_add
  have LS := ltB_self
  have LA' := alloc_reads
  have LH := alloc_holds
  rcases kinds k with rfl | rfl | rfl | rfl | rfl | ⟨h0, h1, h2, h3, h4⟩
  · cases L with
    | false =>
      go_enter Tryd.func13, Tryd.ntmps13
      go_wp2_with (go_at_call 36; (with_reducible refine (Cc1.out _).mono ?_); rintro e w1 ⟨rfl, hb1⟩; have hr1 := below_reads hb1; have hh1 := below_holds hb1; obtain ⟨m1, hs1⟩ := below_grew hb1)
      go_ret
      refine ⟨ret_int (by simp [checkQ]), ?_⟩
      repeat (first | with_reducible assumption | with_reducible exact Below.refl _ _ | with_reducible refine Below.drew ?_ | with_reducible refine below_drewN ?_ _ | with_reducible refine bw_alloc ?_ _ | (with_reducible refine bw_set ?_ ?_ _; focus (dsimp only; omega)) | (with_reducible apply bw_behind; with_reducible assumption))
    | true =>
      cases b3 with
      | false =>
        cases b4 with
        | false =>
          go_enter Tryd.func13, Tryd.ntmps13
          go_wp2_with (go_at_call 36; (with_reducible refine (Cc1.out _).mono ?_); rintro e w1 ⟨rfl, hb1⟩; have hr1 := below_reads hb1; have hh1 := below_holds hb1; obtain ⟨m1, hs1⟩ := below_grew hb1)
          go_ret
          refine ⟨ret_int (by simp [checkQ]), ?_⟩
          repeat (first | with_reducible assumption | with_reducible exact Below.refl _ _ | with_reducible refine Below.drew ?_ | with_reducible refine below_drewN ?_ _ | with_reducible refine bw_alloc ?_ _ | (with_reducible refine bw_set ?_ ?_ _; focus (dsimp only; omega)) | (with_reducible apply bw_behind; with_reducible assumption))
        | true =>
          go_enter Tryd.func13, Tryd.ntmps13
          go_wp2_with (go_at_call 36; (with_reducible refine (Cc1.out _).mono ?_); rintro e w1 ⟨rfl, hb1⟩; have hr1 := below_reads hb1; have hh1 := below_holds hb1; obtain ⟨m1, hs1⟩ := below_grew hb1)
          go_ret
          refine ⟨ret_int (by simp [checkQ, allowQ]), ?_⟩
          repeat (first | with_reducible assumption | with_reducible exact Below.refl _ _ | with_reducible refine Below.drew ?_ | with_reducible refine below_drewN ?_ _ | with_reducible refine bw_alloc ?_ _ | (with_reducible refine bw_set ?_ ?_ _; focus (dsimp only; omega)) | (with_reducible apply bw_behind; with_reducible assumption))
      | true =>
        cases b4 with
        | false =>
          go_enter Tryd.func13, Tryd.ntmps13
          go_wp2_with (go_at_call 36; (with_reducible refine (Cc1.out _).mono ?_); rintro e w1 ⟨rfl, hb1⟩; have hr1 := below_reads hb1; have hh1 := below_holds hb1; obtain ⟨m1, hs1⟩ := below_grew hb1)
          go_ret
          refine ⟨ret_int (by simp [checkQ]), ?_⟩
          repeat (first | with_reducible assumption | with_reducible exact Below.refl _ _ | with_reducible refine Below.drew ?_ | with_reducible refine below_drewN ?_ _ | with_reducible refine bw_alloc ?_ _ | (with_reducible refine bw_set ?_ ?_ _; focus (dsimp only; omega)) | (with_reducible apply bw_behind; with_reducible assumption))
        | true =>
          go_enter Tryd.func13, Tryd.ntmps13
          go_wp2_with (go_at_call 36; (with_reducible refine (Cc1.out _).mono ?_); rintro e w1 ⟨rfl, hb1⟩; have hr1 := below_reads hb1; have hh1 := below_holds hb1; obtain ⟨m1, hs1⟩ := below_grew hb1)
          go_ret
          refine ⟨ret_int (by simp [checkQ, allowQ]), ?_⟩
          repeat (first | with_reducible assumption | with_reducible exact Below.refl _ _ | with_reducible refine Below.drew ?_ | with_reducible refine below_drewN ?_ _ | with_reducible refine bw_alloc ?_ _ | (with_reducible refine bw_set ?_ ?_ _; focus (dsimp only; omega)) | (with_reducible apply bw_behind; with_reducible assumption))
  · cases L with
    | false =>
      go_enter Tryd.func13, Tryd.ntmps13
      go_wp2_with (go_at_call 36; (with_reducible refine (Cc1.out _).mono ?_); rintro e w1 ⟨rfl, hb1⟩; have hr1 := below_reads hb1; have hh1 := below_holds hb1; obtain ⟨m1, hs1⟩ := below_grew hb1)
      go_ret
      refine ⟨ret_int (by simp [checkQ]), ?_⟩
      repeat (first | with_reducible assumption | with_reducible exact Below.refl _ _ | with_reducible refine Below.drew ?_ | with_reducible refine below_drewN ?_ _ | with_reducible refine bw_alloc ?_ _ | (with_reducible refine bw_set ?_ ?_ _; focus (dsimp only; omega)) | (with_reducible apply bw_behind; with_reducible assumption))
    | true =>
      cases b1 with
      | false =>
        cases b4 with
        | false =>
          go_enter Tryd.func13, Tryd.ntmps13
          go_wp2_with (go_at_call 36; (with_reducible refine (Cc1.out _).mono ?_); rintro e w1 ⟨rfl, hb1⟩; have hr1 := below_reads hb1; have hh1 := below_holds hb1; obtain ⟨m1, hs1⟩ := below_grew hb1)
          go_ret
          refine ⟨ret_int (by simp [checkQ]), ?_⟩
          repeat (first | with_reducible assumption | with_reducible exact Below.refl _ _ | with_reducible refine Below.drew ?_ | with_reducible refine below_drewN ?_ _ | with_reducible refine bw_alloc ?_ _ | (with_reducible refine bw_set ?_ ?_ _; focus (dsimp only; omega)) | (with_reducible apply bw_behind; with_reducible assumption))
        | true =>
          go_enter Tryd.func13, Tryd.ntmps13
          go_wp2_with (go_at_call 36; (with_reducible refine (Cc1.out _).mono ?_); rintro e w1 ⟨rfl, hb1⟩; have hr1 := below_reads hb1; have hh1 := below_holds hb1; obtain ⟨m1, hs1⟩ := below_grew hb1)
          go_ret
          refine ⟨ret_int (by simp [checkQ, allowQ]), ?_⟩
          repeat (first | with_reducible assumption | with_reducible exact Below.refl _ _ | with_reducible refine Below.drew ?_ | with_reducible refine below_drewN ?_ _ | with_reducible refine bw_alloc ?_ _ | (with_reducible refine bw_set ?_ ?_ _; focus (dsimp only; omega)) | (with_reducible apply bw_behind; with_reducible assumption))
      | true =>
        cases b4 with
        | false =>
          go_enter Tryd.func13, Tryd.ntmps13
          go_wp2_with (go_at_call 36; (with_reducible refine (Cc1.out _).mono ?_); rintro e w1 ⟨rfl, hb1⟩; have hr1 := below_reads hb1; have hh1 := below_holds hb1; obtain ⟨m1, hs1⟩ := below_grew hb1)
          go_ret
          refine ⟨ret_int (by simp [checkQ]), ?_⟩
          repeat (first | with_reducible assumption | with_reducible exact Below.refl _ _ | with_reducible refine Below.drew ?_ | with_reducible refine below_drewN ?_ _ | with_reducible refine bw_alloc ?_ _ | (with_reducible refine bw_set ?_ ?_ _; focus (dsimp only; omega)) | (with_reducible apply bw_behind; with_reducible assumption))
        | true =>
          go_enter Tryd.func13, Tryd.ntmps13
          go_wp2_with (go_at_call 36; (with_reducible refine (Cc1.out _).mono ?_); rintro e w1 ⟨rfl, hb1⟩; have hr1 := below_reads hb1; have hh1 := below_holds hb1; obtain ⟨m1, hs1⟩ := below_grew hb1)
          go_ret
          refine ⟨ret_int (by simp [checkQ, allowQ]), ?_⟩
          repeat (first | with_reducible assumption | with_reducible exact Below.refl _ _ | with_reducible refine Below.drew ?_ | with_reducible refine below_drewN ?_ _ | with_reducible refine bw_alloc ?_ _ | (with_reducible refine bw_set ?_ ?_ _; focus (dsimp only; omega)) | (with_reducible apply bw_behind; with_reducible assumption))
  · cases L with
    | false =>
      go_enter Tryd.func13, Tryd.ntmps13
      go_wp2_with (go_at_call 36; (with_reducible refine (Cc1.out _).mono ?_); rintro e w1 ⟨rfl, hb1⟩; have hr1 := below_reads hb1; have hh1 := below_holds hb1; obtain ⟨m1, hs1⟩ := below_grew hb1)
      go_ret
      refine ⟨ret_int (by simp [checkQ]), ?_⟩
      repeat (first | with_reducible assumption | with_reducible exact Below.refl _ _ | with_reducible refine Below.drew ?_ | with_reducible refine below_drewN ?_ _ | with_reducible refine bw_alloc ?_ _ | (with_reducible refine bw_set ?_ ?_ _; focus (dsimp only; omega)) | (with_reducible apply bw_behind; with_reducible assumption))
    | true =>
      cases b2 with
      | false =>
        cases b4 with
        | false =>
          go_enter Tryd.func13, Tryd.ntmps13
          go_wp2_with (go_at_call 36; (with_reducible refine (Cc1.out _).mono ?_); rintro e w1 ⟨rfl, hb1⟩; have hr1 := below_reads hb1; have hh1 := below_holds hb1; obtain ⟨m1, hs1⟩ := below_grew hb1)
          go_ret
          refine ⟨ret_int (by simp [checkQ]), ?_⟩
          repeat (first | with_reducible assumption | with_reducible exact Below.refl _ _ | with_reducible refine Below.drew ?_ | with_reducible refine below_drewN ?_ _ | with_reducible refine bw_alloc ?_ _ | (with_reducible refine bw_set ?_ ?_ _; focus (dsimp only; omega)) | (with_reducible apply bw_behind; with_reducible assumption))
        | true =>
          go_enter Tryd.func13, Tryd.ntmps13
          go_wp2_with (go_at_call 36; (with_reducible refine (Cc1.out _).mono ?_); rintro e w1 ⟨rfl, hb1⟩; have hr1 := below_reads hb1; have hh1 := below_holds hb1; obtain ⟨m1, hs1⟩ := below_grew hb1)
          go_ret
          refine ⟨ret_int (by simp [checkQ, allowQ]), ?_⟩
          repeat (first | with_reducible assumption | with_reducible exact Below.refl _ _ | with_reducible refine Below.drew ?_ | with_reducible refine below_drewN ?_ _ | with_reducible refine bw_alloc ?_ _ | (with_reducible refine bw_set ?_ ?_ _; focus (dsimp only; omega)) | (with_reducible apply bw_behind; with_reducible assumption))
      | true =>
        cases b4 with
        | false =>
          go_enter Tryd.func13, Tryd.ntmps13
          go_wp2_with (go_at_call 36; (with_reducible refine (Cc1.out _).mono ?_); rintro e w1 ⟨rfl, hb1⟩; have hr1 := below_reads hb1; have hh1 := below_holds hb1; obtain ⟨m1, hs1⟩ := below_grew hb1)
          go_ret
          refine ⟨ret_int (by simp [checkQ]), ?_⟩
          repeat (first | with_reducible assumption | with_reducible exact Below.refl _ _ | with_reducible refine Below.drew ?_ | with_reducible refine below_drewN ?_ _ | with_reducible refine bw_alloc ?_ _ | (with_reducible refine bw_set ?_ ?_ _; focus (dsimp only; omega)) | (with_reducible apply bw_behind; with_reducible assumption))
        | true =>
          go_enter Tryd.func13, Tryd.ntmps13
          go_wp2_with (go_at_call 36; (with_reducible refine (Cc1.out _).mono ?_); rintro e w1 ⟨rfl, hb1⟩; have hr1 := below_reads hb1; have hh1 := below_holds hb1; obtain ⟨m1, hs1⟩ := below_grew hb1)
          go_ret
          refine ⟨ret_int (by simp [checkQ, allowQ]), ?_⟩
          repeat (first | with_reducible assumption | with_reducible exact Below.refl _ _ | with_reducible refine Below.drew ?_ | with_reducible refine below_drewN ?_ _ | with_reducible refine bw_alloc ?_ _ | (with_reducible refine bw_set ?_ ?_ _; focus (dsimp only; omega)) | (with_reducible apply bw_behind; with_reducible assumption))
  · cases L with
    | false =>
      go_enter Tryd.func13, Tryd.ntmps13
      go_wp2_with (go_at_call 36; (with_reducible refine (Cc1.out _).mono ?_); rintro e w1 ⟨rfl, hb1⟩; have hr1 := below_reads hb1; have hh1 := below_holds hb1; obtain ⟨m1, hs1⟩ := below_grew hb1)
      go_ret
      refine ⟨ret_int (by simp [checkQ]), ?_⟩
      repeat (first | with_reducible assumption | with_reducible exact Below.refl _ _ | with_reducible refine Below.drew ?_ | with_reducible refine below_drewN ?_ _ | with_reducible refine bw_alloc ?_ _ | (with_reducible refine bw_set ?_ ?_ _; focus (dsimp only; omega)) | (with_reducible apply bw_behind; with_reducible assumption))
    | true =>
      cases b1 with
      | false =>
        cases b4 with
        | false =>
          go_enter Tryd.func13, Tryd.ntmps13
          go_wp2_with (go_at_call 36; (with_reducible refine (Cc1.out _).mono ?_); rintro e w1 ⟨rfl, hb1⟩; have hr1 := below_reads hb1; have hh1 := below_holds hb1; obtain ⟨m1, hs1⟩ := below_grew hb1)
          go_ret
          refine ⟨ret_int (by simp [checkQ]), ?_⟩
          repeat (first | with_reducible assumption | with_reducible exact Below.refl _ _ | with_reducible refine Below.drew ?_ | with_reducible refine below_drewN ?_ _ | with_reducible refine bw_alloc ?_ _ | (with_reducible refine bw_set ?_ ?_ _; focus (dsimp only; omega)) | (with_reducible apply bw_behind; with_reducible assumption))
        | true =>
          go_enter Tryd.func13, Tryd.ntmps13
          go_wp2_with (go_at_call 36; (with_reducible refine (Cc1.out _).mono ?_); rintro e w1 ⟨rfl, hb1⟩; have hr1 := below_reads hb1; have hh1 := below_holds hb1; obtain ⟨m1, hs1⟩ := below_grew hb1)
          go_ret
          refine ⟨ret_int (by simp [checkQ, allowQ]), ?_⟩
          repeat (first | with_reducible assumption | with_reducible exact Below.refl _ _ | with_reducible refine Below.drew ?_ | with_reducible refine below_drewN ?_ _ | with_reducible refine bw_alloc ?_ _ | (with_reducible refine bw_set ?_ ?_ _; focus (dsimp only; omega)) | (with_reducible apply bw_behind; with_reducible assumption))
      | true =>
        cases b4 with
        | false =>
          go_enter Tryd.func13, Tryd.ntmps13
          go_wp2_with (go_at_call 36; (with_reducible refine (Cc1.out _).mono ?_); rintro e w1 ⟨rfl, hb1⟩; have hr1 := below_reads hb1; have hh1 := below_holds hb1; obtain ⟨m1, hs1⟩ := below_grew hb1)
          go_ret
          refine ⟨ret_int (by simp [checkQ]), ?_⟩
          repeat (first | with_reducible assumption | with_reducible exact Below.refl _ _ | with_reducible refine Below.drew ?_ | with_reducible refine below_drewN ?_ _ | with_reducible refine bw_alloc ?_ _ | (with_reducible refine bw_set ?_ ?_ _; focus (dsimp only; omega)) | (with_reducible apply bw_behind; with_reducible assumption))
        | true =>
          cases b9 with
          | false =>
            go_enter Tryd.func13, Tryd.ntmps13
            go_wp2_with (go_at_call 36; (with_reducible refine (Cc1.out _).mono ?_); rintro e w1 ⟨rfl, hb1⟩; have hr1 := below_reads hb1; have hh1 := below_holds hb1; obtain ⟨m1, hs1⟩ := below_grew hb1)
            go_ret
            refine ⟨ret_int (by simp [checkQ, allowQ]), ?_⟩
            repeat (first | with_reducible assumption | with_reducible exact Below.refl _ _ | with_reducible refine Below.drew ?_ | with_reducible refine below_drewN ?_ _ | with_reducible refine bw_alloc ?_ _ | (with_reducible refine bw_set ?_ ?_ _; focus (dsimp only; omega)) | (with_reducible apply bw_behind; with_reducible assumption))
          | true =>
            cases b11 with
            | false =>
              cases gen with
              | false =>
                go_enter Tryd.func13, Tryd.ntmps13
                go_wp2_with (go_at_call 36; (with_reducible refine (Cc1.out _).mono ?_); rintro e w1 ⟨rfl, hb1⟩; have hr1 := below_reads hb1; have hh1 := below_holds hb1; obtain ⟨m1, hs1⟩ := below_grew hb1)
                go_ret
                refine ⟨ret_int (by simp [checkQ, allowQ]), ?_⟩
                repeat (first | with_reducible assumption | with_reducible exact Below.refl _ _ | with_reducible refine Below.drew ?_ | with_reducible refine below_drewN ?_ _ | with_reducible refine bw_alloc ?_ _ | (with_reducible refine bw_set ?_ ?_ _; focus (dsimp only; omega)) | (with_reducible apply bw_behind; with_reducible assumption))
              | true =>
                go_enter Tryd.func13, Tryd.ntmps13
                go_wp2_with (go_at_call 36; (with_reducible refine (Cc1.out _).mono ?_); rintro e w1 ⟨rfl, hb1⟩; have hr1 := below_reads hb1; have hh1 := below_holds hb1; obtain ⟨m1, hs1⟩ := below_grew hb1)
                go_ret
                refine ⟨ret_int (by simp [checkQ, allowQ]), ?_⟩
                repeat (first | with_reducible assumption | with_reducible exact Below.refl _ _ | with_reducible refine Below.drew ?_ | with_reducible refine below_drewN ?_ _ | with_reducible refine bw_alloc ?_ _ | (with_reducible refine bw_set ?_ ?_ _; focus (dsimp only; omega)) | (with_reducible apply bw_behind; with_reducible assumption))
            | true =>
              cases gen with
              | false =>
                go_enter Tryd.func13, Tryd.ntmps13
                go_wp2_with (go_at_call 36; (with_reducible refine (Cc1.out _).mono ?_); rintro e w1 ⟨rfl, hb1⟩; have hr1 := below_reads hb1; have hh1 := below_holds hb1; obtain ⟨m1, hs1⟩ := below_grew hb1)
                go_ret
                refine ⟨ret_int (by simp [checkQ, allowQ]), ?_⟩
                repeat (first | with_reducible assumption | with_reducible exact Below.refl _ _ | with_reducible refine Below.drew ?_ | with_reducible refine below_drewN ?_ _ | with_reducible refine bw_alloc ?_ _ | (with_reducible refine bw_set ?_ ?_ _; focus (dsimp only; omega)) | (with_reducible apply bw_behind; with_reducible assumption))
              | true =>
                go_enter Tryd.func13, Tryd.ntmps13
                go_wp2_with (go_at_call 36; (with_reducible refine (Cc1.out _).mono ?_); rintro e w1 ⟨rfl, hb1⟩; have hr1 := below_reads hb1; have hh1 := below_holds hb1; obtain ⟨m1, hs1⟩ := below_grew hb1)
                go_ret
                refine ⟨ret_int (by simp [checkQ, allowQ]), ?_⟩
                repeat (first | with_reducible assumption | with_reducible exact Below.refl _ _ | with_reducible refine Below.drew ?_ | with_reducible refine below_drewN ?_ _ | with_reducible refine bw_alloc ?_ _ | (with_reducible refine bw_set ?_ ?_ _; focus (dsimp only; omega)) | (with_reducible apply bw_behind; with_reducible assumption))
  · cases L with
    | false =>
      go_enter Tryd.func13, Tryd.ntmps13
      go_wp2_with (go_at_call 36; (with_reducible refine (Cc1.out _).mono ?_); rintro e w1 ⟨rfl, hb1⟩; have hr1 := below_reads hb1; have hh1 := below_holds hb1; obtain ⟨m1, hs1⟩ := below_grew hb1)
      go_ret
      refine ⟨ret_int (by simp [checkQ]), ?_⟩
      repeat (first | with_reducible assumption | with_reducible exact Below.refl _ _ | with_reducible refine Below.drew ?_ | with_reducible refine below_drewN ?_ _ | with_reducible refine bw_alloc ?_ _ | (with_reducible refine bw_set ?_ ?_ _; focus (dsimp only; omega)) | (with_reducible apply bw_behind; with_reducible assumption))
    | true =>
      cases b2 with
      | false =>
        cases b4 with
        | false =>
          go_enter Tryd.func13, Tryd.ntmps13
          go_wp2_with (go_at_call 36; (with_reducible refine (Cc1.out _).mono ?_); rintro e w1 ⟨rfl, hb1⟩; have hr1 := below_reads hb1; have hh1 := below_holds hb1; obtain ⟨m1, hs1⟩ := below_grew hb1)
          go_ret
          refine ⟨ret_int (by simp [checkQ]), ?_⟩
          repeat (first | with_reducible assumption | with_reducible exact Below.refl _ _ | with_reducible refine Below.drew ?_ | with_reducible refine below_drewN ?_ _ | with_reducible refine bw_alloc ?_ _ | (with_reducible refine bw_set ?_ ?_ _; focus (dsimp only; omega)) | (with_reducible apply bw_behind; with_reducible assumption))
        | true =>
          go_enter Tryd.func13, Tryd.ntmps13
          go_wp2_with (go_at_call 36; (with_reducible refine (Cc1.out _).mono ?_); rintro e w1 ⟨rfl, hb1⟩; have hr1 := below_reads hb1; have hh1 := below_holds hb1; obtain ⟨m1, hs1⟩ := below_grew hb1)
          go_ret
          refine ⟨ret_int (by simp [checkQ, allowQ]), ?_⟩
          repeat (first | with_reducible assumption | with_reducible exact Below.refl _ _ | with_reducible refine Below.drew ?_ | with_reducible refine below_drewN ?_ _ | with_reducible refine bw_alloc ?_ _ | (with_reducible refine bw_set ?_ ?_ _; focus (dsimp only; omega)) | (with_reducible apply bw_behind; with_reducible assumption))
      | true =>
        cases b4 with
        | false =>
          go_enter Tryd.func13, Tryd.ntmps13
          go_wp2_with (go_at_call 36; (with_reducible refine (Cc1.out _).mono ?_); rintro e w1 ⟨rfl, hb1⟩; have hr1 := below_reads hb1; have hh1 := below_holds hb1; obtain ⟨m1, hs1⟩ := below_grew hb1)
          go_ret
          refine ⟨ret_int (by simp [checkQ]), ?_⟩
          repeat (first | with_reducible assumption | with_reducible exact Below.refl _ _ | with_reducible refine Below.drew ?_ | with_reducible refine below_drewN ?_ _ | with_reducible refine bw_alloc ?_ _ | (with_reducible refine bw_set ?_ ?_ _; focus (dsimp only; omega)) | (with_reducible apply bw_behind; with_reducible assumption))
        | true =>
          cases tagged with
          | false =>
            go_enter Tryd.func13, Tryd.ntmps13
            go_wp2_with (go_at_call 36; (with_reducible refine (Cc1.out _).mono ?_); rintro e w1 ⟨rfl, hb1⟩; have hr1 := below_reads hb1; have hh1 := below_holds hb1; obtain ⟨m1, hs1⟩ := below_grew hb1)
            go_ret
            refine ⟨ret_int (by simp [checkQ, allowQ]), ?_⟩
            repeat (first | with_reducible assumption | with_reducible exact Below.refl _ _ | with_reducible refine Below.drew ?_ | with_reducible refine below_drewN ?_ _ | with_reducible refine bw_alloc ?_ _ | (with_reducible refine bw_set ?_ ?_ _; focus (dsimp only; omega)) | (with_reducible apply bw_behind; with_reducible assumption))
          | true =>
            cases b8 with
            | false =>
              go_enter Tryd.func13, Tryd.ntmps13
              go_wp2_with (go_at_call 36; (with_reducible refine (Cc1.out _).mono ?_); rintro e w1 ⟨rfl, hb1⟩; have hr1 := below_reads hb1; have hh1 := below_holds hb1; obtain ⟨m1, hs1⟩ := below_grew hb1)
              go_ret
              refine ⟨ret_int (by simp [checkQ, allowQ]), ?_⟩
              repeat (first | with_reducible assumption | with_reducible exact Below.refl _ _ | with_reducible refine Below.drew ?_ | with_reducible refine below_drewN ?_ _ | with_reducible refine bw_alloc ?_ _ | (with_reducible refine bw_set ?_ ?_ _; focus (dsimp only; omega)) | (with_reducible apply bw_behind; with_reducible assumption))
            | true =>
              go_enter Tryd.func13, Tryd.ntmps13
              go_wp2_with (go_at_call 36; (with_reducible refine (Cc1.out _).mono ?_); rintro e w1 ⟨rfl, hb1⟩; have hr1 := below_reads hb1; have hh1 := below_holds hb1; obtain ⟨m1, hs1⟩ := below_grew hb1)
              go_ret
              refine ⟨ret_int (by simp [checkQ, allowQ]), ?_⟩
              repeat (first | with_reducible assumption | with_reducible exact Below.refl _ _ | with_reducible refine Below.drew ?_ | with_reducible refine below_drewN ?_ _ | with_reducible refine bw_alloc ?_ _ | (with_reducible refine bw_set ?_ ?_ _; focus (dsimp only; omega)) | (with_reducible apply bw_behind; with_reducible assumption))
  · have hne := hide (other_ne h0 h1 h2 h3 h4)
    cases L with
    | false =>
      go_enter Tryd.func13, Tryd.ntmps13
      go_wp2_with (go_at_call 36; (with_reducible refine (Cc1.out _).mono ?_); rintro e w1 ⟨rfl, hb1⟩; have hr1 := below_reads hb1; have hh1 := below_holds hb1; obtain ⟨m1, hs1⟩ := below_grew hb1)
      go_ret
      refine ⟨ret_int (by simp [checkQ]), ?_⟩
      repeat (first | with_reducible assumption | with_reducible exact Below.refl _ _ | with_reducible refine Below.drew ?_ | with_reducible refine below_drewN ?_ _ | with_reducible refine bw_alloc ?_ _ | (with_reducible refine bw_set ?_ ?_ _; focus (dsimp only; omega)) | (with_reducible apply bw_behind; with_reducible assumption))
    | true =>
      cases b4 with
      | false =>
        go_enter Tryd.func13, Tryd.ntmps13
        go_wp2_with (go_at_call 36; (with_reducible refine (Cc1.out _).mono ?_); rintro e w1 ⟨rfl, hb1⟩; have hr1 := below_reads hb1; have hh1 := below_holds hb1; obtain ⟨m1, hs1⟩ := below_grew hb1)
        go_ret
        refine ⟨ret_int (by simp [checkQ]), ?_⟩
        repeat (first | with_reducible assumption | with_reducible exact Below.refl _ _ | with_reducible refine Below.drew ?_ | with_reducible refine below_drewN ?_ _ | with_reducible refine bw_alloc ?_ _ | (with_reducible refine bw_set ?_ ?_ _; focus (dsimp only; omega)) | (with_reducible apply bw_behind; with_reducible assumption))
      | true =>
        go_enter Tryd.func13, Tryd.ntmps13
        go_wp2_with (go_at_call 36; (with_reducible refine (Cc1.out _).mono ?_); rintro e w1 ⟨rfl, hb1⟩; have hr1 := below_reads hb1; have hh1 := below_holds hb1; obtain ⟨m1, hs1⟩ := below_grew hb1)
        go_ret
        refine ⟨ret_int (by simp [checkQ, allowQ, hne.out]), ?_⟩
        repeat (first | with_reducible assumption | with_reducible exact Below.refl _ _ | with_reducible refine Below.drew ?_ | with_reducible refine below_drewN ?_ _ | with_reducible refine bw_alloc ?_ _ | (with_reducible refine bw_set ?_ ?_ _; focus (dsimp only; omega)) | (with_reducible apply bw_behind; with_reducible assumption))

theorem rcheck_any (b0 b1 b2 b3 b4 b5 b6 b7 b8 b9 b10 b11 tagged gen : Bool) (F : BitVec 64) (k : Int) (w : World) : Calls Tryd.prog 13 #[.agg #[.bool b0, .bool b1, .bool b2, .bool b3, .bool b4, .bool b5, .bool b6, .bool b7, .bool b8, .bool b9, .bool b10, .bool b11, .int .u64 (F.toNat : Int)], .int .i64 k, .bool tagged, .bool gen] w (Makes (.int .i64 (checkQ (b0 && (b1 || b2 || b3)) b4 (allowQ k b1 b2 b3) b8 b9 b11 k tagged gen)) w) :=
  rcheck_let b0 b1 b2 b3 b4 b5 b6 b7 b8 b9 b10 b11 _ tagged gen _ k (fun W => rleaf_any b0 b1 b2 b3 b4 b5 b6 b7 b8 b9 b10 b11 F W) w
end Go.Proofs.YtnookalplejneaaDoor
