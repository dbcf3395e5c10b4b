/-
  Texts laid one behind the other: WalkMark, WalkMarked.
-/
import Derived.Test.YtkajndonefkegaaDoorPteRight
import Derived.Test.YtkajndonefkegaaDoorGBase
import Derived.Test.YtkajndonefkegaaDoorPteRef
set_option maxRecDepth 100000
set_option maxHeartbeats 64000000
namespace Go.Proofs.YtkajndonefkegaaDoor
open Go.RowKit Words FieldMath PteMath

def allowQ (k : Int) (b1 b2 b3 : Bool) : Bool := if k = 0 then b3 else if k = 1 ∨ k = 3 then b1 else if k = 2 ∨ k = 4 then b2 else false
def checkQ (L b4 A b8 b9 b11 : Bool) (k : Int) (tagged gen : Bool) : Int := if L = false then 1 else if b4 = false ∨ A = false then 2 else if k = 3 /\ b9 = true /\ b11 ≠ gen then 3 else if k = 4 /\ tagged = true /\ b8 = false then 4 else 0
theorem kinds (k : Int) : k = 0 ∨ k = 1 ∨ k = 2 ∨ k = 3 ∨ k = 4 ∨ ((k == 0) = false /\ (k == 1) = false /\ (k == 2) = false /\ (k == 3) = false /\ (k == 4) = false) := by
  simp only [beq_eq_false_iff_ne]
  omega
theorem other_ne {k : Int} (h0 : (k == 0) = false) (h1 : (k == 1) = false) (h2 : (k == 2) = false) (h3 : (k == 3) = false) (h4 : (k == 4) = false) : k ≠ 0 /\ k ≠ 1 /\ k ≠ 2 /\ k ≠ 3 /\ k ≠ 4 := by
  simp only [beq_eq_false_iff_ne] at *
  omega
theorem infoE : Option.map (fun x => x.size) (Tryd.prog.info? 32) = some 13 := by kernel_rfl
theorem infoR : Option.map (fun x => x.size) (Tryd.prog.info? 66) = some 13 := by kernel_rfl

theorem allows_any (b0 b1 b2 b3 b4 b5 b6 b7 b8 b9 b10 b11 : Bool) (N k : Int) (w : World) : Calls Tryd.prog 84 #[.agg #[.bool b0, .bool b1, .bool b2, .bool b3, .bool b4, .bool b5, .bool b6, .bool b7, .bool b8, .bool b9, .bool b10, .bool b11, .int .u64 N], .int .i64 k] w (Makes (.bool (allowQ k b1 b2 b3)) w) := by
  obtain ⟨SS, LB', LS, LA', LH⟩ := rules5
  rcases kinds k with rfl | rfl | rfl | rfl | rfl | ⟨h0, h1, h2, h3, h4⟩
  all_goals
    go_enter Tryd.func84, Tryd.ntmps84
    go_wp2
    go_ret
    refine ⟨ret_bool (by first | (simp [allowQ]; done) | (have := other_ne h0 h1 h2 h3 h4; simp [allowQ, this])), ?_⟩
    repeat (with_reducible first | assumption | exact Below.refl _ _ | refine Below.drew ?_ | refine below_drewN ?_ _ | refine bw_alloc ?_ _ | (refine bw_set ?_ ?_ _; focus (dsimp only; omega)) | (apply bw_behind; assumption))

theorem check_let (b0 b1 b2 b3 b4 b5 b6 b7 b8 b9 b10 b11 L A tagged gen : Bool) (N k : Int) (c1 : ∀ W, Calls Tryd.prog 75 #[.agg #[.bool b0, .bool b1, .bool b2, .bool b3, .bool b4, .bool b5, .bool b6, .bool b7, .bool b8, .bool b9, .bool b10, .bool b11, .int .u64 N]] W (Makes (.bool L) W)) (c2 : ∀ W, Calls Tryd.prog 84 #[.agg #[.bool b0, .bool b1, .bool b2, .bool b3, .bool b4, .bool b5, .bool b6, .bool b7, .bool b8, .bool b9, .bool b10, .bool b11, .int .u64 N], .int .i64 k] W (Makes (.bool A) W)) (w : World) : Calls Tryd.prog 63 #[.agg #[.bool b0, .bool b1, .bool b2, .bool b3, .bool b4, .bool b5, .bool b6, .bool b7, .bool b8, .bool b9, .bool b10, .bool b11, .int .u64 N], .int .i64 k, .bool tagged, .bool gen] w (Makes (.int .i64 (checkQ L b4 A b8 b9 b11 k tagged gen)) w) := by
  have Cc1 := hide c1
  have Cc2 := hide c2
  clear c1 c2
  obtain ⟨SS, LB', LS, LA', LH⟩ := rules5
  rcases kinds k with rfl | rfl | rfl | rfl | rfl | ⟨h0, h1, h2, h3, h4⟩
  · cases L with
    | false =>
      go_enter Tryd.func63, Tryd.ntmps63
      go_wp2_with (first | (go_at_call 75; (with_reducible refine (Cc1.out _).mono ?_); rintro e w1 ⟨rfl, hb1⟩; obtain ⟨hr1, hh1, m1, hs1⟩ := bl_all hb1) | (go_at_call 84; (with_reducible refine (Cc2.out _).mono ?_); rintro e w2 ⟨rfl, hb2⟩; obtain ⟨hr2, hh2, m2, hs2⟩ := bl_all hb2))
      go_ret
      refine ⟨ret_int (by simp [checkQ]), ?_⟩
      repeat (with_reducible first | assumption | exact Below.refl _ _ | refine Below.drew ?_ | refine below_drewN ?_ _ | refine bw_alloc ?_ _ | (refine bw_set ?_ ?_ _; focus (dsimp only; omega)) | (apply bw_behind; assumption))
    | true =>
      cases b4 with
      | false =>
        go_enter Tryd.func63, Tryd.ntmps63
        go_wp2_with (first | (go_at_call 75; (with_reducible refine (Cc1.out _).mono ?_); rintro e w1 ⟨rfl, hb1⟩; obtain ⟨hr1, hh1, m1, hs1⟩ := bl_all hb1) | (go_at_call 84; (with_reducible refine (Cc2.out _).mono ?_); rintro e w2 ⟨rfl, hb2⟩; obtain ⟨hr2, hh2, m2, hs2⟩ := bl_all hb2))
        go_ret
        refine ⟨ret_int (by simp [checkQ]), ?_⟩
        repeat (with_reducible first | assumption | exact Below.refl _ _ | refine Below.drew ?_ | refine below_drewN ?_ _ | refine bw_alloc ?_ _ | (refine bw_set ?_ ?_ _; focus (dsimp only; omega)) | (apply bw_behind; assumption))
      | true =>
        cases A with
        | false =>
          go_enter Tryd.func63, Tryd.ntmps63
          go_wp2_with (first | (go_at_call 75; (with_reducible refine (Cc1.out _).mono ?_); rintro e w1 ⟨rfl, hb1⟩; obtain ⟨hr1, hh1, m1, hs1⟩ := bl_all hb1) | (go_at_call 84; (with_reducible refine (Cc2.out _).mono ?_); rintro e w2 ⟨rfl, hb2⟩; obtain ⟨hr2, hh2, m2, hs2⟩ := bl_all hb2))
          go_ret
          refine ⟨ret_int (by simp [checkQ]), ?_⟩
          repeat (with_reducible first | assumption | exact Below.refl _ _ | refine Below.drew ?_ | refine below_drewN ?_ _ | refine bw_alloc ?_ _ | (refine bw_set ?_ ?_ _; focus (dsimp only; omega)) | (apply bw_behind; assumption))
        | true =>
          go_enter Tryd.func63, Tryd.ntmps63
          go_wp2_with (first | (go_at_call 75; (with_reducible refine (Cc1.out _).mono ?_); rintro e w1 ⟨rfl, hb1⟩; obtain ⟨hr1, hh1, m1, hs1⟩ := bl_all hb1) | (go_at_call 84; (with_reducible refine (Cc2.out _).mono ?_); rintro e w2 ⟨rfl, hb2⟩; obtain ⟨hr2, hh2, m2, hs2⟩ := bl_all hb2))
          go_ret
          refine ⟨ret_int (by simp [checkQ]), ?_⟩
          repeat (with_reducible first | assumption | exact Below.refl _ _ | refine Below.drew ?_ | refine below_drewN ?_ _ | refine bw_alloc ?_ _ | (refine bw_set ?_ ?_ _; focus (dsimp only; omega)) | (apply bw_behind; assumption))
  · cases L with
    | false =>
      go_enter Tryd.func63, Tryd.ntmps63
      go_wp2_with (first | (go_at_call 75; (with_reducible refine (Cc1.out _).mono ?_); rintro e w1 ⟨rfl, hb1⟩; obtain ⟨hr1, hh1, m1, hs1⟩ := bl_all hb1) | (go_at_call 84; (with_reducible refine (Cc2.out _).mono ?_); rintro e w2 ⟨rfl, hb2⟩; obtain ⟨hr2, hh2, m2, hs2⟩ := bl_all hb2))
      go_ret
      refine ⟨ret_int (by simp [checkQ]), ?_⟩
      repeat (with_reducible first | assumption | exact Below.refl _ _ | refine Below.drew ?_ | refine below_drewN ?_ _ | refine bw_alloc ?_ _ | (refine bw_set ?_ ?_ _; focus (dsimp only; omega)) | (apply bw_behind; assumption))
    | true =>
      cases b4 with
      | false =>
        go_enter Tryd.func63, Tryd.ntmps63
        go_wp2_with (first | (go_at_call 75; (with_reducible refine (Cc1.out _).mono ?_); rintro e w1 ⟨rfl, hb1⟩; obtain ⟨hr1, hh1, m1, hs1⟩ := bl_all hb1) | (go_at_call 84; (with_reducible refine (Cc2.out _).mono ?_); rintro e w2 ⟨rfl, hb2⟩; obtain ⟨hr2, hh2, m2, hs2⟩ := bl_all hb2))
        go_ret
        refine ⟨ret_int (by simp [checkQ]), ?_⟩
        repeat (with_reducible first | assumption | exact Below.refl _ _ | refine Below.drew ?_ | refine below_drewN ?_ _ | refine bw_alloc ?_ _ | (refine bw_set ?_ ?_ _; focus (dsimp only; omega)) | (apply bw_behind; assumption))
      | true =>
        cases A with
        | false =>
          go_enter Tryd.func63, Tryd.ntmps63
          go_wp2_with (first | (go_at_call 75; (with_reducible refine (Cc1.out _).mono ?_); rintro e w1 ⟨rfl, hb1⟩; obtain ⟨hr1, hh1, m1, hs1⟩ := bl_all hb1) | (go_at_call 84; (with_reducible refine (Cc2.out _).mono ?_); rintro e w2 ⟨rfl, hb2⟩; obtain ⟨hr2, hh2, m2, hs2⟩ := bl_all hb2))
          go_ret
          refine ⟨ret_int (by simp [checkQ]), ?_⟩
          repeat (with_reducible first | assumption | exact Below.refl _ _ | refine Below.drew ?_ | refine below_drewN ?_ _ | refine bw_alloc ?_ _ | (refine bw_set ?_ ?_ _; focus (dsimp only; omega)) | (apply bw_behind; assumption))
        | true =>
          go_enter Tryd.func63, Tryd.ntmps63
          go_wp2_with (first | (go_at_call 75; (with_reducible refine (Cc1.out _).mono ?_); rintro e w1 ⟨rfl, hb1⟩; obtain ⟨hr1, hh1, m1, hs1⟩ := bl_all hb1) | (go_at_call 84; (with_reducible refine (Cc2.out _).mono ?_); rintro e w2 ⟨rfl, hb2⟩; obtain ⟨hr2, hh2, m2, hs2⟩ := bl_all hb2))
          go_ret
          refine ⟨ret_int (by simp [checkQ]), ?_⟩
          repeat (with_reducible first | assumption | exact Below.refl _ _ | refine Below.drew ?_ | refine below_drewN ?_ _ | refine bw_alloc ?_ _ | (refine bw_set ?_ ?_ _; focus (dsimp only; omega)) | (apply bw_behind; assumption))
  · cases L with
    | false =>
      go_enter Tryd.func63, Tryd.ntmps63
      go_wp2_with (first | (go_at_call 75; (with_reducible refine (Cc1.out _).mono ?_); rintro e w1 ⟨rfl, hb1⟩; obtain ⟨hr1, hh1, m1, hs1⟩ := bl_all hb1) | (go_at_call 84; (with_reducible refine (Cc2.out _).mono ?_); rintro e w2 ⟨rfl, hb2⟩; obtain ⟨hr2, hh2, m2, hs2⟩ := bl_all hb2))
      go_ret
      refine ⟨ret_int (by simp [checkQ]), ?_⟩
      repeat (with_reducible first | assumption | exact Below.refl _ _ | refine Below.drew ?_ | refine below_drewN ?_ _ | refine bw_alloc ?_ _ | (refine bw_set ?_ ?_ _; focus (dsimp only; omega)) | (apply bw_behind; assumption))
    | true =>
      cases b4 with
      | false =>
        go_enter Tryd.func63, Tryd.ntmps63
        go_wp2_with (first | (go_at_call 75; (with_reducible refine (Cc1.out _).mono ?_); rintro e w1 ⟨rfl, hb1⟩; obtain ⟨hr1, hh1, m1, hs1⟩ := bl_all hb1) | (go_at_call 84; (with_reducible refine (Cc2.out _).mono ?_); rintro e w2 ⟨rfl, hb2⟩; obtain ⟨hr2, hh2, m2, hs2⟩ := bl_all hb2))
        go_ret
        refine ⟨ret_int (by simp [checkQ]), ?_⟩
        repeat (with_reducible first | assumption | exact Below.refl _ _ | refine Below.drew ?_ | refine below_drewN ?_ _ | refine bw_alloc ?_ _ | (refine bw_set ?_ ?_ _; focus (dsimp only; omega)) | (apply bw_behind; assumption))
      | true =>
        cases A with
        | false =>
          go_enter Tryd.func63, Tryd.ntmps63
          go_wp2_with (first | (go_at_call 75; (with_reducible refine (Cc1.out _).mono ?_); rintro e w1 ⟨rfl, hb1⟩; obtain ⟨hr1, hh1, m1, hs1⟩ := bl_all hb1) | (go_at_call 84; (with_reducible refine (Cc2.out _).mono ?_); rintro e w2 ⟨rfl, hb2⟩; obtain ⟨hr2, hh2, m2, hs2⟩ := bl_all hb2))
          go_ret
          refine ⟨ret_int (by simp [checkQ]), ?_⟩
          repeat (with_reducible first | assumption | exact Below.refl _ _ | refine Below.drew ?_ | refine below_drewN ?_ _ | refine bw_alloc ?_ _ | (refine bw_set ?_ ?_ _; focus (dsimp only; omega)) | (apply bw_behind; assumption))
        | true =>
          go_enter Tryd.func63, Tryd.ntmps63
          go_wp2_with (first | (go_at_call 75; (with_reducible refine (Cc1.out _).mono ?_); rintro e w1 ⟨rfl, hb1⟩; obtain ⟨hr1, hh1, m1, hs1⟩ := bl_all hb1) | (go_at_call 84; (with_reducible refine (Cc2.out _).mono ?_); rintro e w2 ⟨rfl, hb2⟩; obtain ⟨hr2, hh2, m2, hs2⟩ := bl_all hb2))
          go_ret
          refine ⟨ret_int (by simp [checkQ]), ?_⟩
          repeat (with_reducible first | assumption | exact Below.refl _ _ | refine Below.drew ?_ | refine below_drewN ?_ _ | refine bw_alloc ?_ _ | (refine bw_set ?_ ?_ _; focus (dsimp only; omega)) | (apply bw_behind; assumption))
  · cases L with
    | false =>
      go_enter Tryd.func63, Tryd.ntmps63
      go_wp2_with (first | (go_at_call 75; (with_reducible refine (Cc1.out _).mono ?_); rintro e w1 ⟨rfl, hb1⟩; obtain ⟨hr1, hh1, m1, hs1⟩ := bl_all hb1) | (go_at_call 84; (with_reducible refine (Cc2.out _).mono ?_); rintro e w2 ⟨rfl, hb2⟩; obtain ⟨hr2, hh2, m2, hs2⟩ := bl_all hb2))
      go_ret
      refine ⟨ret_int (by simp [checkQ]), ?_⟩
      repeat (with_reducible first | assumption | exact Below.refl _ _ | refine Below.drew ?_ | refine below_drewN ?_ _ | refine bw_alloc ?_ _ | (refine bw_set ?_ ?_ _; focus (dsimp only; omega)) | (apply bw_behind; assumption))
    | true =>
      cases b4 with
      | false =>
        go_enter Tryd.func63, Tryd.ntmps63
        go_wp2_with (first | (go_at_call 75; (with_reducible refine (Cc1.out _).mono ?_); rintro e w1 ⟨rfl, hb1⟩; obtain ⟨hr1, hh1, m1, hs1⟩ := bl_all hb1) | (go_at_call 84; (with_reducible refine (Cc2.out _).mono ?_); rintro e w2 ⟨rfl, hb2⟩; obtain ⟨hr2, hh2, m2, hs2⟩ := bl_all hb2))
        go_ret
        refine ⟨ret_int (by simp [checkQ]), ?_⟩
        repeat (with_reducible first | assumption | exact Below.refl _ _ | refine Below.drew ?_ | refine below_drewN ?_ _ | refine bw_alloc ?_ _ | (refine bw_set ?_ ?_ _; focus (dsimp only; omega)) | (apply bw_behind; assumption))
      | true =>
        cases A with
        | false =>
          go_enter Tryd.func63, Tryd.ntmps63
          go_wp2_with (first | (go_at_call 75; (with_reducible refine (Cc1.out _).mono ?_); rintro e w1 ⟨rfl, hb1⟩; obtain ⟨hr1, hh1, m1, hs1⟩ := bl_all hb1) | (go_at_call 84; (with_reducible refine (Cc2.out _).mono ?_); rintro e w2 ⟨rfl, hb2⟩; obtain ⟨hr2, hh2, m2, hs2⟩ := bl_all hb2))
          go_ret
          refine ⟨ret_int (by simp [checkQ]), ?_⟩
          repeat (with_reducible first | assumption | exact Below.refl _ _ | refine Below.drew ?_ | refine below_drewN ?_ _ | refine bw_alloc ?_ _ | (refine bw_set ?_ ?_ _; focus (dsimp only; omega)) | (apply bw_behind; assumption))
        | true =>
          cases b9 with
          | false =>
            go_enter Tryd.func63, Tryd.ntmps63
            go_wp2_with (first | (go_at_call 75; (with_reducible refine (Cc1.out _).mono ?_); rintro e w1 ⟨rfl, hb1⟩; obtain ⟨hr1, hh1, m1, hs1⟩ := bl_all hb1) | (go_at_call 84; (with_reducible refine (Cc2.out _).mono ?_); rintro e w2 ⟨rfl, hb2⟩; obtain ⟨hr2, hh2, m2, hs2⟩ := bl_all hb2))
            go_ret
            refine ⟨ret_int (by simp [checkQ]), ?_⟩
            repeat (with_reducible first | assumption | exact Below.refl _ _ | refine Below.drew ?_ | refine below_drewN ?_ _ | refine bw_alloc ?_ _ | (refine bw_set ?_ ?_ _; focus (dsimp only; omega)) | (apply bw_behind; assumption))
          | true =>
            cases b11 with
            | false =>
              cases gen with
              | false =>
                go_enter Tryd.func63, Tryd.ntmps63
                go_wp2_with (first | (go_at_call 75; (with_reducible refine (Cc1.out _).mono ?_); rintro e w1 ⟨rfl, hb1⟩; obtain ⟨hr1, hh1, m1, hs1⟩ := bl_all hb1) | (go_at_call 84; (with_reducible refine (Cc2.out _).mono ?_); rintro e w2 ⟨rfl, hb2⟩; obtain ⟨hr2, hh2, m2, hs2⟩ := bl_all hb2))
                go_ret
                refine ⟨ret_int (by simp [checkQ]), ?_⟩
                repeat (with_reducible first | assumption | exact Below.refl _ _ | refine Below.drew ?_ | refine below_drewN ?_ _ | refine bw_alloc ?_ _ | (refine bw_set ?_ ?_ _; focus (dsimp only; omega)) | (apply bw_behind; assumption))
              | true =>
                go_enter Tryd.func63, Tryd.ntmps63
                go_wp2_with (first | (go_at_call 75; (with_reducible refine (Cc1.out _).mono ?_); rintro e w1 ⟨rfl, hb1⟩; obtain ⟨hr1, hh1, m1, hs1⟩ := bl_all hb1) | (go_at_call 84; (with_reducible refine (Cc2.out _).mono ?_); rintro e w2 ⟨rfl, hb2⟩; obtain ⟨hr2, hh2, m2, hs2⟩ := bl_all hb2))
                go_ret
                refine ⟨ret_int (by simp [checkQ]), ?_⟩
                repeat (with_reducible first | assumption | exact Below.refl _ _ | refine Below.drew ?_ | refine below_drewN ?_ _ | refine bw_alloc ?_ _ | (refine bw_set ?_ ?_ _; focus (dsimp only; omega)) | (apply bw_behind; assumption))
            | true =>
              cases gen with
              | false =>
                go_enter Tryd.func63, Tryd.ntmps63
                go_wp2_with (first | (go_at_call 75; (with_reducible refine (Cc1.out _).mono ?_); rintro e w1 ⟨rfl, hb1⟩; obtain ⟨hr1, hh1, m1, hs1⟩ := bl_all hb1) | (go_at_call 84; (with_reducible refine (Cc2.out _).mono ?_); rintro e w2 ⟨rfl, hb2⟩; obtain ⟨hr2, hh2, m2, hs2⟩ := bl_all hb2))
                go_ret
                refine ⟨ret_int (by simp [checkQ]), ?_⟩
                repeat (with_reducible first | assumption | exact Below.refl _ _ | refine Below.drew ?_ | refine below_drewN ?_ _ | refine bw_alloc ?_ _ | (refine bw_set ?_ ?_ _; focus (dsimp only; omega)) | (apply bw_behind; assumption))
              | true =>
                go_enter Tryd.func63, Tryd.ntmps63
                go_wp2_with (first | (go_at_call 75; (with_reducible refine (Cc1.out _).mono ?_); rintro e w1 ⟨rfl, hb1⟩; obtain ⟨hr1, hh1, m1, hs1⟩ := bl_all hb1) | (go_at_call 84; (with_reducible refine (Cc2.out _).mono ?_); rintro e w2 ⟨rfl, hb2⟩; obtain ⟨hr2, hh2, m2, hs2⟩ := bl_all hb2))
                go_ret
                refine ⟨ret_int (by simp [checkQ]), ?_⟩
                repeat (with_reducible first | assumption | exact Below.refl _ _ | refine Below.drew ?_ | refine below_drewN ?_ _ | refine bw_alloc ?_ _ | (refine bw_set ?_ ?_ _; focus (dsimp only; omega)) | (apply bw_behind; assumption))
  · cases L with
    | false =>
      go_enter Tryd.func63, Tryd.ntmps63
      go_wp2_with (first | (go_at_call 75; (with_reducible refine (Cc1.out _).mono ?_); rintro e w1 ⟨rfl, hb1⟩; obtain ⟨hr1, hh1, m1, hs1⟩ := bl_all hb1) | (go_at_call 84; (with_reducible refine (Cc2.out _).mono ?_); rintro e w2 ⟨rfl, hb2⟩; obtain ⟨hr2, hh2, m2, hs2⟩ := bl_all hb2))
      go_ret
      refine ⟨ret_int (by simp [checkQ]), ?_⟩
      repeat (with_reducible first | assumption | exact Below.refl _ _ | refine Below.drew ?_ | refine below_drewN ?_ _ | refine bw_alloc ?_ _ | (refine bw_set ?_ ?_ _; focus (dsimp only; omega)) | (apply bw_behind; assumption))
    | true =>
      cases b4 with
      | false =>
        go_enter Tryd.func63, Tryd.ntmps63
        go_wp2_with (first | (go_at_call 75; (with_reducible refine (Cc1.out _).mono ?_); rintro e w1 ⟨rfl, hb1⟩; obtain ⟨hr1, hh1, m1, hs1⟩ := bl_all hb1) | (go_at_call 84; (with_reducible refine (Cc2.out _).mono ?_); rintro e w2 ⟨rfl, hb2⟩; obtain ⟨hr2, hh2, m2, hs2⟩ := bl_all hb2))
        go_ret
        refine ⟨ret_int (by simp [checkQ]), ?_⟩
        repeat (with_reducible first | assumption | exact Below.refl _ _ | refine Below.drew ?_ | refine below_drewN ?_ _ | refine bw_alloc ?_ _ | (refine bw_set ?_ ?_ _; focus (dsimp only; omega)) | (apply bw_behind; assumption))
      | true =>
        cases A with
        | false =>
          go_enter Tryd.func63, Tryd.ntmps63
          go_wp2_with (first | (go_at_call 75; (with_reducible refine (Cc1.out _).mono ?_); rintro e w1 ⟨rfl, hb1⟩; obtain ⟨hr1, hh1, m1, hs1⟩ := bl_all hb1) | (go_at_call 84; (with_reducible refine (Cc2.out _).mono ?_); rintro e w2 ⟨rfl, hb2⟩; obtain ⟨hr2, hh2, m2, hs2⟩ := bl_all hb2))
          go_ret
          refine ⟨ret_int (by simp [checkQ]), ?_⟩
          repeat (with_reducible first | assumption | exact Below.refl _ _ | refine Below.drew ?_ | refine below_drewN ?_ _ | refine bw_alloc ?_ _ | (refine bw_set ?_ ?_ _; focus (dsimp only; omega)) | (apply bw_behind; assumption))
        | true =>
          cases tagged with
          | false =>
            go_enter Tryd.func63, Tryd.ntmps63
            go_wp2_with (first | (go_at_call 75; (with_reducible refine (Cc1.out _).mono ?_); rintro e w1 ⟨rfl, hb1⟩; obtain ⟨hr1, hh1, m1, hs1⟩ := bl_all hb1) | (go_at_call 84; (with_reducible refine (Cc2.out _).mono ?_); rintro e w2 ⟨rfl, hb2⟩; obtain ⟨hr2, hh2, m2, hs2⟩ := bl_all hb2))
            go_ret
            refine ⟨ret_int (by simp [checkQ]), ?_⟩
            repeat (with_reducible first | assumption | exact Below.refl _ _ | refine Below.drew ?_ | refine below_drewN ?_ _ | refine bw_alloc ?_ _ | (refine bw_set ?_ ?_ _; focus (dsimp only; omega)) | (apply bw_behind; assumption))
          | true =>
            cases b8 with
            | false =>
              go_enter Tryd.func63, Tryd.ntmps63
              go_wp2_with (first | (go_at_call 75; (with_reducible refine (Cc1.out _).mono ?_); rintro e w1 ⟨rfl, hb1⟩; obtain ⟨hr1, hh1, m1, hs1⟩ := bl_all hb1) | (go_at_call 84; (with_reducible refine (Cc2.out _).mono ?_); rintro e w2 ⟨rfl, hb2⟩; obtain ⟨hr2, hh2, m2, hs2⟩ := bl_all hb2))
              go_ret
              refine ⟨ret_int (by simp [checkQ]), ?_⟩
              repeat (with_reducible first | assumption | exact Below.refl _ _ | refine Below.drew ?_ | refine below_drewN ?_ _ | refine bw_alloc ?_ _ | (refine bw_set ?_ ?_ _; focus (dsimp only; omega)) | (apply bw_behind; assumption))
            | true =>
              go_enter Tryd.func63, Tryd.ntmps63
              go_wp2_with (first | (go_at_call 75; (with_reducible refine (Cc1.out _).mono ?_); rintro e w1 ⟨rfl, hb1⟩; obtain ⟨hr1, hh1, m1, hs1⟩ := bl_all hb1) | (go_at_call 84; (with_reducible refine (Cc2.out _).mono ?_); rintro e w2 ⟨rfl, hb2⟩; obtain ⟨hr2, hh2, m2, hs2⟩ := bl_all hb2))
              go_ret
              refine ⟨ret_int (by simp [checkQ]), ?_⟩
              repeat (with_reducible first | assumption | exact Below.refl _ _ | refine Below.drew ?_ | refine below_drewN ?_ _ | refine bw_alloc ?_ _ | (refine bw_set ?_ ?_ _; focus (dsimp only; omega)) | (apply bw_behind; assumption))
  · have hne := hide (other_ne h0 h1 h2 h3 h4)
    cases L with
    | false =>
      go_enter Tryd.func63, Tryd.ntmps63
      go_wp2_with (first | (go_at_call 75; (with_reducible refine (Cc1.out _).mono ?_); rintro e w1 ⟨rfl, hb1⟩; obtain ⟨hr1, hh1, m1, hs1⟩ := bl_all hb1) | (go_at_call 84; (with_reducible refine (Cc2.out _).mono ?_); rintro e w2 ⟨rfl, hb2⟩; obtain ⟨hr2, hh2, m2, hs2⟩ := bl_all hb2))
      go_ret
      refine ⟨ret_int (by simp [checkQ]), ?_⟩
      repeat (with_reducible first | assumption | exact Below.refl _ _ | refine Below.drew ?_ | refine below_drewN ?_ _ | refine bw_alloc ?_ _ | (refine bw_set ?_ ?_ _; focus (dsimp only; omega)) | (apply bw_behind; assumption))
    | true =>
      cases b4 with
      | false =>
        go_enter Tryd.func63, Tryd.ntmps63
        go_wp2_with (first | (go_at_call 75; (with_reducible refine (Cc1.out _).mono ?_); rintro e w1 ⟨rfl, hb1⟩; obtain ⟨hr1, hh1, m1, hs1⟩ := bl_all hb1) | (go_at_call 84; (with_reducible refine (Cc2.out _).mono ?_); rintro e w2 ⟨rfl, hb2⟩; obtain ⟨hr2, hh2, m2, hs2⟩ := bl_all hb2))
        go_ret
        refine ⟨ret_int (by simp [checkQ]), ?_⟩
        repeat (with_reducible first | assumption | exact Below.refl _ _ | refine Below.drew ?_ | refine below_drewN ?_ _ | refine bw_alloc ?_ _ | (refine bw_set ?_ ?_ _; focus (dsimp only; omega)) | (apply bw_behind; assumption))
      | true =>
        cases A with
        | false =>
          go_enter Tryd.func63, Tryd.ntmps63
          go_wp2_with (first | (go_at_call 75; (with_reducible refine (Cc1.out _).mono ?_); rintro e w1 ⟨rfl, hb1⟩; obtain ⟨hr1, hh1, m1, hs1⟩ := bl_all hb1) | (go_at_call 84; (with_reducible refine (Cc2.out _).mono ?_); rintro e w2 ⟨rfl, hb2⟩; obtain ⟨hr2, hh2, m2, hs2⟩ := bl_all hb2))
          go_ret
          refine ⟨ret_int (by simp [checkQ]), ?_⟩
          repeat (with_reducible first | assumption | exact Below.refl _ _ | refine Below.drew ?_ | refine below_drewN ?_ _ | refine bw_alloc ?_ _ | (refine bw_set ?_ ?_ _; focus (dsimp only; omega)) | (apply bw_behind; assumption))
        | true =>
          go_enter Tryd.func63, Tryd.ntmps63
          go_wp2_with (first | (go_at_call 75; (with_reducible refine (Cc1.out _).mono ?_); rintro e w1 ⟨rfl, hb1⟩; obtain ⟨hr1, hh1, m1, hs1⟩ := bl_all hb1) | (go_at_call 84; (with_reducible refine (Cc2.out _).mono ?_); rintro e w2 ⟨rfl, hb2⟩; obtain ⟨hr2, hh2, m2, hs2⟩ := bl_all hb2))
          go_ret
          refine ⟨ret_int (by simp [checkQ, hne.out.2.2.2.1, hne.out.2.2.2.2]), ?_⟩
          repeat (with_reducible first | assumption | exact Below.refl _ _ | refine Below.drew ?_ | refine below_drewN ?_ _ | refine bw_alloc ?_ _ | (refine bw_set ?_ ?_ _; focus (dsimp only; omega)) | (apply bw_behind; assumption))

theorem check_any (b0 b1 b2 b3 b4 b5 b6 b7 b8 b9 b10 b11 tagged gen : Bool) (F : BitVec 64) (k : Int) (w : World) : Calls Tryd.prog 63 #[.agg #[.bool b0, .bool b1, .bool b2, .bool b3, .bool b4, .bool b5, .bool b6, .bool b7, .bool b8, .bool b9, .bool b10, .bool b11, .int .u64 (F.toNat : Int)], .int .i64 k, .bool tagged, .bool gen] w (Makes (.int .i64 (checkQ (b0 && (b1 || b2 || b3)) b4 (allowQ k b1 b2 b3) b8 b9 b11 k tagged gen)) w) :=
  check_let b0 b1 b2 b3 b4 b5 b6 b7 b8 b9 b10 b11 _ _ tagged gen _ k (fun W => leaf_any b0 b1 b2 b3 b4 b5 b6 b7 b8 b9 b10 b11 F W) (fun W => allows_any b0 b1 b2 b3 b4 b5 b6 b7 b8 b9 b10 b11 _ k W) w

theorem strip_any (b0 b1 b2 b3 b4 b5 b6 b7 b8 b9 b10 b11 : Bool) (N k : Int) (w : World) : Calls Tryd.prog 66 #[.agg #[.bool b0, .bool b1, .bool b2, .bool b3, .bool b4, .bool b5, .bool b6, .bool b7, .bool b8, .bool b9, .bool b10, .bool b11, .int .u64 N], .int .i64 k] w (Makes (.bool ((k == 3) && !b9)) w) := by
  obtain ⟨SS, LB', LS, LA', LH⟩ := rules5
  cases hk : (k == 3)
  all_goals
    go_enter Tryd.func66, Tryd.ntmps66
    go_wp2
    go_ret
    refine ⟨ret_bool (by simp), ?_⟩
    repeat (with_reducible first | assumption | exact Below.refl _ _ | refine Below.drew ?_ | refine below_drewN ?_ _ | refine bw_alloc ?_ _ | (refine bw_set ?_ ?_ _; focus (dsimp only; omega)) | (apply bw_behind; assumption))
end Go.Proofs.YtkajndonefkegaaDoor

namespace Go.Proofs.YtkajndonefkegaaDoor
open Go.RowKit Words FieldMath PteMath

def markD (b7 : Bool) (k : Int) : Bool := b7 || k == 2 || k == 4
def markC (b10 : Bool) (k : Int) (tagged : Bool) : Bool := b10 || (k == 4 && tagged)

theorem marked_let (b0 b1 b2 b3 b4 b5 b6 b7 b8 b9 b10 b11 tagged D X : Bool) (N k : Int) (hD : D = markD b7 k) (hX : X = markC b10 k tagged) (w : World) : Calls Tryd.prog 34 #[.agg #[.bool b0, .bool b1, .bool b2, .bool b3, .bool b4, .bool b5, .bool b6, .bool b7, .bool b8, .bool b9, .bool b10, .bool b11, .int .u64 N], .int .i64 k, .bool tagged] w (Makes (.agg #[.bool b0, .bool b1, .bool b2, .bool b3, .bool b4, .bool b5, .bool true, .bool D, .bool b8, .bool b9, .bool X, .bool b11, .int .u64 N]) w) := by
  obtain ⟨SS, LB', LS, LA', LH⟩ := rules5
  have HD := hide hD
  have HX := hide hX
  clear hD hX
  rcases kinds k with rfl | rfl | rfl | rfl | rfl | ⟨h0, h1, h2, h3, h4⟩
  all_goals
    cases b10
  all_goals
    go_enter Tryd.func34, Tryd.ntmps34
    go_wp2
    have hD := HD.out
    have hX := HX.out
    clear HD HX
    simp only [markD, markC] at hD hX
    first | simp [h2, h4] at hD hX | simp at hD hX
    refine bodyPost_ret (v := .agg #[.bool b0, .bool b1, .bool b2, .bool b3, .bool b4, .bool b5, .bool true, .bool D, .bool b8, .bool b9, .bool X, .bool b11, .int .u64 N]) (by simp (maxDischargeDepth := 4) [results, Tryd.results34, go_sem, *]) rfl ?_
    refine ⟨rfl, ?_⟩
    repeat (with_reducible first | assumption | exact Below.refl _ _ | refine Below.drew ?_ | refine below_drewN ?_ _ | refine bw_alloc ?_ _ | (refine bw_set ?_ ?_ _; focus (dsimp only; omega)) | (apply bw_behind; assumption))
theorem marked_any (b0 b1 b2 b3 b4 b5 b6 b7 b8 b9 b10 b11 tagged : Bool) (N k : Int) (w : World) : Calls Tryd.prog 34 #[.agg #[.bool b0, .bool b1, .bool b2, .bool b3, .bool b4, .bool b5, .bool b6, .bool b7, .bool b8, .bool b9, .bool b10, .bool b11, .int .u64 N], .int .i64 k, .bool tagged] w (Makes (.agg #[.bool b0, .bool b1, .bool b2, .bool b3, .bool b4, .bool b5, .bool true, .bool (markD b7 k), .bool b8, .bool b9, .bool (markC b10 k tagged), .bool b11, .int .u64 N]) w) := marked_let b0 b1 b2 b3 b4 b5 b6 b7 b8 b9 b10 b11 tagged _ _ N k rfl rfl w

theorem rmarked_let (b0 b1 b2 b3 b4 b5 b6 b7 b8 b9 b10 b11 tagged D X : Bool) (N k : Int) (hD : D = markD b7 k) (hX : X = markC b10 k tagged) (w : World) : Calls Tryd.prog 37 #[.agg #[.bool b0, .bool b1, .bool b2, .bool b3, .bool b4, .bool b5, .bool b6, .bool b7, .bool b8, .bool b9, .bool b10, .bool b11, .int .u64 N], .int .i64 k, .bool tagged] w (Makes (.agg #[.bool b0, .bool b1, .bool b2, .bool b3, .bool b4, .bool b5, .bool true, .bool D, .bool b8, .bool b9, .bool X, .bool b11, .int .u64 N]) w) := by
  obtain ⟨SS, LB', LS, LA', LH⟩ := rules5
  have HD := hide hD
  have HX := hide hX
  clear hD hX
  rcases kinds k with rfl | rfl | rfl | rfl | rfl | ⟨h0, h1, h2, h3, h4⟩
  all_goals
    cases b7 <;> cases b10
  all_goals
    go_enter Tryd.func37, Tryd.ntmps37
    go_wp2
    have hD := HD.out
    have hX := HX.out
    clear HD HX
    simp only [markD, markC] at hD hX
    first | simp [h2, h4] at hD hX | simp at hD hX
    refine bodyPost_ret (v := .agg #[.bool b0, .bool b1, .bool b2, .bool b3, .bool b4, .bool b5, .bool true, .bool D, .bool b8, .bool b9, .bool X, .bool b11, .int .u64 N]) (by simp (maxDischargeDepth := 4) [results, Tryd.results37, go_sem, *]) rfl ?_
    refine ⟨rfl, ?_⟩
    repeat (with_reducible first | assumption | exact Below.refl _ _ | refine Below.drew ?_ | refine below_drewN ?_ _ | refine bw_alloc ?_ _ | (refine bw_set ?_ ?_ _; focus (dsimp only; omega)) | (apply bw_behind; assumption))
theorem rmarked_any (b0 b1 b2 b3 b4 b5 b6 b7 b8 b9 b10 b11 tagged : Bool) (N k : Int) (w : World) : Calls Tryd.prog 37 #[.agg #[.bool b0, .bool b1, .bool b2, .bool b3, .bool b4, .bool b5, .bool b6, .bool b7, .bool b8, .bool b9, .bool b10, .bool b11, .int .u64 N], .int .i64 k, .bool tagged] w (Makes (.agg #[.bool b0, .bool b1, .bool b2, .bool b3, .bool b4, .bool b5, .bool true, .bool (markD b7 k), .bool b8, .bool b9, .bool (markC b10 k tagged), .bool b11, .int .u64 N]) w) := rmarked_let b0 b1 b2 b3 b4 b5 b6 b7 b8 b9 b10 b11 tagged _ _ N k rfl rfl w
end Go.Proofs.YtkajndonefkegaaDoor
