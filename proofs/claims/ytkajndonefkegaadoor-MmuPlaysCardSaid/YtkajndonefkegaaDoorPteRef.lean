/-
  What the document's bit, has and Right answer.
-/
import Derived.Test.YtkajndonefkegaaDoorGPte
set_option maxRecDepth 100000
set_option maxHeartbeats 64000000
namespace Go.Proofs.YtkajndonefkegaaDoor
open Go.RowKit Words FieldMath PteMath

def rightQ (b0 b1 b2 b3 b4 _b5 b6 b7 b8 b9 b10 b11 : Bool) (N : Int) : Bool :=
  !b0 || (!(b2 && !b1 || b8 && !b2 || b9 && !b1 || decide (17592186044416 ≤ N)) && ((b0 && (b1 || b2 || b3)) || (!b4 && !b6 && !b7 && !b8 && !b9 && !b10 && !b11)))

theorem rright_let (b0 b1 b2 b3 b4 b5 b6 b7 b8 b9 b10 b11 : Bool) (N : Int) (c1 : ∀ W, Calls Tryd.prog 67 #[.agg #[.bool b0, .bool b1, .bool b2, .bool b3, .bool b4, .bool b5, .bool b6, .bool b7, .bool b8, .bool b9, .bool b10, .bool b11, .int .u64 N]] W (Makes (.bool (b0 && (b1 || b2 || b3))) W)) (w : World) : Calls Tryd.prog 70 #[.agg #[.bool b0, .bool b1, .bool b2, .bool b3, .bool b4, .bool b5, .bool b6, .bool b7, .bool b8, .bool b9, .bool b10, .bool b11, .int .u64 N]] w (Makes (.bool (rightQ b0 b1 b2 b3 b4 b5 b6 b7 b8 b9 b10 b11 N)) w) := by
  obtain ⟨SS, LB', LS, LA', LH⟩ := rules5
  have C1 := hide c1
  clear c1
  cases b0 with
  | false =>
    go_enter Tryd.func70, Tryd.ntmps70
    go_wp2_with (first | (go_at_call 67; (with_reducible refine (C1.out _).mono ?_); rintro e w1 ⟨rfl, hb1⟩; obtain ⟨hr1, hh1, m1, hs1⟩ := bl_all hb1))
    go_ret
    refine ⟨ret_bool (by simp [rightQ]), ?_⟩
    repeat (with_reducible first | assumption | exact Below.refl _ _ | refine Below.drew ?_ | refine below_drewN ?_ _ | refine bw_alloc ?_ _ | (refine bw_set ?_ ?_ _; focus (dsimp only; omega)) | (apply bw_behind; assumption))
  | true =>
    cases b2 with
    | false =>
      cases b8 with
      | false =>
        cases b9 with
        | false =>
          cases b1 with
          | false =>
            rcases (show N < 17592186044416 ∨ 17592186044416 ≤ N by omega) with hg | hg
            · cases b3 with
              | false =>
                cases b4 with
                | false =>
                  cases b6 with
                  | false =>
                    cases b7 with
                    | false =>
                      cases b10 with
                      | false =>
                        go_enter Tryd.func70, Tryd.ntmps70
                        go_wp2_with (first | (go_at_call 67; (with_reducible refine (C1.out _).mono ?_); rintro e w1 ⟨rfl, hb1⟩; obtain ⟨hr1, hh1, m1, hs1⟩ := bl_all hb1))
                        go_ret
                        refine ⟨ret_bool (by simp [rightQ]; try omega), ?_⟩
                        repeat (with_reducible first | assumption | exact Below.refl _ _ | refine Below.drew ?_ | refine below_drewN ?_ _ | refine bw_alloc ?_ _ | (refine bw_set ?_ ?_ _; focus (dsimp only; omega)) | (apply bw_behind; assumption))
                      | true =>
                        go_enter Tryd.func70, Tryd.ntmps70
                        go_wp2_with (first | (go_at_call 67; (with_reducible refine (C1.out _).mono ?_); rintro e w1 ⟨rfl, hb1⟩; obtain ⟨hr1, hh1, m1, hs1⟩ := bl_all hb1))
                        go_ret
                        refine ⟨ret_bool (by simp [rightQ]; try omega), ?_⟩
                        repeat (with_reducible first | assumption | exact Below.refl _ _ | refine Below.drew ?_ | refine below_drewN ?_ _ | refine bw_alloc ?_ _ | (refine bw_set ?_ ?_ _; focus (dsimp only; omega)) | (apply bw_behind; assumption))
                    | true =>
                      go_enter Tryd.func70, Tryd.ntmps70
                      go_wp2_with (first | (go_at_call 67; (with_reducible refine (C1.out _).mono ?_); rintro e w1 ⟨rfl, hb1⟩; obtain ⟨hr1, hh1, m1, hs1⟩ := bl_all hb1))
                      go_ret
                      refine ⟨ret_bool (by simp [rightQ]; try omega), ?_⟩
                      repeat (with_reducible first | assumption | exact Below.refl _ _ | refine Below.drew ?_ | refine below_drewN ?_ _ | refine bw_alloc ?_ _ | (refine bw_set ?_ ?_ _; focus (dsimp only; omega)) | (apply bw_behind; assumption))
                  | true =>
                    go_enter Tryd.func70, Tryd.ntmps70
                    go_wp2_with (first | (go_at_call 67; (with_reducible refine (C1.out _).mono ?_); rintro e w1 ⟨rfl, hb1⟩; obtain ⟨hr1, hh1, m1, hs1⟩ := bl_all hb1))
                    go_ret
                    refine ⟨ret_bool (by simp [rightQ]; try omega), ?_⟩
                    repeat (with_reducible first | assumption | exact Below.refl _ _ | refine Below.drew ?_ | refine below_drewN ?_ _ | refine bw_alloc ?_ _ | (refine bw_set ?_ ?_ _; focus (dsimp only; omega)) | (apply bw_behind; assumption))
                | true =>
                  go_enter Tryd.func70, Tryd.ntmps70
                  go_wp2_with (first | (go_at_call 67; (with_reducible refine (C1.out _).mono ?_); rintro e w1 ⟨rfl, hb1⟩; obtain ⟨hr1, hh1, m1, hs1⟩ := bl_all hb1))
                  go_ret
                  refine ⟨ret_bool (by simp [rightQ]; try omega), ?_⟩
                  repeat (with_reducible first | assumption | exact Below.refl _ _ | refine Below.drew ?_ | refine below_drewN ?_ _ | refine bw_alloc ?_ _ | (refine bw_set ?_ ?_ _; focus (dsimp only; omega)) | (apply bw_behind; assumption))
              | true =>
                go_enter Tryd.func70, Tryd.ntmps70
                go_wp2_with (first | (go_at_call 67; (with_reducible refine (C1.out _).mono ?_); rintro e w1 ⟨rfl, hb1⟩; obtain ⟨hr1, hh1, m1, hs1⟩ := bl_all hb1))
                go_ret
                refine ⟨ret_bool (by simp [rightQ]; try omega), ?_⟩
                repeat (with_reducible first | assumption | exact Below.refl _ _ | refine Below.drew ?_ | refine below_drewN ?_ _ | refine bw_alloc ?_ _ | (refine bw_set ?_ ?_ _; focus (dsimp only; omega)) | (apply bw_behind; assumption))
            · go_enter Tryd.func70, Tryd.ntmps70
              go_wp2_with (first | (go_at_call 67; (with_reducible refine (C1.out _).mono ?_); rintro e w1 ⟨rfl, hb1⟩; obtain ⟨hr1, hh1, m1, hs1⟩ := bl_all hb1))
              go_ret
              refine ⟨ret_bool (by simp [rightQ, hg]), ?_⟩
              repeat (with_reducible first | assumption | exact Below.refl _ _ | refine Below.drew ?_ | refine below_drewN ?_ _ | refine bw_alloc ?_ _ | (refine bw_set ?_ ?_ _; focus (dsimp only; omega)) | (apply bw_behind; assumption))
          | true =>
            rcases (show N < 17592186044416 ∨ 17592186044416 ≤ N by omega) with hg | hg
            · go_enter Tryd.func70, Tryd.ntmps70
              go_wp2_with (first | (go_at_call 67; (with_reducible refine (C1.out _).mono ?_); rintro e w1 ⟨rfl, hb1⟩; obtain ⟨hr1, hh1, m1, hs1⟩ := bl_all hb1))
              go_ret
              refine ⟨ret_bool (by simp [rightQ]; try omega), ?_⟩
              repeat (with_reducible first | assumption | exact Below.refl _ _ | refine Below.drew ?_ | refine below_drewN ?_ _ | refine bw_alloc ?_ _ | (refine bw_set ?_ ?_ _; focus (dsimp only; omega)) | (apply bw_behind; assumption))
            · go_enter Tryd.func70, Tryd.ntmps70
              go_wp2_with (first | (go_at_call 67; (with_reducible refine (C1.out _).mono ?_); rintro e w1 ⟨rfl, hb1⟩; obtain ⟨hr1, hh1, m1, hs1⟩ := bl_all hb1))
              go_ret
              refine ⟨ret_bool (by simp [rightQ, hg]), ?_⟩
              repeat (with_reducible first | assumption | exact Below.refl _ _ | refine Below.drew ?_ | refine below_drewN ?_ _ | refine bw_alloc ?_ _ | (refine bw_set ?_ ?_ _; focus (dsimp only; omega)) | (apply bw_behind; assumption))
        | true =>
          cases b1 with
          | false =>
            rcases (show N < 17592186044416 ∨ 17592186044416 ≤ N by omega) with hg | hg
            · go_enter Tryd.func70, Tryd.ntmps70
              go_wp2_with (first | (go_at_call 67; (with_reducible refine (C1.out _).mono ?_); rintro e w1 ⟨rfl, hb1⟩; obtain ⟨hr1, hh1, m1, hs1⟩ := bl_all hb1))
              go_ret
              refine ⟨ret_bool (by simp [rightQ]; try omega), ?_⟩
              repeat (with_reducible first | assumption | exact Below.refl _ _ | refine Below.drew ?_ | refine below_drewN ?_ _ | refine bw_alloc ?_ _ | (refine bw_set ?_ ?_ _; focus (dsimp only; omega)) | (apply bw_behind; assumption))
            · go_enter Tryd.func70, Tryd.ntmps70
              go_wp2_with (first | (go_at_call 67; (with_reducible refine (C1.out _).mono ?_); rintro e w1 ⟨rfl, hb1⟩; obtain ⟨hr1, hh1, m1, hs1⟩ := bl_all hb1))
              go_ret
              refine ⟨ret_bool (by simp [rightQ, hg]), ?_⟩
              repeat (with_reducible first | assumption | exact Below.refl _ _ | refine Below.drew ?_ | refine below_drewN ?_ _ | refine bw_alloc ?_ _ | (refine bw_set ?_ ?_ _; focus (dsimp only; omega)) | (apply bw_behind; assumption))
          | true =>
            rcases (show N < 17592186044416 ∨ 17592186044416 ≤ N by omega) with hg | hg
            · go_enter Tryd.func70, Tryd.ntmps70
              go_wp2_with (first | (go_at_call 67; (with_reducible refine (C1.out _).mono ?_); rintro e w1 ⟨rfl, hb1⟩; obtain ⟨hr1, hh1, m1, hs1⟩ := bl_all hb1))
              go_ret
              refine ⟨ret_bool (by simp [rightQ]; try omega), ?_⟩
              repeat (with_reducible first | assumption | exact Below.refl _ _ | refine Below.drew ?_ | refine below_drewN ?_ _ | refine bw_alloc ?_ _ | (refine bw_set ?_ ?_ _; focus (dsimp only; omega)) | (apply bw_behind; assumption))
            · go_enter Tryd.func70, Tryd.ntmps70
              go_wp2_with (first | (go_at_call 67; (with_reducible refine (C1.out _).mono ?_); rintro e w1 ⟨rfl, hb1⟩; obtain ⟨hr1, hh1, m1, hs1⟩ := bl_all hb1))
              go_ret
              refine ⟨ret_bool (by simp [rightQ, hg]), ?_⟩
              repeat (with_reducible first | assumption | exact Below.refl _ _ | refine Below.drew ?_ | refine below_drewN ?_ _ | refine bw_alloc ?_ _ | (refine bw_set ?_ ?_ _; focus (dsimp only; omega)) | (apply bw_behind; assumption))
      | true =>
        go_enter Tryd.func70, Tryd.ntmps70
        go_wp2_with (first | (go_at_call 67; (with_reducible refine (C1.out _).mono ?_); rintro e w1 ⟨rfl, hb1⟩; obtain ⟨hr1, hh1, m1, hs1⟩ := bl_all hb1))
        go_ret
        refine ⟨ret_bool (by simp [rightQ]), ?_⟩
        repeat (with_reducible first | assumption | exact Below.refl _ _ | refine Below.drew ?_ | refine below_drewN ?_ _ | refine bw_alloc ?_ _ | (refine bw_set ?_ ?_ _; focus (dsimp only; omega)) | (apply bw_behind; assumption))
    | true =>
      cases b1 with
      | false =>
        go_enter Tryd.func70, Tryd.ntmps70
        go_wp2_with (first | (go_at_call 67; (with_reducible refine (C1.out _).mono ?_); rintro e w1 ⟨rfl, hb1⟩; obtain ⟨hr1, hh1, m1, hs1⟩ := bl_all hb1))
        go_ret
        refine ⟨ret_bool (by simp [rightQ]), ?_⟩
        repeat (with_reducible first | assumption | exact Below.refl _ _ | refine Below.drew ?_ | refine below_drewN ?_ _ | refine bw_alloc ?_ _ | (refine bw_set ?_ ?_ _; focus (dsimp only; omega)) | (apply bw_behind; assumption))
      | true =>
        cases b8 with
        | false =>
          cases b9 with
          | false =>
            rcases (show N < 17592186044416 ∨ 17592186044416 ≤ N by omega) with hg | hg
            · go_enter Tryd.func70, Tryd.ntmps70
              go_wp2_with (first | (go_at_call 67; (with_reducible refine (C1.out _).mono ?_); rintro e w1 ⟨rfl, hb1⟩; obtain ⟨hr1, hh1, m1, hs1⟩ := bl_all hb1))
              go_ret
              refine ⟨ret_bool (by simp [rightQ]; try omega), ?_⟩
              repeat (with_reducible first | assumption | exact Below.refl _ _ | refine Below.drew ?_ | refine below_drewN ?_ _ | refine bw_alloc ?_ _ | (refine bw_set ?_ ?_ _; focus (dsimp only; omega)) | (apply bw_behind; assumption))
            · go_enter Tryd.func70, Tryd.ntmps70
              go_wp2_with (first | (go_at_call 67; (with_reducible refine (C1.out _).mono ?_); rintro e w1 ⟨rfl, hb1⟩; obtain ⟨hr1, hh1, m1, hs1⟩ := bl_all hb1))
              go_ret
              refine ⟨ret_bool (by simp [rightQ, hg]), ?_⟩
              repeat (with_reducible first | assumption | exact Below.refl _ _ | refine Below.drew ?_ | refine below_drewN ?_ _ | refine bw_alloc ?_ _ | (refine bw_set ?_ ?_ _; focus (dsimp only; omega)) | (apply bw_behind; assumption))
          | true =>
            rcases (show N < 17592186044416 ∨ 17592186044416 ≤ N by omega) with hg | hg
            · go_enter Tryd.func70, Tryd.ntmps70
              go_wp2_with (first | (go_at_call 67; (with_reducible refine (C1.out _).mono ?_); rintro e w1 ⟨rfl, hb1⟩; obtain ⟨hr1, hh1, m1, hs1⟩ := bl_all hb1))
              go_ret
              refine ⟨ret_bool (by simp [rightQ]; try omega), ?_⟩
              repeat (with_reducible first | assumption | exact Below.refl _ _ | refine Below.drew ?_ | refine below_drewN ?_ _ | refine bw_alloc ?_ _ | (refine bw_set ?_ ?_ _; focus (dsimp only; omega)) | (apply bw_behind; assumption))
            · go_enter Tryd.func70, Tryd.ntmps70
              go_wp2_with (first | (go_at_call 67; (with_reducible refine (C1.out _).mono ?_); rintro e w1 ⟨rfl, hb1⟩; obtain ⟨hr1, hh1, m1, hs1⟩ := bl_all hb1))
              go_ret
              refine ⟨ret_bool (by simp [rightQ, hg]), ?_⟩
              repeat (with_reducible first | assumption | exact Below.refl _ _ | refine Below.drew ?_ | refine below_drewN ?_ _ | refine bw_alloc ?_ _ | (refine bw_set ?_ ?_ _; focus (dsimp only; omega)) | (apply bw_behind; assumption))
        | true =>
          cases b9 with
          | false =>
            rcases (show N < 17592186044416 ∨ 17592186044416 ≤ N by omega) with hg | hg
            · go_enter Tryd.func70, Tryd.ntmps70
              go_wp2_with (first | (go_at_call 67; (with_reducible refine (C1.out _).mono ?_); rintro e w1 ⟨rfl, hb1⟩; obtain ⟨hr1, hh1, m1, hs1⟩ := bl_all hb1))
              go_ret
              refine ⟨ret_bool (by simp [rightQ]; try omega), ?_⟩
              repeat (with_reducible first | assumption | exact Below.refl _ _ | refine Below.drew ?_ | refine below_drewN ?_ _ | refine bw_alloc ?_ _ | (refine bw_set ?_ ?_ _; focus (dsimp only; omega)) | (apply bw_behind; assumption))
            · go_enter Tryd.func70, Tryd.ntmps70
              go_wp2_with (first | (go_at_call 67; (with_reducible refine (C1.out _).mono ?_); rintro e w1 ⟨rfl, hb1⟩; obtain ⟨hr1, hh1, m1, hs1⟩ := bl_all hb1))
              go_ret
              refine ⟨ret_bool (by simp [rightQ, hg]), ?_⟩
              repeat (with_reducible first | assumption | exact Below.refl _ _ | refine Below.drew ?_ | refine below_drewN ?_ _ | refine bw_alloc ?_ _ | (refine bw_set ?_ ?_ _; focus (dsimp only; omega)) | (apply bw_behind; assumption))
          | true =>
            rcases (show N < 17592186044416 ∨ 17592186044416 ≤ N by omega) with hg | hg
            · go_enter Tryd.func70, Tryd.ntmps70
              go_wp2_with (first | (go_at_call 67; (with_reducible refine (C1.out _).mono ?_); rintro e w1 ⟨rfl, hb1⟩; obtain ⟨hr1, hh1, m1, hs1⟩ := bl_all hb1))
              go_ret
              refine ⟨ret_bool (by simp [rightQ]; try omega), ?_⟩
              repeat (with_reducible first | assumption | exact Below.refl _ _ | refine Below.drew ?_ | refine below_drewN ?_ _ | refine bw_alloc ?_ _ | (refine bw_set ?_ ?_ _; focus (dsimp only; omega)) | (apply bw_behind; assumption))
            · go_enter Tryd.func70, Tryd.ntmps70
              go_wp2_with (first | (go_at_call 67; (with_reducible refine (C1.out _).mono ?_); rintro e w1 ⟨rfl, hb1⟩; obtain ⟨hr1, hh1, m1, hs1⟩ := bl_all hb1))
              go_ret
              refine ⟨ret_bool (by simp [rightQ, hg]), ?_⟩
              repeat (with_reducible first | assumption | exact Below.refl _ _ | refine Below.drew ?_ | refine below_drewN ?_ _ | refine bw_alloc ?_ _ | (refine bw_set ?_ ?_ _; focus (dsimp only; omega)) | (apply bw_behind; assumption))

theorem rright_any (b0 b1 b2 b3 b4 b5 b6 b7 b8 b9 b10 b11 : Bool) (F : BitVec 64) (w : World) : Calls Tryd.prog 70 #[.agg #[.bool b0, .bool b1, .bool b2, .bool b3, .bool b4, .bool b5, .bool b6, .bool b7, .bool b8, .bool b9, .bool b10, .bool b11, .int .u64 (F.toNat : Int)]] w (Makes (.bool (rightQ b0 b1 b2 b3 b4 b5 b6 b7 b8 b9 b10 b11 (F.toNat : Int))) w) := rright_let b0 b1 b2 b3 b4 b5 b6 b7 b8 b9 b10 b11 _ (fun W => rleaf_any b0 b1 b2 b3 b4 b5 b6 b7 b8 b9 b10 b11 F W) w
end Go.Proofs.YtkajndonefkegaaDoor
