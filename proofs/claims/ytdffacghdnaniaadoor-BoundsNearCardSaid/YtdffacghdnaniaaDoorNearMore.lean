/-
  The law BoundsNear walked, where the exponent's number is not 0.
-/
import Derived.Test.YtdffacghdnaniaaDoorNearMet
namespace Go.Proofs.YtdffacghdnaniaaDoor.BoundsNear
open Go.RowKit Words FieldMath BoundsMath

set_option maxHeartbeats 4000000 in
theorem walk1 (A B C P Q FB FT E D U P3 H0 P1 LO H HL M AT : Int) (O : Bool) (hm : Met A B C P Q FB FT E D U P3 H0 P1 LO H HL M AT O) (hE : E ≠ 0) (w : World) (hT : Tab w) :
    Calls Tryd.prog 6 #[.int .u64 A, .int .u64 B, .int .u64 C] w fun e w' => e = .returned (.bool true) ∧ Below w.heap.size w w' := by
  have CM := hide hm
  have g1 := hm.e0
  have g2 := hm.e37
  have g5 := hm.h0
  have g6 := hm.low
  have g7 := hm.high
  have g8 := hm.room
  have g9 := hm.hl
  have g10 := hm.hl0
  have g11 := hm.md
  have g12 := hm.mt
  have g13 := hm.at'
  have g3 := hm.p3 hE
  have g4 := hm.p1 hE
  have SS := cell_same
  have LB := ltB_add
  have LS := ltB_self
  have LA := alloc_reads
  have LH := alloc_holds
  have g15 := hm.lz
  clear hm
  rcases g6 with ⟨l1, l2⟩ | ⟨l1, rfl⟩
  all_goals first | (obtain ⟨rfl, g16⟩ := g15 rfl) | clear g15
  all_goals rcases g7 with ⟨k1, rfl⟩ | ⟨k1, rfl⟩
  all_goals by_cases g17 : D = 281474976710656
  all_goals first | (exfalso; omega) | (have g14 : (D == 281474976710656) = true := (by rw [g17]; rfl); clear g17) | skip
  all_goals
    go_enter Tryd.func6, Tryd.ntmps6
    go_wp2_with (first | (go_at_call 20; (with_reducible refine (CM.out.span _).mono ?_); rintro e w1 ⟨rfl, hb1⟩; have hr1 := below_reads hb1; have hh1 := below_holds hb1; obtain ⟨m1, hs1⟩ := below_grew hb1) | (go_at_call 11; (with_reducible refine (CM.out.rnd _).mono ?_); rintro e w1 ⟨rfl, hb1⟩; have hr1 := below_reads hb1; have hh1 := below_holds hb1; obtain ⟨m1, hs1⟩ := below_grew hb1) | (go_at_call 9; (with_reducible refine (CM.out.enc _ ?_).mono ?_); (refine hT.behind ?_; repeat (first | with_reducible assumption | with_reducible exact Below.refl _ _ | with_reducible refine Below.drew ?_ | with_reducible refine below_drewN ?_ _ | with_reducible refine bw_alloc ?_ _ | (with_reducible refine bw_set ?_ ?_ _; focus (dsimp only; omega)) | (with_reducible apply bw_behind; with_reducible assumption))); rintro e w1 ⟨rfl, hb1⟩; have hr1 := below_reads hb1; have hh1 := below_holds hb1; obtain ⟨m1, hs1⟩ := below_grew hb1) | (go_at_call 15; (with_reducible refine (CM.out.dec _ ?_).mono ?_); (refine hT.behind ?_; repeat (first | with_reducible assumption | with_reducible exact Below.refl _ _ | with_reducible refine Below.drew ?_ | with_reducible refine below_drewN ?_ _ | with_reducible refine bw_alloc ?_ _ | (with_reducible refine bw_set ?_ ?_ _; focus (dsimp only; omega)) | (with_reducible apply bw_behind; with_reducible assumption))); rintro e w1 ⟨rfl, hb1⟩; have hr1 := below_reads hb1; have hh1 := below_holds hb1; obtain ⟨m1, hs1⟩ := below_grew hb1) | (go_at_call 18; (with_reducible refine (CM.out.near (by assumption) _ ?_).mono ?_); (refine hT.behind ?_; repeat (first | with_reducible assumption | with_reducible exact Below.refl _ _ | with_reducible refine Below.drew ?_ | with_reducible refine below_drewN ?_ _ | with_reducible refine bw_alloc ?_ _ | (with_reducible refine bw_set ?_ ?_ _; focus (dsimp only; omega)) | (with_reducible apply bw_behind; with_reducible assumption))); rintro e w1 ⟨rfl, hb1⟩; have hr1 := below_reads hb1; have hh1 := below_holds hb1; obtain ⟨m1, hs1⟩ := below_grew hb1))
    go_quiet (fail)
    go_wp2_with (first | (go_at_call 20; (with_reducible refine (CM.out.span _).mono ?_); rintro e w1 ⟨rfl, hb1⟩; have hr1 := below_reads hb1; have hh1 := below_holds hb1; obtain ⟨m1, hs1⟩ := below_grew hb1) | (go_at_call 11; (with_reducible refine (CM.out.rnd _).mono ?_); rintro e w1 ⟨rfl, hb1⟩; have hr1 := below_reads hb1; have hh1 := below_holds hb1; obtain ⟨m1, hs1⟩ := below_grew hb1) | (go_at_call 9; (with_reducible refine (CM.out.enc _ ?_).mono ?_); (refine hT.behind ?_; repeat (first | with_reducible assumption | with_reducible exact Below.refl _ _ | with_reducible refine Below.drew ?_ | with_reducible refine below_drewN ?_ _ | with_reducible refine bw_alloc ?_ _ | (with_reducible refine bw_set ?_ ?_ _; focus (dsimp only; omega)) | (with_reducible apply bw_behind; with_reducible assumption))); rintro e w1 ⟨rfl, hb1⟩; have hr1 := below_reads hb1; have hh1 := below_holds hb1; obtain ⟨m1, hs1⟩ := below_grew hb1) | (go_at_call 15; (with_reducible refine (CM.out.dec _ ?_).mono ?_); (refine hT.behind ?_; repeat (first | with_reducible assumption | with_reducible exact Below.refl _ _ | with_reducible refine Below.drew ?_ | with_reducible refine below_drewN ?_ _ | with_reducible refine bw_alloc ?_ _ | (with_reducible refine bw_set ?_ ?_ _; focus (dsimp only; omega)) | (with_reducible apply bw_behind; with_reducible assumption))); rintro e w1 ⟨rfl, hb1⟩; have hr1 := below_reads hb1; have hh1 := below_holds hb1; obtain ⟨m1, hs1⟩ := below_grew hb1) | (go_at_call 18; (with_reducible refine (CM.out.near (by assumption) _ ?_).mono ?_); (refine hT.behind ?_; repeat (first | with_reducible assumption | with_reducible exact Below.refl _ _ | with_reducible refine Below.drew ?_ | with_reducible refine below_drewN ?_ _ | with_reducible refine bw_alloc ?_ _ | (with_reducible refine bw_set ?_ ?_ _; focus (dsimp only; omega)) | (with_reducible apply bw_behind; with_reducible assumption))); rintro e w1 ⟨rfl, hb1⟩; have hr1 := below_reads hb1; have hh1 := below_holds hb1; obtain ⟨m1, hs1⟩ := below_grew hb1))
    go_ret
    refine ⟨rfl, ?_⟩
    repeat (first | with_reducible assumption | with_reducible exact Below.refl _ _ | with_reducible refine Below.drew ?_ | with_reducible refine below_drewN ?_ _ | with_reducible refine bw_alloc ?_ _ | (with_reducible refine bw_set ?_ ?_ _; focus (dsimp only; omega)) | (with_reducible apply bw_behind; with_reducible assumption))

end Go.Proofs.YtdffacghdnaniaaDoor.BoundsNear
