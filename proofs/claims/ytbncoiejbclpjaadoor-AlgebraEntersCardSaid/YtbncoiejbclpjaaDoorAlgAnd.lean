/-
  What And answers, over letters.
-/
import Derived.Test.YtbncoiejbclpjaaDoorAlg2
import Derived.Deep.DeepCutAuto
import Derived.Deep.RegionHeld3
namespace Go.Proofs.YtbncoiejbclpjaaDoor
open Go.RowKit Words FieldMath BoundsMath

set_option maxHeartbeats 4000000 in
theorem and_let (q L : Bool) (M A P X Y M2 : Int) (c1 : ∀ W, Tab W → Calls Tryd.prog 49 #[.int .u64 X] W (Makes (.int .u64 Y) W)) (c2 : ∀ W, Tab W → Calls Tryd.prog 40 #[.agg #[.bool q, .int .u64 M, .int .u64 A]] W (Makes (.bool L) W)) (hX : bits .andNot .u64 511 P = X) (hM : bits .andNot .u64 M Y = M2) (w : World) (hT : Tab w) :
    Calls Tryd.prog 17 #[.agg #[.bool q, .int .u64 M, .int .u64 A], .int .u64 P] w (Makes (.agg #[.bool L, .int .u64 M2, .int .u64 A]) w) := by
  have Cc1 := hide c1
  have Cc2 := hide c2
  clear c1 c2
  have SS := cell_same
  have LB' := ltB_add
  have LS := ltB_self
  have LA' := alloc_reads
  have LH := alloc_holds
  go_enter Tryd.func17, Tryd.ntmps17
  go_upto_region 2 with fail
  go_cut [11] (fun s11 wx => s11 = .int .u64 Y ∧ wx.cell? ⟨w.heap.size, 0, none⟩ = some (.bool q) ∧ wx.cell? ⟨w.heap.size, 1, none⟩ = some (.int .u64 M) ∧ wx.cell? ⟨w.heap.size, 2, none⟩ = some (.int .u64 A) ∧
    wx.cell? ⟨w.heap.size + 1 + 1, 1, none⟩ = some (.int .u64 M2) ∧ wx.cell? ⟨w.heap.size + 1 + 1, 2, none⟩ = some (.int .u64 A) ∧ Own wx (w.heap.size + 1 + 1) 3 ∧ Own wx (w.heap.size + 1) 3 ∧ Tab wx ∧ w.heap.size + 1 + 1 < wx.heap.size ∧ Below w.heap.size w wx)
  case first =>
    go_region_with (first | (go_at_call 49; (first | ((with_reducible refine (Cc1.out _ ?_).mono ?_); (refine hT.behind ?_; repeat (first | with_reducible assumption | with_reducible exact Below.refl _ _ | with_reducible refine Below.drew ?_ | with_reducible refine below_drewN ?_ _ | with_reducible refine bw_alloc ?_ _ | (with_reducible refine bw_set ?_ ?_ _; focus (dsimp only; omega)) | (with_reducible apply bw_behind; with_reducible assumption))))); rintro e wa ⟨rfl, hba⟩; have hra := below_reads hba; have hha := below_holds hba; obtain ⟨ma, hsa⟩ := below_grew hba))
    all_goals
      go_wp2_with fail
      go_meet
      refine ⟨rfl, ?_, ?_, ?_, ?_, ?_, ?_, ?_, ?_, ?_, ?_⟩
    all_goals (first | with_reducible assumption | ((repeat (first | with_reducible assumption | with_reducible refine c_dr _ ?_ | with_reducible refine c_d1 ?_ | with_reducible refine c_al _ ?_ | (with_reducible refine c_set ?_ ?_; focus (dsimp only; omega)) | (with_reducible apply c_be; with_reducible assumption))); done) | ((repeat (first | with_reducible assumption | with_reducible refine o_dr _ ?_ | with_reducible refine o_d1 ?_ | with_reducible refine o_set ?_ | (with_reducible refine o_new ?_ ?_; (focus (simp)); (focus (simp))) | with_reducible refine o_al _ ?_ | (with_reducible apply o_be; with_reducible assumption))); done) | ((repeat (first | with_reducible assumption | with_reducible exact Below.refl _ _ | with_reducible refine Below.drew ?_ | with_reducible refine below_drewN ?_ _ | with_reducible refine bw_alloc ?_ _ | (with_reducible refine bw_set ?_ ?_ _; focus (dsimp only; omega)) | (with_reducible apply bw_behind; with_reducible assumption))); done) | (refine hT.behind ?_; (repeat (first | with_reducible assumption | with_reducible exact Below.refl _ _ | with_reducible refine Below.drew ?_ | with_reducible refine below_drewN ?_ _ | with_reducible refine bw_alloc ?_ _ | (with_reducible refine bw_set ?_ ?_ _; focus (dsimp only; omega)) | (with_reducible apply bw_behind; with_reducible assumption))); done) | (simp [go_sem, *]; omega) | (simp (maxDischargeDepth := 4) [go_sem, *]; done))
  case rest =>
    obtain ⟨rfl, c0, c1, c2, c3, c4, hO5, hO4, hT2, hlt, hB⟩ := hcut
    obtain ⟨k, hk⟩ : ∃ k, wc.heap.size = w.heap.size + 1 + 1 + 1 + k := ⟨wc.heap.size - (w.heap.size + 1 + 1 + 1), by omega⟩
    obtain ⟨v0, e0⟩ := hO5.val 0 (by omega)
    have f0 := hO5.free 0 (by omega)
    obtain ⟨v40, e40⟩ := hO4.val 0 (by omega)
    have f40 := hO4.free 0 (by omega)
    obtain ⟨v41, e41⟩ := hO4.val 1 (by omega)
    have f41 := hO4.free 1 (by omega)
    obtain ⟨v42, e42⟩ := hO4.val 2 (by omega)
    have f42 := hO4.free 2 (by omega)
    go_wp2_with (first | (go_at_call 40; (first | ((with_reducible refine (Cc2.out _ ?_).mono ?_); (refine hT2.behind ?_; repeat (first | with_reducible assumption | with_reducible exact Below.refl _ _ | with_reducible refine Below.drew ?_ | with_reducible refine below_drewN ?_ _ | with_reducible refine bw_alloc ?_ _ | (with_reducible refine bw_set ?_ ?_ _; focus (dsimp only; omega)) | (with_reducible apply bw_behind; with_reducible assumption))))); rintro e wb ⟨rfl, hbb⟩; have hrb := below_reads hbb; have hhb := below_holds hbb; obtain ⟨mb, hsb⟩ := below_grew hbb))

    refine bodyPost_ret (v := .agg #[.bool L, .int .u64 M2, .int .u64 A]) (by simp (maxDischargeDepth := 4) [results, Tryd.results17, go_sem, *]) rfl ?_
    refine ⟨rfl, ?_⟩
    repeat (first | with_reducible assumption | with_reducible exact Below.refl _ _ | with_reducible refine Below.drew ?_ | with_reducible refine below_drewN ?_ _ | with_reducible refine bw_alloc ?_ _ | (with_reducible refine bw_set ?_ ?_ _; focus (dsimp only; omega)) | (with_reducible apply bw_behind; with_reducible assumption))
end Go.Proofs.YtbncoiejbclpjaaDoor
