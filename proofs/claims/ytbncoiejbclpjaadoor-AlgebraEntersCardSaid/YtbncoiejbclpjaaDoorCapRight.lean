/-
  What capab.Right answers.
-/
import Derived.Test.YtbncoiejbclpjaaDoorCapLook
import Derived.Test.YtbncoiejbclpjaaDoorCapMeta
import Derived.Deep.DeepCutAuto
import Derived.Deep.RegionHeld3
namespace Go.Proofs.YtbncoiejbclpjaaDoor
open Go.RowKit Words FieldMath BoundsMath

theorem eq_cap (q r : Bool) (M A N B : Int) : ∀ W, (binOp .eql 24 (.agg #[.bool q, .int .u64 M, .int .u64 A]) (.agg #[.bool r, .int .u64 N, .int .u64 B])).run Tryd.prog W = .ok (.bool (decide (q = r ∧ M = N ∧ A = B))) W := by
  intro W
  by_cases h1 : q = r <;> by_cases h2 : M = N <;> by_cases h3 : A = B <;> simp [go_sem, h1, h2, h3]

set_option maxHeartbeats 4000000 in
theorem right_let (q O V : Bool) (M A D U P K R : Int) (hV : V = decide (M = R))
    (c1 : ∀ W, Tab W → Calls Tryd.prog 33 #[.agg #[.bool q, .int .u64 M, .int .u64 A]] W (Makes (.tuple #[.agg #[.int .u64 D, .int .u64 U, .int .u64 P, .int .u64 K], .bool O]) W))
    (c2 : ∀ W, Calls Tryd.prog 66 #[.int .u64 M, .int .u64 P, .int .u64 K] W (Makes (.int .u64 R) W)) (w : World) (hT : Tab w) :
    Calls Tryd.prog 30 #[.agg #[.bool q, .int .u64 M, .int .u64 A]] w (Makes (.bool (O && V)) w) := by
  have C1 := hide c1
  have C2 := hide c2
  have EQ := eq_cap q q M A R A
  rw [show decide (q = q ∧ M = R ∧ A = A) = V by rw [hV]; simp] at EQ
  clear c1 c2 hV
  have SS := cell_same
  have LB' := ltB_add
  have LS := ltB_self
  have LA' := alloc_reads
  have LH := alloc_holds
  go_enter Tryd.func30, Tryd.ntmps30
  go_upto_region 2 with (first | (go_at_call 33; (with_reducible refine (C1.out _ ?_).mono ?_); (refine hT.behind ?_; repeat (first | with_reducible assumption | with_reducible exact Below.refl _ _ | with_reducible refine Below.drew ?_ | with_reducible refine below_drewN ?_ _ | with_reducible refine bw_alloc ?_ _ | (with_reducible refine bw_set ?_ ?_ _; focus (dsimp only; omega)) | (with_reducible apply bw_behind; with_reducible assumption))); rintro e w1 ⟨rfl, hb1⟩; have hr1 := below_reads hb1; have hh1 := below_holds hb1; obtain ⟨m1, hs1⟩ := below_grew hb1))
  go_cut [5] (fun s5 wx => ∃ n : Nat, s5 = .pointer (some ⟨n, 0, none⟩) ∧ wx.cell? ⟨n, 0, none⟩ = some (.bool q) ∧ wx.cell? ⟨n, 1, none⟩ = some (.int .u64 R) ∧ wx.cell? ⟨n, 2, none⟩ = some (.int .u64 A) ∧
    wx.cell? ⟨w.heap.size, 0, none⟩ = some (.bool q) ∧ wx.cell? ⟨w.heap.size, 1, none⟩ = some (.int .u64 M) ∧ wx.cell? ⟨w.heap.size, 2, none⟩ = some (.int .u64 A) ∧ Below w.heap.size w wx)
  case first =>
    go_region_held3 (fun w' => w'.cell? ⟨w.heap.size, 0, none⟩ = some (.bool q) ∧ w'.cell? ⟨w.heap.size, 1, none⟩ = some (.int .u64 M) ∧ w'.cell? ⟨w.heap.size, 2, none⟩ = some (.int .u64 A) ∧ w'.cell? ⟨w.heap.size + 1 + m1, 2, none⟩ = some (.int .u64 P) ∧ w'.cell? ⟨w.heap.size + 1 + m1, 3, none⟩ = some (.int .u64 K) ∧ Below w.heap.size w w')
      (first | with_reducible assumption | (refine ⟨?_, ?_, ?_, ?_, ?_, ?_⟩ <;> first | ((repeat (first | with_reducible assumption | with_reducible refine c_dr _ ?_ | with_reducible refine c_d1 ?_ | with_reducible refine c_al _ ?_ | (with_reducible refine c_set ?_ ?_; focus (dsimp only; omega)) | (with_reducible apply c_be; with_reducible assumption))); done) | ((repeat (first | with_reducible assumption | with_reducible exact Below.refl _ _ | with_reducible refine Below.drew ?_ | with_reducible refine below_drewN ?_ _ | with_reducible refine bw_alloc ?_ _ | (with_reducible refine bw_set ?_ ?_ _; focus (dsimp only; omega)) | (with_reducible apply bw_behind; with_reducible assumption))); done) | (simp [go_sem, *]; done)))
      (first | (go_at_call 66; (with_reducible refine (C2.out _).mono ?_); rintro e w2 ⟨rfl, hb2⟩; have hr2 := below_reads hb2; have hh2 := below_holds hb2; obtain ⟨m2, hs2⟩ := below_grew hb2))
    all_goals
      go_wp2_with fail
      go_meet
      refine ⟨_, rfl, ?_, ?_, ?_, ?_, ?_, ?_, ?_⟩
    all_goals (first | with_reducible assumption | ((repeat (first | with_reducible assumption | with_reducible refine c_dr _ ?_ | with_reducible refine c_d1 ?_ | with_reducible refine c_al _ ?_ | (with_reducible refine c_set ?_ ?_; focus (dsimp only; omega)) | (with_reducible apply c_be; with_reducible assumption))); done) | ((repeat (first | with_reducible assumption | with_reducible refine o_dr _ ?_ | with_reducible refine o_d1 ?_ | with_reducible refine o_set ?_ | (with_reducible refine o_new ?_ ?_; (focus (simp)); (focus (simp))) | with_reducible refine o_al _ ?_ | (with_reducible apply o_be; with_reducible assumption))); done) | ((repeat (first | with_reducible assumption | with_reducible exact Below.refl _ _ | with_reducible refine Below.drew ?_ | with_reducible refine below_drewN ?_ _ | with_reducible refine bw_alloc ?_ _ | (with_reducible refine bw_set ?_ ?_ _; focus (dsimp only; omega)) | (with_reducible apply bw_behind; with_reducible assumption))); done) | (refine hT.behind ?_; (repeat (first | with_reducible assumption | with_reducible exact Below.refl _ _ | with_reducible refine Below.drew ?_ | with_reducible refine below_drewN ?_ _ | with_reducible refine bw_alloc ?_ _ | (with_reducible refine bw_set ?_ ?_ _; focus (dsimp only; omega)) | (with_reducible apply bw_behind; with_reducible assumption))); done) | (simp [go_sem, *]; omega) | (simp (maxDischargeDepth := 4) [go_sem, *]; done))
  case rest =>
    obtain ⟨n, rfl, c0, c1, c2, c3, c4, c5, hB⟩ := hcut
    cases O
    all_goals
      go_wp2
      go_ret
      exact ⟨rfl, hB⟩

theorem right_any (q : Bool) (m a : Nat) (hm : m < 18446744073709551616) (w : World) (hT : Tab w) :
    Calls Tryd.prog 30 #[.agg #[.bool q, .int .u64 (m : Int), .int .u64 (a : Int)]] w (Makes (.bool (rightB m a)) w) := by
  refine right_let q (lO m a) _ m a _ _ _ _ _ ?_ (fun W h => look_any q m a hm W h) (fun W => meta_any m (mP m) (mK m) hm (by unfold mP; omega) (by unfold mK; omega) W) w hT
  exact decide_eq_decide.mpr (by omega)
end Go.Proofs.YtbncoiejbclpjaaDoor
