/-
  What capab.Look answers.
-/
import Derived.Test.YtnbfjaocakghkaaDoorCapMath
import Derived.Test.YtnbfjaocakghkaaDoorNear03
import Derived.Test.YtnbfjaocakghkaaDoorKeep
import Derived.Deep.DeepCutAuto
namespace Go.Proofs.YtnbfjaocakghkaaDoor
open Go.RowKit Words FieldMath BoundsMath

theorem dec_any (b t e a : Nat) (hb : b < 18446744073709551616) (ht : t < 18446744073709551616) (he : e < 18446744073709551616) (w : World) (hT : Tab w) :
    Calls Tryd.prog 41 #[.agg #[.int .u64 (b : Int), .int .u64 (t : Int), .int .u64 (e : Int)], .int .u64 (a : Int)] w
      (Makes (.tuple #[.agg #[.int .u64 ((dB b t e a : Nat) : Int), .int .u64 ((dT b t e a : Nat) : Int)], .bool (dO b t e a)]) w) := by
  unfold dB dT dO
  by_cases h : decB b t e a = true
  · rw [if_pos h, if_pos h, h]
    exact decode_yes b t e a ((decB_iff ..).1 h) w hT
  · rw [if_neg h, if_neg h, show decB b t e a = false by simpa using h]
    exact decode_no b t e a hb ht he (fun h2 => h ((decB_iff ..).2 h2)) w hT

set_option maxHeartbeats 4000000 in
theorem look_any (q : Bool) (m a : Nat) (hm : m < 18446744073709551616) (w : World) (hT : Tab w) :
    Calls Tryd.prog 38 #[.agg #[.bool q, .int .u64 (m : Int), .int .u64 (a : Int)]] w
      (Makes (.tuple #[.agg #[.int .u64 ((lB m a : Nat) : Int), .int .u64 ((lT m a : Nat) : Int), .int .u64 ((mP m : Nat) : Int), .int .u64 ((mK m : Nat) : Int)], .bool (lO m a)]) w) := by
  have C1 : Hid (∀ W, Tab W → Calls Tryd.prog 42 #[.int .u64 (m : Int)] W (Makes (.agg #[.int .u64 ((mB m : Nat) : Int), .int .u64 ((mT m : Nat) : Int), .int .u64 ((mE m : Nat) : Int)]) W)) := hide (fun W h => of_any m hm W h)
  have C2 : Hid (∀ W, Tab W → Calls Tryd.prog 41 #[.agg #[.int .u64 ((mB m : Nat) : Int), .int .u64 ((mT m : Nat) : Int), .int .u64 ((mE m : Nat) : Int)], .int .u64 (a : Int)] W
      (Makes (.tuple #[.agg #[.int .u64 ((lB m a : Nat) : Int), .int .u64 ((lT m a : Nat) : Int)], .bool (lO m a)]) W)) := hide (fun W h => dec_any _ _ _ a (by unfold mB; omega) (by unfold mT; omega) (by unfold mE; omega) W h)
  have C3 : Hid (∀ W, Calls Tryd.prog 43 #[.int .u64 (m : Int), .int .i64 32, .int .i64 9] W (Quiet (.int .u64 ((mP m : Nat) : Int)) W)) := hide (fun W => get_call m 32 9 hm (by omega) (by omega) W)
  have C4 : Hid (∀ W, Calls Tryd.prog 43 #[.int .u64 (m : Int), .int .i64 48, .int .i64 12] W (Quiet (.int .u64 ((mK m : Nat) : Int)) W)) := hide (fun W => get_call m 48 12 hm (by omega) (by omega) W)
  generalize lO m a = O at *
  generalize ((lB m a : Nat) : Int) = D at *
  generalize ((lT m a : Nat) : Int) = U at *
  generalize ((mP m : Nat) : Int) = P at *
  generalize ((mK m : Nat) : Int) = K at *
  generalize ((mB m : Nat) : Int) = FB at *
  generalize ((mT m : Nat) : Int) = FT at *
  generalize ((mE m : Nat) : Int) = FE at *
  generalize (m : Int) = M at *
  generalize (a : Int) = A at *
  clear hm
  have SS := cell_same
  have LB' := ltB_add
  have LS := ltB_self
  have LA' := alloc_reads
  have LH := alloc_holds
  go_enter Tryd.func38, Tryd.ntmps38
  go_upto_region 1 with fail
  go_cut [4, 5] (fun s4 s5 wx => ∃ n : Nat, s4 = .pointer (some ⟨n, 0, none⟩) ∧ s5 = .bool O ∧ (w.heap.size + 2 ≤ n ∧ n < wx.heap.size) ∧ wx.cell? ⟨n, 0, none⟩ = some (.int .u64 D) ∧ wx.cell? ⟨n, 1, none⟩ = some (.int .u64 U) ∧
    wx.cell? ⟨w.heap.size, 1, none⟩ = some (.int .u64 M) ∧ Own wx (w.heap.size + 1) 4 ∧ Tab wx ∧ Below w.heap.size w wx)
  case first =>
    go_region_held3 (fun w' => w'.cell? ⟨w.heap.size, 0, none⟩ = some (.bool q) ∧ w'.cell? ⟨w.heap.size, 1, none⟩ = some (.int .u64 M) ∧ w'.cell? ⟨w.heap.size, 2, none⟩ = some (.int .u64 A) ∧ Tab w' ∧ Below w.heap.size w w')
      (first | with_reducible assumption | (refine ⟨?_, ?_, ?_, ?_, ?_⟩ <;> first | ((repeat (first | with_reducible assumption | with_reducible refine c_dr _ ?_ | with_reducible refine c_d1 ?_ | with_reducible refine c_al _ ?_ | (with_reducible refine c_set ?_ ?_; focus (dsimp only; omega)) | (with_reducible apply c_be; with_reducible assumption))); done) | ((repeat (first | with_reducible assumption | with_reducible exact Below.refl _ _ | with_reducible refine Below.drew ?_ | with_reducible refine below_drewN ?_ _ | with_reducible refine bw_alloc ?_ _ | (with_reducible refine bw_set ?_ ?_ _; focus (dsimp only; omega)) | (with_reducible apply bw_behind; with_reducible assumption))); done) | (refine hT.behind ?_; (repeat (first | with_reducible assumption | with_reducible exact Below.refl _ _ | with_reducible refine Below.drew ?_ | with_reducible refine below_drewN ?_ _ | with_reducible refine bw_alloc ?_ _ | (with_reducible refine bw_set ?_ ?_ _; focus (dsimp only; omega)) | (with_reducible apply bw_behind; with_reducible assumption))); done) | (simp [go_sem, *]; done)))
      (first | (go_at_call 42; (with_reducible refine (C1.out _ ?_).mono ?_); (refine hT.behind ?_; repeat (first | with_reducible assumption | with_reducible exact Below.refl _ _ | with_reducible refine Below.drew ?_ | with_reducible refine below_drewN ?_ _ | with_reducible refine bw_alloc ?_ _ | (with_reducible refine bw_set ?_ ?_ _; focus (dsimp only; omega)) | (with_reducible apply bw_behind; with_reducible assumption))); rintro e w1 ⟨rfl, hb1⟩; have hr1 := below_reads hb1; have hh1 := below_holds hb1; obtain ⟨m1, hs1⟩ := below_grew hb1) | (go_at_call 41; (with_reducible refine (C2.out _ ?_).mono ?_); (refine hT.behind ?_; repeat (first | with_reducible assumption | with_reducible exact Below.refl _ _ | with_reducible refine Below.drew ?_ | with_reducible refine below_drewN ?_ _ | with_reducible refine bw_alloc ?_ _ | (with_reducible refine bw_set ?_ ?_ _; focus (dsimp only; omega)) | (with_reducible apply bw_behind; with_reducible assumption))); rintro e w2 ⟨rfl, hb2⟩; have hr2 := below_reads hb2; have hh2 := below_holds hb2; obtain ⟨m2, hs2⟩ := below_grew hb2))
    all_goals
      go_wp2_with fail
      go_meet
      refine ⟨_, rfl, rfl, ?_, ?_, ?_, ?_, ?_, ?_, ?_⟩
    all_goals (first | with_reducible assumption | ((repeat (first | with_reducible assumption | with_reducible refine c_dr _ ?_ | with_reducible refine c_d1 ?_ | with_reducible refine c_al _ ?_ | (with_reducible refine c_set ?_ ?_; focus (dsimp only; omega)) | (with_reducible apply c_be; with_reducible assumption))); done) | ((repeat (first | with_reducible assumption | with_reducible refine o_dr _ ?_ | with_reducible refine o_d1 ?_ | with_reducible refine o_set ?_ | (with_reducible refine o_new ?_ ?_; (focus (simp)); (focus (simp))) | with_reducible refine o_al _ ?_ | (with_reducible apply o_be; with_reducible assumption))); done) | ((repeat (first | with_reducible assumption | with_reducible exact Below.refl _ _ | with_reducible refine Below.drew ?_ | with_reducible refine below_drewN ?_ _ | with_reducible refine bw_alloc ?_ _ | (with_reducible refine bw_set ?_ ?_ _; focus (dsimp only; omega)) | (with_reducible apply bw_behind; with_reducible assumption))); done) | (refine hT.behind ?_; (repeat (first | with_reducible assumption | with_reducible exact Below.refl _ _ | with_reducible refine Below.drew ?_ | with_reducible refine below_drewN ?_ _ | with_reducible refine bw_alloc ?_ _ | (with_reducible refine bw_set ?_ ?_ _; focus (dsimp only; omega)) | (with_reducible apply bw_behind; with_reducible assumption))); done) | (simp [go_sem, *]; omega) | (simp (maxDischargeDepth := 4) [go_sem, *]; done))
  case rest =>
    obtain ⟨n, rfl, rfl, hn, c0, c1, c2, hO, hT2, hB⟩ := hcut
    obtain ⟨j, rfl⟩ : ∃ j, n = w.heap.size + 1 + 1 + j := ⟨n - (w.heap.size + 2), by omega⟩
    obtain ⟨k, hk⟩ : ∃ k, wc.heap.size = w.heap.size + 1 + 1 + j + 1 + k := ⟨wc.heap.size - (w.heap.size + 1 + 1 + j + 1), by omega⟩
    clear hn
    go_upto_region 2 with fail
    go_cut [6] (fun s6 wx => ∃ n : Nat, s6 = .pointer (some ⟨n, 0, none⟩) ∧ (w.heap.size + 2 ≤ n ∧ n < wx.heap.size) ∧ wx.cell? ⟨n, 0, none⟩ = some (.int .u64 D) ∧ wx.cell? ⟨n, 1, none⟩ = some (.int .u64 U) ∧ wx.cell? ⟨n, 2, none⟩ = some (.int .u64 P) ∧ wx.cell? ⟨n, 3, none⟩ = some (.int .u64 K) ∧
      Own wx (w.heap.size + 1) 4 ∧ Below w.heap.size w wx)
    case first =>
      go_region_held3 (fun w' => w'.cell? ⟨w.heap.size + 1 + 1 + j, 0, none⟩ = some (.int .u64 D) ∧ w'.cell? ⟨w.heap.size + 1 + 1 + j, 1, none⟩ = some (.int .u64 U) ∧ w'.cell? ⟨w.heap.size, 1, none⟩ = some (.int .u64 M) ∧ Below w.heap.size w w')
        (first | with_reducible assumption | (refine ⟨?_, ?_, ?_, ?_⟩ <;> first | ((repeat (first | with_reducible assumption | with_reducible refine c_dr _ ?_ | with_reducible refine c_d1 ?_ | with_reducible refine c_al _ ?_ | (with_reducible refine c_set ?_ ?_; focus (dsimp only; omega)) | (with_reducible apply c_be; with_reducible assumption))); done) | ((repeat (first | with_reducible assumption | with_reducible exact Below.refl _ _ | with_reducible refine Below.drew ?_ | with_reducible refine below_drewN ?_ _ | with_reducible refine bw_alloc ?_ _ | (with_reducible refine bw_set ?_ ?_ _; focus (dsimp only; omega)) | (with_reducible apply bw_behind; with_reducible assumption))); done) | (simp [go_sem, *]; done)))
        (first | (go_at_call 43; (with_reducible first | refine (C3.out _).mono ?_ | refine (C4.out _).mono ?_); rintro e w' ⟨rfl, n1, rfl⟩))
      all_goals
        go_wp2_with fail
        go_meet
        refine ⟨_, rfl, ?_, ?_, ?_, ?_, ?_, ?_, ?_⟩
      all_goals (first | with_reducible assumption | ((repeat (first | with_reducible assumption | with_reducible refine c_dr _ ?_ | with_reducible refine c_d1 ?_ | with_reducible refine c_al _ ?_ | (with_reducible refine c_set ?_ ?_; focus (dsimp only; omega)) | (with_reducible apply c_be; with_reducible assumption))); done) | ((repeat (first | with_reducible assumption | with_reducible refine o_dr _ ?_ | with_reducible refine o_d1 ?_ | with_reducible refine o_set ?_ | (with_reducible refine o_new ?_ ?_; (focus (simp)); (focus (simp))) | with_reducible refine o_al _ ?_ | (with_reducible apply o_be; with_reducible assumption))); done) | ((repeat (first | with_reducible assumption | with_reducible exact Below.refl _ _ | with_reducible refine Below.drew ?_ | with_reducible refine below_drewN ?_ _ | with_reducible refine bw_alloc ?_ _ | (with_reducible refine bw_set ?_ ?_ _; focus (dsimp only; omega)) | (with_reducible apply bw_behind; with_reducible assumption))); done) | (refine hT.behind ?_; (repeat (first | with_reducible assumption | with_reducible exact Below.refl _ _ | with_reducible refine Below.drew ?_ | with_reducible refine below_drewN ?_ _ | with_reducible refine bw_alloc ?_ _ | (with_reducible refine bw_set ?_ ?_ _; focus (dsimp only; omega)) | (with_reducible apply bw_behind; with_reducible assumption))); done) | (simp [go_sem, *]; omega) | (simp (maxDischargeDepth := 4) [go_sem, *]; done))
    case rest =>
      obtain ⟨n, rfl, hn, c0, c1, c2, c3, hO, hB⟩ := hcut
      obtain ⟨i, rfl⟩ : ∃ i, n = w.heap.size + 1 + 1 + i := ⟨n - (w.heap.size + 2), by omega⟩
      clear hn
      obtain ⟨v0, e0⟩ := hO.val 0 (by omega)
      obtain ⟨v1, e1⟩ := hO.val 1 (by omega)
      obtain ⟨v2, e2⟩ := hO.val 2 (by omega)
      obtain ⟨v3, e3⟩ := hO.val 3 (by omega)
      have f0 := hO.free 0 (by omega)
      have f1 := hO.free 1 (by omega)
      have f2 := hO.free 2 (by omega)
      have f3 := hO.free 3 (by omega)
      go_wp2
      refine bodyPost_ret (v := .tuple #[.agg #[.int .u64 D, .int .u64 U, .int .u64 P, .int .u64 K], .bool O]) (by simp (maxDischargeDepth := 4) [results, Tryd.results38, go_sem, *]) rfl ?_
      refine ⟨rfl, ?_⟩
      repeat (first | with_reducible assumption | with_reducible exact Below.refl _ _ | with_reducible refine Below.drew ?_ | with_reducible refine below_drewN ?_ _ | with_reducible refine bw_alloc ?_ _ | (with_reducible refine bw_set ?_ ?_ _; focus (dsimp only; omega)) | (with_reducible apply bw_behind; with_reducible assumption))
end Go.Proofs.YtnbfjaocakghkaaDoor
