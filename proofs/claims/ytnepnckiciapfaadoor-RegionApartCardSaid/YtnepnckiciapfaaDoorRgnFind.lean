/-
  What Find answers.
-/
import Derived.Test.YtnepnckiciapfaaDoorRgnLow
import Derived.Test.YtnepnckiciapfaaDoorRgnShape
namespace Go.Proofs.YtnepnckiciapfaaDoor
open Go.RowKit RgnMath BoundsMath

set_option maxHeartbeats 2000000 in
theorem find_bad (RB RT N : Int) (v : Value) (hv : ∃ sa n c, v = .slice sa n c) (hN : N = 0 ∨ 274877906944 < N) (w : World) :
    Calls Tryd.prog 6 #[.agg #[.int .u64 RB, .int .u64 RT, v], .int .u64 N] w (Makes (.tuple #[.agg #[.int .u64 0, .int .u64 0], .int .i64 2]) w) := by
  obtain ⟨sa, n, c, rfl⟩ := hv
  rcases hN with rfl | hN
  · go_enter Tryd.func6, Tryd.ntmps6
    go_wp2
    refine bodyPost_ret (v := .tuple #[.agg #[.int .u64 0, .int .u64 0], .int .i64 2]) (by simp (maxDischargeDepth := 4) [results, Tryd.results6, go_sem, *]) rfl ?_
    exact ⟨rfl, by (repeat (first | with_reducible assumption | with_reducible exact Below.refl _ _ | with_reducible refine Below.drew ?_ | with_reducible refine below_drewN ?_ _ | with_reducible refine bw_alloc ?_ _ | (with_reducible refine bw_set ?_ ?_ _; focus (dsimp only; omega)) | (with_reducible apply bw_behind; with_reducible assumption)))⟩
  · have h0 : ¬ N = 0 := by omega
    go_enter Tryd.func6, Tryd.ntmps6
    go_wp2
    refine bodyPost_ret (v := .tuple #[.agg #[.int .u64 0, .int .u64 0], .int .i64 2]) (by simp (maxDischargeDepth := 4) [results, Tryd.results6, go_sem, *]) rfl ?_
    exact ⟨rfl, by (repeat (first | with_reducible assumption | with_reducible exact Below.refl _ _ | with_reducible refine Below.drew ?_ | with_reducible refine below_drewN ?_ _ | with_reducible refine bw_alloc ?_ _ | (with_reducible refine bw_set ?_ ?_ _; focus (dsimp only; omega)) | (with_reducible apply bw_behind; with_reducible assumption)))⟩

/-- What Find answers for a number of bytes whose span has the length l. -/
def findV (l : Nat) : Option Nat → Value
  | some p => .tuple #[.agg #[.int .u64 (p : Int), .int .u64 ((p + l : Nat) : Int)], .int .i64 0]
  | none => .tuple #[.agg #[.int .u64 0, .int .u64 0], .int .i64 15]

set_option maxRecDepth 100000 in
set_option maxHeartbeats 4000000 in
theorem find_of (RB RT N LN X D U : Int) (O : Bool) (n c : Nat) (sa : Option Addr) (L : List Rg) (w : World) (h : Lst w (.slice sa n c) L) (h0 : ¬ N = 0) (h1 : ¬ 274877906944 < N)
    (cs : ∀ W, Calls Tryd.prog 14 #[.int .u64 N] W (Makes (.tuple #[.int .u64 LN, .int .i64 X]) W))
    (cl : ∀ W, Lst W (.slice sa n c) L → Calls Tryd.prog 13 #[.agg #[.int .u64 RB, .int .u64 RT, .slice sa n c], .int .u64 LN, .int .i64 X] W (Makes (.tuple #[.agg #[.int .u64 D, .int .u64 U], .bool O]) W)) :
    Calls Tryd.prog 6 #[.agg #[.int .u64 RB, .int .u64 RT, .slice sa n c], .int .u64 N] w (Makes (if O then .tuple #[.agg #[.int .u64 D, .int .u64 U], .int .i64 0] else .tuple #[.agg #[.int .u64 0, .int .u64 0], .int .i64 15]) w) := by
  have C1 := hide cs
  have C2 := hide cl
  have H := hide h
  clear cs cl h
  have SS := cell_same
  have LB' := ltB_add
  have LS := ltB_self
  have LA' := alloc_reads
  have LH := alloc_holds
  go_enter Tryd.func6, Tryd.ntmps6
  go_upto_region 3 with fail
  go_cut [6, 7] (fun s6 s7 wx => ∃ N : Nat, s6 = .pointer (some ⟨N, 0, none⟩) ∧ s7 = .bool O ∧ (w.heap.size + 2 ≤ N ∧ N < wx.heap.size) ∧ wx.cell? ⟨N, 0, none⟩ = some (.int .u64 D) ∧ wx.cell? ⟨N, 1, none⟩ = some (.int .u64 U) ∧ Own wx (w.heap.size + 1) 2 ∧ Below w.heap.size w wx)
  case first =>
    refine wp_abs (fun w' => w'.cell? ⟨w.heap.size, 0, none⟩ = some (.int .u64 RB) ∧ w'.cell? ⟨w.heap.size, 1, none⟩ = some (.int .u64 RT) ∧ w'.cell? ⟨w.heap.size, 2, none⟩ = some (.slice sa n c) ∧ Own w' (w.heap.size + 1) 2 ∧ w.heap.size + 2 ≤ w'.heap.size ∧ Below w.heap.size w w') ⟨by simp [go_sem], by simp [go_sem], by simp [go_sem], o_new (by simp) (by simp), by simp, bw_alloc (bw_alloc (Below.refl _ _) _) _⟩ ?_
    rintro w0 ⟨m0, m1, m2, o1, hz, hB0⟩
    go_region_held3 (fun w' => w'.cell? ⟨w.heap.size, 0, none⟩ = some (.int .u64 RB) ∧ w'.cell? ⟨w.heap.size, 1, none⟩ = some (.int .u64 RT) ∧ w'.cell? ⟨w.heap.size, 2, none⟩ = some (.slice sa n c) ∧ Own w' (w.heap.size + 1) 2 ∧ Below w.heap.size w w')
      (first | with_reducible assumption | (refine ⟨?_, ?_, ?_, ?_, ?_⟩ <;> first | ((repeat (first | with_reducible assumption | with_reducible refine c_dr _ ?_ | with_reducible refine c_d1 ?_ | with_reducible refine c_al _ ?_ | (with_reducible refine c_set ?_ ?_; focus (dsimp only; omega)) | (with_reducible apply c_be; with_reducible assumption))); done) | ((repeat (first | with_reducible assumption | with_reducible refine o_dr _ ?_ | with_reducible refine o_d1 ?_ | with_reducible refine o_set ?_ | (with_reducible refine o_new ?_ ?_; (focus (simp)); (focus (simp))) | with_reducible refine o_al _ ?_ | (with_reducible apply o_be; with_reducible assumption))); done) | ((repeat (first | with_reducible assumption | with_reducible exact Below.refl _ _ | with_reducible refine Below.drew ?_ | with_reducible refine below_drewN ?_ _ | with_reducible refine bw_alloc ?_ _ | (with_reducible refine bw_set ?_ ?_ _; focus (dsimp only; omega)) | (with_reducible apply bw_behind; with_reducible assumption))); done) | (simp [go_sem, *]; done)))
      (first | (go_at_call 14; (with_reducible refine (C1.out _).mono ?_); rintro e w1 ⟨rfl, hb1⟩; have hr1 := below_reads hb1; have hh1 := below_holds hb1; obtain ⟨m1, hs1⟩ := below_grew hb1) | (go_at_call 13; (with_reducible refine (C2.out _ ?_).mono ?_); (refine lst_be ?_ H.out; (repeat (first | with_reducible assumption | with_reducible exact Below.refl _ _ | with_reducible refine Below.drew ?_ | with_reducible refine below_drewN ?_ _ | with_reducible refine bw_alloc ?_ _ | (with_reducible refine bw_set ?_ ?_ _; focus (dsimp only; omega)) | (with_reducible apply bw_behind; with_reducible assumption)))); rintro e w1 ⟨rfl, hb1⟩; have hr1 := below_reads hb1; have hh1 := below_holds hb1; obtain ⟨m1, hs1⟩ := below_grew hb1))
    all_goals
      go_wp2_with fail
      go_meet
      refine ⟨_, rfl, rfl, ?_, ?_, ?_, ?_, ?_⟩
    all_goals (first | with_reducible assumption | ((repeat (first | with_reducible assumption | with_reducible refine c_dr _ ?_ | with_reducible refine c_d1 ?_ | with_reducible refine c_al _ ?_ | (with_reducible refine c_set ?_ ?_; focus (dsimp only; omega)) | (with_reducible apply c_be; with_reducible assumption))); done) | ((repeat (first | with_reducible assumption | with_reducible refine o_dr _ ?_ | with_reducible refine o_d1 ?_ | with_reducible refine o_set ?_ | (with_reducible refine o_new ?_ ?_; (focus (simp)); (focus (simp))) | with_reducible refine o_al _ ?_ | (with_reducible apply o_be; with_reducible assumption))); done) | ((repeat (first | with_reducible assumption | with_reducible exact Below.refl _ _ | with_reducible refine Below.drew ?_ | with_reducible refine below_drewN ?_ _ | with_reducible refine bw_alloc ?_ _ | (with_reducible refine bw_set ?_ ?_ _; focus (dsimp only; omega)) | (with_reducible apply bw_behind; with_reducible assumption))); done) | (simp [go_sem, *]; omega) | (simp (maxDischargeDepth := 4) [go_sem, *]; done))
  case rest =>
    obtain ⟨N, rfl, rfl, hn, c0, c1, hO, hB⟩ := hcut
    obtain ⟨e0, e1⟩ := hO.val 0 (by omega)
    obtain ⟨e2, e3⟩ := hO.val 1 (by omega)
    have g0 := hO.free 0 (by omega)
    have g1 := hO.free 1 (by omega)
    clear hO
    cases O
    · go_wp2
      refine bodyPost_ret (v := .tuple #[.agg #[.int .u64 0, .int .u64 0], .int .i64 15]) (by simp (maxDischargeDepth := 4) [results, Tryd.results6, go_sem, *]) rfl ?_
      exact ⟨rfl, by (repeat (first | with_reducible assumption | with_reducible exact Below.refl _ _ | with_reducible refine Below.drew ?_ | with_reducible refine below_drewN ?_ _ | with_reducible refine bw_alloc ?_ _ | (with_reducible refine bw_set ?_ ?_ _; focus (dsimp only; omega)) | (with_reducible apply bw_behind; with_reducible assumption)))⟩
    · go_wp2
      refine bodyPost_ret (v := .tuple #[.agg #[.int .u64 D, .int .u64 U], .int .i64 0]) (by simp (maxDischargeDepth := 4) [results, Tryd.results6, go_sem, *]) rfl ?_
      exact ⟨rfl, by (repeat (first | with_reducible assumption | with_reducible exact Below.refl _ _ | with_reducible refine Below.drew ?_ | with_reducible refine below_drewN ?_ _ | with_reducible refine bw_alloc ?_ _ | (with_reducible refine bw_set ?_ ?_ _; focus (dsimp only; omega)) | (with_reducible apply bw_behind; with_reducible assumption)))⟩

theorem find_any (n : Nat) (h0 : 0 < n) (hn : n ≤ 274877906944) : ∃ l x, Shape n l x ∧ ∀ (rb rt : Nat) (v : Value) (L : List Rg) (w : World), Asc L → rb ≤ 274877906944 → L.length ≤ 1000 → Lst w v L →
    Calls Tryd.prog 6 #[.agg #[.int .u64 (rb : Int), .int .u64 (rt : Int), v], .int .u64 (n : Int)] w (Makes (findV l (lowF l x (up rb x) (wallsF L rt))) w) := by
  obtain ⟨l, x, hs, hc⟩ := shape_any n h0 hn
  refine ⟨l, x, hs, fun rb rt v L w hA hrb hL h => ?_⟩
  have cl := fun W hW => low_any rb rt l x v L hA hrb hs.pos hs.le hs.x48 hL W hW
  obtain ⟨sa, m, c, rfl, _⟩ := lst_one h
  generalize lowF l x (up rb x) (wallsF L rt) = R at *
  cases R with
  | none => exact find_of (rb : Int) (rt : Int) (n : Int) (l : Int) (x : Int) 0 0 false m c sa L w h (by omega) (by omega) hc cl
  | some p => exact find_of (rb : Int) (rt : Int) (n : Int) (l : Int) (x : Int) (p : Int) ((p + l : Nat) : Int) true m c sa L w h (by omega) (by omega) hc cl
end Go.Proofs.YtnepnckiciapfaaDoor
