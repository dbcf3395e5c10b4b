/-
  At.
-/
import Derived.Test.YtnepnckiciapfaaRgnUp
import Derived.Test.YtnepnckiciapfaaRgnIndex
namespace Go.Proofs.Ytnepnckiciapfaa
open Go.RowKit RgnMath

set_option maxHeartbeats 4000000 in
theorem at_none (RB RT A I : Int) (i n c : Nat) (sa : Option Addr) (L : List Rg) (w : World) (h : Lst w (.slice sa n c) L) (hn : n = L.length) (hI : I = (i : Int)) (hL : L[i]? = none) (hi : i ≤ L.length)
    (ca : ∀ W, Lst W (.slice sa n c) L → Calls Try.prog 17 #[.agg #[.int .u64 RB, .int .u64 RT, .slice sa n c], .int .u64 A] W (Makes (.int .i64 I) W)) :
    Calls Try.prog 11 #[.agg #[.int .u64 RB, .int .u64 RT, .slice sa n c], .int .u64 A] w (Makes (.tuple #[.agg #[.int .u64 0, .int .u64 0, .int .i64 0], .bool false]) w) := by
  have C1 := hide ca
  have H := hide h
  have HN := hide hn
  have HI := hide hI
  clear ca hn hI
  have SS := cell_same
  go_enter Try.func11, Try.ntmps11
  go_upto_region 1 with fail
  refine wp_abs (fun W => W.cell? ⟨w.heap.size, 0, none⟩ = some (.int .u64 RB) ∧ W.cell? ⟨w.heap.size, 1, none⟩ = some (.int .u64 RT) ∧ W.cell? ⟨w.heap.size, 2, none⟩ = some (.slice sa n c) ∧ Own W (w.heap.size + 1) 3 ∧ Lst W (.slice sa n c) L ∧ Below w.heap.size w W) ⟨by simp [go_sem], by simp [go_sem], by simp [go_sem], o_new (by simp) (by simp), lst_al _ (lst_al _ H.out), bw_alloc (bw_alloc (Below.refl _ _) _) _⟩ ?_
  rintro wa ⟨m0, m1, m2, oR, hl, hB0⟩
  go_upto_region 2 with (go_at_call 17; (with_reducible refine (C1.out _ ?_).mono ?_); (focus (with_reducible assumption)); rintro e w1 ⟨rfl, hb1⟩)
  refine wp_abs (fun W => W.cell? ⟨w.heap.size, 0, none⟩ = some (.int .u64 RB) ∧ W.cell? ⟨w.heap.size, 1, none⟩ = some (.int .u64 RT) ∧ W.cell? ⟨w.heap.size, 2, none⟩ = some (.slice sa n c) ∧ Own W (w.heap.size + 1) 3 ∧ Lst W (.slice sa n c) L ∧ Below w.heap.size w W) ⟨c_be hb1 m0, c_be hb1 m1, c_be hb1 m2, o_be hb1 oR, lst_be hb1 hl, bw_behind hb1 hB0⟩ ?_
  clear m0 m1 m2 oR hl hB0 hb1
  rintro w0 ⟨m0, m1, m2, oR, hl, hB0⟩
  have r0 := oR.free 0 (by omega)
  have r1 := oR.free 1 (by omega)
  have r2 := oR.free 2 (by omega)
  obtain ⟨q0, t0⟩ := oR.val 0 (by omega)
  obtain ⟨q1, t1⟩ := oR.val 1 (by omega)
  obtain ⟨q2, t2⟩ := oR.val 2 (by omega)
  clear oR
  have hin : I = (n : Int) := by
    have h5 : L.length ≤ i := List.getElem?_eq_none_iff.1 hL
    have h12 := HN.out
    have h13 := HI.out
    omega
  clear HI
  subst hin
  go_wp2_with fail
  refine bodyPost_ret (v := .tuple #[.agg #[.int .u64 0, .int .u64 0, .int .i64 0], .bool false]) (by simp (maxDischargeDepth := 4) [results, Try.results11, go_sem, *]) rfl ?_
  exact ⟨rfl, by (repeat (first | with_reducible assumption | with_reducible exact Below.refl _ _ | with_reducible refine Below.drew ?_ | with_reducible refine below_drewN ?_ _ | with_reducible refine bw_alloc ?_ _ | (with_reducible refine bw_set ?_ ?_ _; focus (dsimp only; omega)) | (with_reducible apply bw_behind; with_reducible assumption)))⟩

set_option maxHeartbeats 4000000 in
theorem at_low (RB RT A I : Int) (i n c : Nat) (sa : Option Addr) (L : List Rg) (w : World) (h : Lst w (.slice sa n c) L) (hn : n = L.length) (hI : I = (i : Int)) (r : Rg) (hL : L[i]? = some r) (ha : A < (r.b : Int))
    (ca : ∀ W, Lst W (.slice sa n c) L → Calls Try.prog 17 #[.agg #[.int .u64 RB, .int .u64 RT, .slice sa n c], .int .u64 A] W (Makes (.int .i64 I) W)) :
    Calls Try.prog 11 #[.agg #[.int .u64 RB, .int .u64 RT, .slice sa n c], .int .u64 A] w (Makes (.tuple #[.agg #[.int .u64 0, .int .u64 0, .int .i64 0], .bool false]) w) := by
  have C1 := hide ca
  have H := hide h
  have HN := hide hn
  have HI := hide hI
  clear ca hn hI
  have SS := cell_same
  go_enter Try.func11, Try.ntmps11
  go_upto_region 1 with fail
  refine wp_abs (fun W => W.cell? ⟨w.heap.size, 0, none⟩ = some (.int .u64 RB) ∧ W.cell? ⟨w.heap.size, 1, none⟩ = some (.int .u64 RT) ∧ W.cell? ⟨w.heap.size, 2, none⟩ = some (.slice sa n c) ∧ Own W (w.heap.size + 1) 3 ∧ Lst W (.slice sa n c) L ∧ Below w.heap.size w W) ⟨by simp [go_sem], by simp [go_sem], by simp [go_sem], o_new (by simp) (by simp), lst_al _ (lst_al _ H.out), bw_alloc (bw_alloc (Below.refl _ _) _) _⟩ ?_
  rintro wa ⟨m0, m1, m2, oR, hl, hB0⟩
  go_upto_region 2 with (go_at_call 17; (with_reducible refine (C1.out _ ?_).mono ?_); (focus (with_reducible assumption)); rintro e w1 ⟨rfl, hb1⟩)
  refine wp_abs (fun W => W.cell? ⟨w.heap.size, 0, none⟩ = some (.int .u64 RB) ∧ W.cell? ⟨w.heap.size, 1, none⟩ = some (.int .u64 RT) ∧ W.cell? ⟨w.heap.size, 2, none⟩ = some (.slice sa n c) ∧ Own W (w.heap.size + 1) 3 ∧ Lst W (.slice sa n c) L ∧ Below w.heap.size w W) ⟨c_be hb1 m0, c_be hb1 m1, c_be hb1 m2, o_be hb1 oR, lst_be hb1 hl, bw_behind hb1 hB0⟩ ?_
  clear m0 m1 m2 oR hl hB0 hb1
  rintro w0 ⟨m0, m1, m2, oR, hl, hB0⟩
  have r0 := oR.free 0 (by omega)
  have r1 := oR.free 1 (by omega)
  have r2 := oR.free 2 (by omega)
  obtain ⟨q0, t0⟩ := oR.val 0 (by omega)
  obtain ⟨q1, t1⟩ := oR.val 1 (by omega)
  obtain ⟨q2, t2⟩ := oR.val 2 (by omega)
  clear oR
  rcases hl with ⟨_, h3⟩ | ⟨g, c2, h3, h4, h5, h6, h7⟩
  · rw [h3] at hL
    simp at hL
  injection h3 with h8 h9 h10
  subst h8 h10
  obtain ⟨d0, d1, d2⟩ := row_at h7 hL
  have h11 : i < L.length := (List.getElem?_eq_some_iff.1 hL).1
  have h12 := HN.out
  have h13 := HI.out
  have hin : I < (n : Int) := by omega
  have hne : (I == (n : Int)) = false := by simp; omega
  have htn : I.toNat = i := by omega
  have hI2 : 0 ≤ I := by omega
  have hci : ¬ (c = i) := by omega
  have hcn : (n : Int) ≤ (c : Int) := by omega
  clear h7 h9 h4 h11 h12 h13
  generalize (r.b : Int) = RB2 at *
  generalize (r.t : Int) = RT2 at *
  generalize (r.k : Int) = RK2 at *
  go_wp2_with fail
  refine bodyPost_ret (v := .tuple #[.agg #[.int .u64 0, .int .u64 0, .int .i64 0], .bool false]) (by simp (maxDischargeDepth := 4) [results, Try.results11, go_sem, *]) rfl ?_
  exact ⟨rfl, by (repeat (first | with_reducible assumption | with_reducible exact Below.refl _ _ | with_reducible refine Below.drew ?_ | with_reducible refine below_drewN ?_ _ | with_reducible refine bw_alloc ?_ _ | (with_reducible refine bw_set ?_ ?_ _; focus (dsimp only; omega)) | (with_reducible apply bw_behind; with_reducible assumption)))⟩

set_option maxHeartbeats 4000000 in
theorem at_hit (RB RT A I : Int) (i n c : Nat) (sa : Option Addr) (L : List Rg) (w : World) (h : Lst w (.slice sa n c) L) (hn : n = L.length) (hI : I = (i : Int)) (r : Rg) (hL : L[i]? = some r) (ha : ¬ A < (r.b : Int))
    (ca : ∀ W, Lst W (.slice sa n c) L → Calls Try.prog 17 #[.agg #[.int .u64 RB, .int .u64 RT, .slice sa n c], .int .u64 A] W (Makes (.int .i64 I) W)) :
    Calls Try.prog 11 #[.agg #[.int .u64 RB, .int .u64 RT, .slice sa n c], .int .u64 A] w (Makes (.tuple #[.agg #[.int .u64 (r.b : Int), .int .u64 (r.t : Int), .int .i64 (r.k : Int)], .bool true]) w) := by
  have C1 := hide ca
  have H := hide h
  have HN := hide hn
  have HI := hide hI
  clear ca hn hI
  have SS := cell_same
  go_enter Try.func11, Try.ntmps11
  go_upto_region 1 with fail
  refine wp_abs (fun W => W.cell? ⟨w.heap.size, 0, none⟩ = some (.int .u64 RB) ∧ W.cell? ⟨w.heap.size, 1, none⟩ = some (.int .u64 RT) ∧ W.cell? ⟨w.heap.size, 2, none⟩ = some (.slice sa n c) ∧ Own W (w.heap.size + 1) 3 ∧ Lst W (.slice sa n c) L ∧ Below w.heap.size w W) ⟨by simp [go_sem], by simp [go_sem], by simp [go_sem], o_new (by simp) (by simp), lst_al _ (lst_al _ H.out), bw_alloc (bw_alloc (Below.refl _ _) _) _⟩ ?_
  rintro wa ⟨m0, m1, m2, oR, hl, hB0⟩
  go_upto_region 2 with (go_at_call 17; (with_reducible refine (C1.out _ ?_).mono ?_); (focus (with_reducible assumption)); rintro e w1 ⟨rfl, hb1⟩)
  refine wp_abs (fun W => W.cell? ⟨w.heap.size, 0, none⟩ = some (.int .u64 RB) ∧ W.cell? ⟨w.heap.size, 1, none⟩ = some (.int .u64 RT) ∧ W.cell? ⟨w.heap.size, 2, none⟩ = some (.slice sa n c) ∧ Own W (w.heap.size + 1) 3 ∧ Lst W (.slice sa n c) L ∧ Below w.heap.size w W) ⟨c_be hb1 m0, c_be hb1 m1, c_be hb1 m2, o_be hb1 oR, lst_be hb1 hl, bw_behind hb1 hB0⟩ ?_
  clear m0 m1 m2 oR hl hB0 hb1
  rintro w0 ⟨m0, m1, m2, oR, hl, hB0⟩
  have r0 := oR.free 0 (by omega)
  have r1 := oR.free 1 (by omega)
  have r2 := oR.free 2 (by omega)
  obtain ⟨q0, t0⟩ := oR.val 0 (by omega)
  obtain ⟨q1, t1⟩ := oR.val 1 (by omega)
  obtain ⟨q2, t2⟩ := oR.val 2 (by omega)
  clear oR
  rcases hl with ⟨_, h3⟩ | ⟨g, c2, h3, h4, h5, h6, h7⟩
  · rw [h3] at hL
    simp at hL
  injection h3 with h8 h9 h10
  subst h8 h10
  obtain ⟨d0, d1, d2⟩ := row_at h7 hL
  have h11 : i < L.length := (List.getElem?_eq_some_iff.1 hL).1
  have h12 := HN.out
  have h13 := HI.out
  have hin : I < (n : Int) := by omega
  have hne : (I == (n : Int)) = false := by simp; omega
  have htn : I.toNat = i := by omega
  have hI2 : 0 ≤ I := by omega
  have hci : ¬ (c = i) := by omega
  have hcn : (n : Int) ≤ (c : Int) := by omega
  clear h7 h9 h4 h11 h12 h13
  generalize (r.b : Int) = RB2 at *
  generalize (r.t : Int) = RT2 at *
  generalize (r.k : Int) = RK2 at *
  go_wp2_with fail
  refine bodyPost_ret (v := .tuple #[.agg #[.int .u64 RB2, .int .u64 RT2, .int .i64 RK2], .bool true]) (by simp (maxDischargeDepth := 4) [results, Try.results11, go_sem, *]) rfl ?_
  exact ⟨rfl, by (repeat (first | with_reducible assumption | with_reducible exact Below.refl _ _ | with_reducible refine Below.drew ?_ | with_reducible refine below_drewN ?_ _ | with_reducible refine bw_alloc ?_ _ | (with_reducible refine bw_set ?_ ?_ _; focus (dsimp only; omega)) | (with_reducible apply bw_behind; with_reducible assumption)))⟩

def atV (L : List Rg) (a : Nat) : Value := match L[aboveF L a]? with
  | some r => if a < r.b then .tuple #[.agg #[.int .u64 0, .int .u64 0, .int .i64 0], .bool false] else .tuple #[.agg #[.int .u64 (r.b : Int), .int .u64 (r.t : Int), .int .i64 (r.k : Int)], .bool true]
  | none => .tuple #[.agg #[.int .u64 0, .int .u64 0, .int .i64 0], .bool false]
theorem at_any (rb rt a : Nat) (v : Value) (L : List Rg) (hA : Asc L) (hn : L.length ≤ 1000) (w : World) (h : Lst w v L) :
    Calls Try.prog 11 #[.agg #[.int .u64 (rb : Int), .int .u64 (rt : Int), v], .int .u64 (a : Int)] w (Makes (atV L a) w) := by
  have ca := fun W hW => above_any rb rt a v L hA hn W hW
  obtain ⟨sa, n, c, rfl, hl⟩ := lst_one h
  unfold atV
  cases hL : L[aboveF L a]? with
  | none => exact at_none _ _ _ _ (aboveF L a) n c sa L w h hl rfl hL (above_le L a) ca
  | some r =>
    dsimp only
    split
    · exact at_low _ _ _ _ (aboveF L a) n c sa L w h hl rfl r hL (by omega) ca
    · exact at_hit _ _ _ _ (aboveF L a) n c sa L w h hl rfl r hL (by omega) ca
end Go.Proofs.Ytnepnckiciapfaa
