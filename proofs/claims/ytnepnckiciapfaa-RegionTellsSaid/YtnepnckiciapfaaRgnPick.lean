/-
  The span of a step: of a reservation that is picked, or its own.
-/
import Derived.Test.YtnepnckiciapfaaRgnClone
import Derived.Test.YtnepnckiciapfaaTail2
import Derived.Deep.DeepCutAuto
namespace Go.Proofs.Ytnepnckiciapfaa
open Go.RowKit RgnMath

set_option maxHeartbeats 4000000 in
theorem pick_own (RB RT K P N S1 S2 : Int) (n c : Nat) (sa : Option Addr) (L : List Rg) (w : World) (hn1 : L.length ≤ 1000) (h : Lst w (.slice sa n c) L) (hP : P < 0 ∨ L = []) :
    Calls Try.prog 5 #[.agg #[.int .u64 RB, .int .u64 RT, .slice sa n c], .agg #[.int .i64 K, .int .i64 P, .int .u64 N, .int .u64 S1, .int .u64 S2]] w (Makes (.agg #[.int .u64 S1, .int .u64 S2]) w) := by
  have C1 : Hid (∀ W, Lst W (.slice sa n c) L → Calls Try.prog 10 #[.agg #[.int .u64 RB, .int .u64 RT, .slice sa n c]] W fun e w' => ∃ v', e = .returned v' ∧ Lst w' v' L ∧ Below W.heap.size W w') := hide (fun W hW => all_any RB RT _ L W hn1 hW)
  have H := hide h
  clear h hn1
  have SS := cell_same
  go_enter Try.func5, Try.ntmps5
  go_upto_region 1 with fail
  refine wp_abs (fun W => W.cell? ⟨w.heap.size, 0, none⟩ = some (.int .u64 RB) ∧ W.cell? ⟨w.heap.size, 1, none⟩ = some (.int .u64 RT) ∧ W.cell? ⟨w.heap.size, 2, none⟩ = some (.slice sa n c) ∧ W.cell? ⟨w.heap.size + 1, 1, none⟩ = some (.int .i64 P) ∧ W.cell? ⟨w.heap.size + 1, 3, none⟩ = some (.int .u64 S1) ∧ W.cell? ⟨w.heap.size + 1, 4, none⟩ = some (.int .u64 S2) ∧ Own W (w.heap.size + 1 + 1) 2 ∧ Lst W (.slice sa n c) L ∧ Below w.heap.size w W) ⟨by simp [go_sem], by simp [go_sem], by simp [go_sem], by simp [go_sem], by simp [go_sem], by simp [go_sem], o_new (by simp) (by simp), lst_al _ (lst_al _ (lst_al _ H.out)), bw_alloc (bw_alloc (bw_alloc (Below.refl _ _) _) _) _⟩ ?_
  rintro wa ⟨m0, m1, m2, a1, a3, a4, oR, hl, hB0⟩
  go_upto_region 2 with (go_at_call 10; (with_reducible refine (C1.out _ ?_).mono ?_); (focus (with_reducible assumption)); rintro e w1 ⟨v1, rfl, hl1, hb1⟩; obtain ⟨s1, n1, c1, rfl, hn1⟩ := lst_one hl1)
  have x1 := c_be hb1 a1
  have x3 := c_be hb1 a3
  have x4 := c_be hb1 a4
  have oR1 := o_be hb1 oR
  have hB1 : Below w.heap.size w w1 := bw_behind hb1 hB0
  have r0 := oR1.free 0 (by omega)
  have r1 := oR1.free 1 (by omega)
  obtain ⟨q0, t0⟩ := oR1.val 0 (by omega)
  obtain ⟨q1, t1⟩ := oR1.val 1 (by omega)
  clear oR oR1 m0 m1 m2 a1 a3 a4 hl hB0 hb1
  by_cases hP0 : P < 0
  · clear hP hn1 hl1
    go_wp2_with fail
    refine bodyPost_ret (v := .agg #[.int .u64 S1, .int .u64 S2]) (by simp (maxDischargeDepth := 4) [results, Try.results5, go_sem, *]) rfl ?_
    exact ⟨rfl, by repeat (first | with_reducible assumption | with_reducible exact Below.refl _ _ | with_reducible refine Below.drew ?_ | with_reducible refine below_drewN ?_ _ | with_reducible refine bw_alloc ?_ _ | (with_reducible refine bw_set ?_ ?_ _; focus (dsimp only; omega)) | (with_reducible apply bw_behind; with_reducible assumption))⟩
  · have hL : L = [] := hP.resolve_left hP0
    rw [hL] at hn1
    have hn2 : n1 = 0 := hn1
    subst hn2
    clear hP hn1 hl1
    go_wp2_with fail
    refine bodyPost_ret (v := .agg #[.int .u64 S1, .int .u64 S2]) (by simp (maxDischargeDepth := 4) [results, Try.results5, go_sem, *]) rfl ?_
    exact ⟨rfl, by repeat (first | with_reducible assumption | with_reducible exact Below.refl _ _ | with_reducible refine Below.drew ?_ | with_reducible refine below_drewN ?_ _ | with_reducible refine bw_alloc ?_ _ | (with_reducible refine bw_set ?_ ?_ _; focus (dsimp only; omega)) | (with_reducible apply bw_behind; with_reducible assumption))⟩

set_option maxHeartbeats 4000000 in
theorem pick_at (RB RT K P N S1 S2 : Int) (n c : Nat) (sa : Option Addr) (L : List Rg) (w : World) (hn1 : L.length ≤ 1000) (h : Lst w (.slice sa n c) L) (i : Nat) (r : Rg) (hP : 0 ≤ P) (hi : P.tmod (L.length : Int) = (i : Int)) (hr : L[i]? = some r) :
    Calls Try.prog 5 #[.agg #[.int .u64 RB, .int .u64 RT, .slice sa n c], .agg #[.int .i64 K, .int .i64 P, .int .u64 N, .int .u64 S1, .int .u64 S2]] w (Makes (.agg #[.int .u64 (r.b : Int), .int .u64 (r.t : Int)]) w) := by
  have C1 : Hid (∀ W, Lst W (.slice sa n c) L → Calls Try.prog 10 #[.agg #[.int .u64 RB, .int .u64 RT, .slice sa n c]] W fun e w' => ∃ v', e = .returned v' ∧ Lst w' v' L ∧ Below W.heap.size W w') := hide (fun W hW => all_any RB RT _ L W hn1 hW)
  have H := hide h
  clear h hn1
  have SS := cell_same
  go_enter Try.func5, Try.ntmps5
  go_upto_region 1 with fail
  refine wp_abs (fun W => W.cell? ⟨w.heap.size, 0, none⟩ = some (.int .u64 RB) ∧ W.cell? ⟨w.heap.size, 1, none⟩ = some (.int .u64 RT) ∧ W.cell? ⟨w.heap.size, 2, none⟩ = some (.slice sa n c) ∧ W.cell? ⟨w.heap.size + 1, 1, none⟩ = some (.int .i64 P) ∧ W.cell? ⟨w.heap.size + 1, 3, none⟩ = some (.int .u64 S1) ∧ W.cell? ⟨w.heap.size + 1, 4, none⟩ = some (.int .u64 S2) ∧ Own W (w.heap.size + 1 + 1) 2 ∧ Lst W (.slice sa n c) L ∧ Below w.heap.size w W) ⟨by simp [go_sem], by simp [go_sem], by simp [go_sem], by simp [go_sem], by simp [go_sem], by simp [go_sem], o_new (by simp) (by simp), lst_al _ (lst_al _ (lst_al _ H.out)), bw_alloc (bw_alloc (bw_alloc (Below.refl _ _) _) _) _⟩ ?_
  rintro wa ⟨m0, m1, m2, a1, a3, a4, oR, hl, hB0⟩
  go_upto_region 2 with (go_at_call 10; (with_reducible refine (C1.out _ ?_).mono ?_); (focus (with_reducible assumption)); rintro e w1 ⟨v1, rfl, hl1, hb1⟩; obtain ⟨s1, n1, c1, rfl, hn1⟩ := lst_one hl1)
  have x1 := c_be hb1 a1
  have x3 := c_be hb1 a3
  have x4 := c_be hb1 a4
  have oR1 := o_be hb1 oR
  have hB1 : Below w.heap.size w w1 := bw_behind hb1 hB0
  have r0 := oR1.free 0 (by omega)
  have r1 := oR1.free 1 (by omega)
  obtain ⟨q0, t0⟩ := oR1.val 0 (by omega)
  obtain ⟨q1, t1⟩ := oR1.val 1 (by omega)
  clear oR oR1 m0 m1 m2 a1 a3 a4 hl hB0 hb1
  rcases hl1 with ⟨_, h3⟩ | ⟨g, c2, h3, h4, h5, h6, h7⟩
  · rw [h3] at hr
    simp at hr
  injection h3 with h8 h9 h10
  subst h8 h10
  obtain ⟨d0, d1, d2⟩ := row_at h7 hr
  have h11 : i < L.length := (List.getElem?_eq_some_iff.1 hr).1
  subst hn1
  have hi2 : P % (L.length : Int) = (i : Int) := by rw [← hi, Int.tmod_eq_emod_of_nonneg hP]
  clear h7 h9 hr
  generalize L.length = n1 at *
  have hP0 : ¬ P < 0 := by omega
  have hn0 : ((n1 : Int) == 0) = false := by simp; omega
  have hn00 : ¬ (n1 : Int) = 0 := by omega
  have hil : (i : Int) < (n1 : Int) := by omega
  have hci : ¬ (c1 = i) := by omega
  have hcn : (n1 : Int) ≤ (c1 : Int) := by omega
  clear h4 h11
  generalize (r.b : Int) = RB2 at *
  generalize (r.t : Int) = RT2 at *
  go_wp2_with fail
  refine bodyPost_ret (v := .agg #[.int .u64 RB2, .int .u64 RT2]) (by simp (maxDischargeDepth := 4) [results, Try.results5, go_sem, *]) rfl ?_
  exact ⟨rfl, by repeat (first | with_reducible assumption | with_reducible exact Below.refl _ _ | with_reducible refine Below.drew ?_ | with_reducible refine below_drewN ?_ _ | with_reducible refine bw_alloc ?_ _ | (with_reducible refine bw_set ?_ ?_ _; focus (dsimp only; omega)) | (with_reducible apply bw_behind; with_reducible assumption))⟩

theorem pick_any (rb rt N S1 S2 : Nat) (K P : Int) (v : Value) (L : List Rg) (hn : L.length ≤ 1000) (w : World) (h : Lst w v L) :
    ∃ b t : Nat, Calls Try.prog 5 #[.agg #[.int .u64 (rb : Int), .int .u64 (rt : Int), v], .agg #[.int .i64 K, .int .i64 P, .int .u64 (N : Int), .int .u64 (S1 : Int), .int .u64 (S2 : Int)]] w (Makes (.agg #[.int .u64 (b : Int), .int .u64 (t : Int)]) w) := by
  obtain ⟨sa, n, c, rfl, _⟩ := lst_one h
  by_cases hP : P < 0 ∨ L = []
  · exact ⟨S1, S2, pick_own _ _ _ _ _ _ _ n c sa L w hn h hP⟩
  · have hP0 : 0 ≤ P := by omega
    have hl : L.length ≠ 0 := fun e => hP (.inr (List.length_eq_zero_iff.1 e))
    obtain ⟨p, rfl⟩ : ∃ p : Nat, P = (p : Int) := ⟨P.toNat, by omega⟩
    have hm : p % L.length < L.length := Nat.mod_lt _ (by omega)
    obtain ⟨r, hr⟩ : ∃ r, L[p % L.length]? = some r := ⟨L[p % L.length], by simp [hm]⟩
    refine ⟨r.b, r.t, pick_at _ _ _ _ _ _ _ n c sa L w hn h (p % L.length) r hP0 ?_ hr⟩
    rw [Int.tmod_eq_emod_of_nonneg (by omega)]
    omega
end Go.Proofs.Ytnepnckiciapfaa
