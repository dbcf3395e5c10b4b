/-
  Hold and Drop.
-/
import Derived.Test.YtnepnckiciapfaaDoorRgnDel
import Derived.Test.YtnepnckiciapfaaDoorRgnIndex
namespace Go.Proofs.YtnepnckiciapfaaDoor
open Go.RowKit RgnMath

theorem cells_set (L : List Rg) (i : Nat) (r : Rg) (h : L[i]? = some r) : cellsL (holdF L i r) = (cellsL L).set (i * 3 + 2) (.int .i64 2) := by
  unfold holdF
  induction L generalizing i with
  | nil => simp at h
  | cons x L ih =>
    match i, h with
    | 0, h =>
      simp at h
      subst h
      rfl
    | i + 1, h =>
      rw [List.set_cons_succ, cells_cons, cells_cons, ih i (by simpa using h)]
      rw [show (i + 1) * 3 + 2 = (i * 3 + 2) + 3 by omega, List.set_append_right _ _ (by show 3 ≤ _; omega)]
      rfl

set_option maxHeartbeats 4000000 in
theorem hold_none (RB RT B T : Int) (n c : Nat) (sa : Option Addr) (L : List Rg) (w : World) (h : Lst w (.slice sa n c) L)
    (ci : ∀ W, Lst W (.slice sa n c) L → Calls Tryd.prog 22 #[.slice sa n c, .agg #[.int .u64 B, .int .u64 T, .int .i64 1]] W (Makes (.int .i64 (-1)) W)) :
    Calls Tryd.prog 10 #[.agg #[.int .u64 RB, .int .u64 RT, .slice sa n c], .agg #[.int .u64 B, .int .u64 T]] w (Makes (.tuple #[.agg #[.int .u64 RB, .int .u64 RT, .slice sa n c], .int .i64 13]) w) := by
  have C1 := hide ci
  have H := hide h
  clear ci h
  have SS := cell_same
  go_enter Tryd.func10, Tryd.ntmps10
  go_upto_region 1 with fail
  refine wp_abs (fun W => W.cell? ⟨w.heap.size, 0, none⟩ = some (.int .u64 RB) ∧ W.cell? ⟨w.heap.size, 1, none⟩ = some (.int .u64 RT) ∧ W.cell? ⟨w.heap.size, 2, none⟩ = some (.slice sa n c) ∧ W.cell? ⟨w.heap.size + 1, 0, none⟩ = some (.int .u64 B) ∧ W.cell? ⟨w.heap.size + 1, 1, none⟩ = some (.int .u64 T) ∧ Own W (w.heap.size) 3 ∧ Own W (w.heap.size + 1 + 1) 3 ∧ Lst W (.slice sa n c) L ∧ w.heap.size + 3 ≤ W.heap.size ∧ Below w.heap.size w W) ⟨by simp [go_sem], by simp [go_sem], by simp [go_sem], by simp [go_sem], by simp [go_sem], o_al _ (o_al _ (o_new rfl (by simp))), o_new (by simp) (by simp), lst_al _ (lst_al _ (lst_al _ H.out)), by simp, bw_alloc (bw_alloc (bw_alloc (Below.refl _ _) _) _) _⟩ ?_
  rintro wa ⟨m0, m1, m2, p0, p1, oM, oR, hl, hz, hB0⟩
  go_upto_region 2 with (go_at_call 22; (with_reducible refine (C1.out _ ?_).mono ?_); (focus (with_reducible assumption)); rintro e w1 ⟨rfl, hb1⟩)
  refine wp_abs (fun W => W.cell? ⟨w.heap.size, 0, none⟩ = some (.int .u64 RB) ∧ W.cell? ⟨w.heap.size, 1, none⟩ = some (.int .u64 RT) ∧ W.cell? ⟨w.heap.size, 2, none⟩ = some (.slice sa n c) ∧ W.cell? ⟨w.heap.size + 1, 0, none⟩ = some (.int .u64 B) ∧ W.cell? ⟨w.heap.size + 1, 1, none⟩ = some (.int .u64 T) ∧ Own W (w.heap.size) 3 ∧ Own W (w.heap.size + 1 + 1) 3 ∧ Lst W (.slice sa n c) L ∧ w.heap.size + 3 ≤ W.heap.size ∧ Below w.heap.size w W) ⟨c_be hb1 m0, c_be hb1 m1, c_be hb1 m2, c_be hb1 p0, c_be hb1 p1, o_be hb1 oM, o_be hb1 oR, lst_be hb1 hl, by have := hb1.size; omega, bw_behind hb1 hB0⟩ ?_
  clear m0 m1 m2 p0 p1 oM oR hl hz hB0 hb1
  rintro w0 ⟨m0, m1, m2, p0, p1, oM, oR, hl, hz, hB0⟩
  have hlt : (-1 : Int) < 0 := by decide
  have r0 := oR.free 0 (by omega)
  have r1 := oR.free 1 (by omega)
  have r2 := oR.free 2 (by omega)
  obtain ⟨q0, t0⟩ := oR.val 0 (by omega)
  obtain ⟨q1, t1⟩ := oR.val 1 (by omega)
  obtain ⟨q2, t2⟩ := oR.val 2 (by omega)
  clear oR oM
  go_wp2_with fail
  refine bodyPost_ret (v := .tuple #[.agg #[.int .u64 RB, .int .u64 RT, .slice sa n c], .int .i64 13]) (by simp (maxDischargeDepth := 4) [results, Tryd.results10, go_sem, *]) rfl ?_
  exact ⟨rfl, by (repeat (first | with_reducible assumption | with_reducible exact Below.refl _ _ | with_reducible refine Below.drew ?_ | with_reducible refine below_drewN ?_ _ | with_reducible refine bw_alloc ?_ _ | (with_reducible refine bw_set ?_ ?_ _; focus (dsimp only; omega)) | (with_reducible apply bw_behind; with_reducible assumption)))⟩

set_option maxHeartbeats 4000000 in
theorem drop_none (RB RT B T : Int) (n c : Nat) (sa : Option Addr) (L : List Rg) (w : World) (h : Lst w (.slice sa n c) L)
    (ci : ∀ W, Lst W (.slice sa n c) L → Calls Tryd.prog 22 #[.slice sa n c, .agg #[.int .u64 B, .int .u64 T, .int .i64 2]] W (Makes (.int .i64 (-1)) W)) :
    Calls Tryd.prog 11 #[.agg #[.int .u64 RB, .int .u64 RT, .slice sa n c], .agg #[.int .u64 B, .int .u64 T]] w (Makes (.tuple #[.agg #[.int .u64 RB, .int .u64 RT, .slice sa n c], .int .i64 13]) w) := by
  have C1 := hide ci
  have H := hide h
  clear ci h
  have SS := cell_same
  go_enter Tryd.func11, Tryd.ntmps11
  go_upto_region 1 with fail
  refine wp_abs (fun W => W.cell? ⟨w.heap.size, 0, none⟩ = some (.int .u64 RB) ∧ W.cell? ⟨w.heap.size, 1, none⟩ = some (.int .u64 RT) ∧ W.cell? ⟨w.heap.size, 2, none⟩ = some (.slice sa n c) ∧ W.cell? ⟨w.heap.size + 1, 0, none⟩ = some (.int .u64 B) ∧ W.cell? ⟨w.heap.size + 1, 1, none⟩ = some (.int .u64 T) ∧ Own W (w.heap.size) 3 ∧ Own W (w.heap.size + 1 + 1) 3 ∧ Lst W (.slice sa n c) L ∧ w.heap.size + 3 ≤ W.heap.size ∧ Below w.heap.size w W) ⟨by simp [go_sem], by simp [go_sem], by simp [go_sem], by simp [go_sem], by simp [go_sem], o_al _ (o_al _ (o_new rfl (by simp))), o_new (by simp) (by simp), lst_al _ (lst_al _ (lst_al _ H.out)), by simp, bw_alloc (bw_alloc (bw_alloc (Below.refl _ _) _) _) _⟩ ?_
  rintro wa ⟨m0, m1, m2, p0, p1, oM, oR, hl, hz, hB0⟩
  go_upto_region 2 with (go_at_call 22; (with_reducible refine (C1.out _ ?_).mono ?_); (focus (with_reducible assumption)); rintro e w1 ⟨rfl, hb1⟩)
  refine wp_abs (fun W => W.cell? ⟨w.heap.size, 0, none⟩ = some (.int .u64 RB) ∧ W.cell? ⟨w.heap.size, 1, none⟩ = some (.int .u64 RT) ∧ W.cell? ⟨w.heap.size, 2, none⟩ = some (.slice sa n c) ∧ W.cell? ⟨w.heap.size + 1, 0, none⟩ = some (.int .u64 B) ∧ W.cell? ⟨w.heap.size + 1, 1, none⟩ = some (.int .u64 T) ∧ Own W (w.heap.size) 3 ∧ Own W (w.heap.size + 1 + 1) 3 ∧ Lst W (.slice sa n c) L ∧ w.heap.size + 3 ≤ W.heap.size ∧ Below w.heap.size w W) ⟨c_be hb1 m0, c_be hb1 m1, c_be hb1 m2, c_be hb1 p0, c_be hb1 p1, o_be hb1 oM, o_be hb1 oR, lst_be hb1 hl, by have := hb1.size; omega, bw_behind hb1 hB0⟩ ?_
  clear m0 m1 m2 p0 p1 oM oR hl hz hB0 hb1
  rintro w0 ⟨m0, m1, m2, p0, p1, oM, oR, hl, hz, hB0⟩
  have hlt : (-1 : Int) < 0 := by decide
  have r0 := oR.free 0 (by omega)
  have r1 := oR.free 1 (by omega)
  have r2 := oR.free 2 (by omega)
  obtain ⟨q0, t0⟩ := oR.val 0 (by omega)
  obtain ⟨q1, t1⟩ := oR.val 1 (by omega)
  obtain ⟨q2, t2⟩ := oR.val 2 (by omega)
  clear oR oM
  go_wp2_with fail
  refine bodyPost_ret (v := .tuple #[.agg #[.int .u64 RB, .int .u64 RT, .slice sa n c], .int .i64 13]) (by simp (maxDischargeDepth := 4) [results, Tryd.results11, go_sem, *]) rfl ?_
  exact ⟨rfl, by (repeat (first | with_reducible assumption | with_reducible exact Below.refl _ _ | with_reducible refine Below.drew ?_ | with_reducible refine below_drewN ?_ _ | with_reducible refine bw_alloc ?_ _ | (with_reducible refine bw_set ?_ ?_ _; focus (dsimp only; omega)) | (with_reducible apply bw_behind; with_reducible assumption)))⟩

set_option maxHeartbeats 8000000 in
theorem drop_of (RB RT B T I : Int) (i n c : Nat) (sa : Option Addr) (L : List Rg) (w : World) (h : Lst w (.slice sa n c) L) (hn : L.length ≤ 1000) (hi : i < L.length) (hI : I = (i : Int))
    (ci : ∀ W, Lst W (.slice sa n c) L → Calls Tryd.prog 22 #[.slice sa n c, .agg #[.int .u64 B, .int .u64 T, .int .i64 2]] W (Makes (.int .i64 I) W)) :
    Calls Tryd.prog 11 #[.agg #[.int .u64 RB, .int .u64 RT, .slice sa n c], .agg #[.int .u64 B, .int .u64 T]] w fun e w' => ∃ v', e = .returned (.tuple #[.agg #[.int .u64 RB, .int .u64 RT, v'], .int .i64 0]) ∧ Lst w' v' (dropF L i) ∧ Below w.heap.size w w' := by
  have C1 := hide ci
  have H := hide h
  have CC : Hid (∀ W, Lst W (.slice sa n c) L → Calls Tryd.prog 18 #[.slice sa n c] W fun e w' => ∃ v', e = .returned v' ∧ w'.ownsRow W.heap.size 41 3 v' L.length (cellsL L) ∧ Below W.heap.size W w') := hide (fun W hW => clone_any _ L W hn hW)
  have CD : Hid (∀ (base : Nat) (v : Value) W, W.ownsRow base 41 3 v L.length (cellsL L) → Calls Tryd.prog 23 #[v, .int .i64 I, .int .i64 (I + 1)] W fun e w' => ∃ v', e = .returned v' ∧ LstB base w' v' (dropF L i) ∧ Below base W w') := hide (fun base v W h1 => by
    rw [hI]
    exact del_any base i v L W hi hn h1)
  have hw1 : IntKind.i64.wrap (I + 1) = I + 1 := by rw [IntKind.wrap_i64]; omega
  have hI0 : ¬ I < 0 := by omega
  have hI2 : 0 ≤ I := by omega
  have hI3 : I ≤ 1000 := by omega
  clear ci h hI hi hn
  have SS := cell_same
  go_enter Tryd.func11, Tryd.ntmps11
  go_upto_region 1 with fail
  refine wp_abs (fun W => W.cell? ⟨w.heap.size, 0, none⟩ = some (.int .u64 RB) ∧ W.cell? ⟨w.heap.size, 1, none⟩ = some (.int .u64 RT) ∧ W.cell? ⟨w.heap.size, 2, none⟩ = some (.slice sa n c) ∧ W.cell? ⟨w.heap.size + 1, 0, none⟩ = some (.int .u64 B) ∧ W.cell? ⟨w.heap.size + 1, 1, none⟩ = some (.int .u64 T) ∧ Own W (w.heap.size) 3 ∧ Own W (w.heap.size + 1 + 1) 3 ∧ Lst W (.slice sa n c) L ∧ w.heap.size + 3 ≤ W.heap.size ∧ Below w.heap.size w W) ⟨by simp [go_sem], by simp [go_sem], by simp [go_sem], by simp [go_sem], by simp [go_sem], o_al _ (o_al _ (o_new rfl (by simp))), o_new (by simp) (by simp), lst_al _ (lst_al _ (lst_al _ H.out)), by simp, bw_alloc (bw_alloc (bw_alloc (Below.refl _ _) _) _) _⟩ ?_
  rintro wa ⟨m0, m1, m2, p0, p1, oM, oR, hl, hz, hB0⟩
  go_upto_region 2 with (go_at_call 22; (with_reducible refine (C1.out _ ?_).mono ?_); (focus (with_reducible assumption)); rintro e w1 ⟨rfl, hb1⟩)
  refine wp_abs (fun W => W.cell? ⟨w.heap.size, 0, none⟩ = some (.int .u64 RB) ∧ W.cell? ⟨w.heap.size, 1, none⟩ = some (.int .u64 RT) ∧ W.cell? ⟨w.heap.size, 2, none⟩ = some (.slice sa n c) ∧ W.cell? ⟨w.heap.size + 1, 0, none⟩ = some (.int .u64 B) ∧ W.cell? ⟨w.heap.size + 1, 1, none⟩ = some (.int .u64 T) ∧ Own W (w.heap.size) 3 ∧ Own W (w.heap.size + 1 + 1) 3 ∧ Lst W (.slice sa n c) L ∧ w.heap.size + 3 ≤ W.heap.size ∧ Below w.heap.size w W) ⟨c_be hb1 m0, c_be hb1 m1, c_be hb1 m2, c_be hb1 p0, c_be hb1 p1, o_be hb1 oM, o_be hb1 oR, lst_be hb1 hl, by have := hb1.size; omega, bw_behind hb1 hB0⟩ ?_
  clear m0 m1 m2 p0 p1 oM oR hl hz hB0 hb1
  rintro w0 ⟨m0, m1, m2, p0, p1, oM, oR, hl, hz, hB0⟩
  go_upto_region 4 with fail
  go_upto_region 5 with (first | (go_at_call 18; (with_reducible refine (CC.out _ ?_).mono ?_); (focus (with_reducible assumption)); rintro e w4 ⟨vc, rfl, ho4, hb4⟩; have xm0 := c_be hb4 m0; have xm1 := c_be hb4 m1; have xoM := o_be hb4 oM; have xoR := o_be hb4 oR) | (go_at_call 23; (with_reducible refine (CD.out _ _ _ ho4).mono ?_); rintro e w5 ⟨v5, rfl, hl5, hb5⟩; obtain ⟨sa5, n5, c5, rfl, _⟩ := lst_one hl5.1; have ym0 := c_low hb5 (by show w.heap.size < _; omega) xm0; have ym1 := c_low hb5 (by show w.heap.size < _; omega) xm1; have yoM := o_low hb5 (by omega) xoM; have yoR := o_low hb5 (by omega) xoR; have f2 := yoM.free 2 (by omega); obtain ⟨z2, e2⟩ := yoM.val 2 (by omega)))
  have oR := yoR
  have r0 := oR.free 0 (by omega)
  have r1 := oR.free 1 (by omega)
  have r2 := oR.free 2 (by omega)
  obtain ⟨q0, t0⟩ := oR.val 0 (by omega)
  obtain ⟨q1, t1⟩ := oR.val 1 (by omega)
  obtain ⟨q2, t2⟩ := oR.val 2 (by omega)
  have hB5 : Below w.heap.size w w5 := Below.trans (by (repeat (first | with_reducible assumption | with_reducible exact Below.refl _ _ | with_reducible refine Below.drew ?_ | with_reducible refine below_drewN ?_ _ | with_reducible refine bw_alloc ?_ _ | (with_reducible refine bw_set ?_ ?_ _; focus (dsimp only; omega)) | (with_reducible apply bw_behind; with_reducible assumption)))) (hb5.mono (by omega))
  clear yoM yoR xm0 xm1 xoM xoR ho4 hb4 hb5
  go_wp2_with fail
  refine bodyPost_ret (v := .tuple #[.agg #[.int .u64 RB, .int .u64 RT, .slice sa5 n5 c5], .int .i64 0]) (by simp (maxDischargeDepth := 4) [results, Tryd.results11, go_sem, *]) rfl ?_
  refine ⟨_, rfl, ?_, by (repeat (first | with_reducible assumption | with_reducible exact Below.refl _ _ | with_reducible refine Below.drew ?_ | with_reducible refine below_drewN ?_ _ | with_reducible refine bw_alloc ?_ _ | (with_reducible refine bw_set ?_ ?_ _; focus (dsimp only; omega)) | (with_reducible apply bw_behind; with_reducible assumption)))⟩
  repeat (first | exact hl5.1 | (refine lst_set ?_ (fun hk => by have h9 := hl5.2 _ hk; simp at h9; omega)))
theorem owns_form {W : World} {base n : Nat} {e : TypeId} {v : Value} {L : List Rg} (h : W.ownsRow base e 3 v n (cellsL L)) (hn : n ≠ 0) : ∃ g cap, v = .slice (some ⟨g, 0, none⟩) n cap ∧ n ≤ cap ∧ cap ≤ 9223372036854775807 ∧ base ≤ g ∧ g < W.heap.size ∧ Row W g (cellsL L) ∧ Own W g (n * 3) := by
  have h0 := h
  rcases h.2 with ⟨_, h2⟩ | ⟨g, cap, cur, rfl, h3, h4, h5, h6, h7, _⟩
  · exact absurd h2 hn
  · refine ⟨g, cap, rfl, h5, by unfold maxLen at h6; omega, h3, (h0.lt g rfl).2, fun j u hj => ?_, own_of_heap h4 (by rw [h7]; omega)⟩
    have := h0.cells (g := g) rfl j u hj
    rwa [add_at] at this

set_option maxHeartbeats 8000000 in
theorem hold_of (RB RT B T I : Int) (i n c : Nat) (sa : Option Addr) (L : List Rg) (r : Rg) (w : World) (h : Lst w (.slice sa n c) L) (hn : L.length ≤ 1000) (hr : L[i]? = some r) (hI : I = (i : Int))
    (ci : ∀ W, Lst W (.slice sa n c) L → Calls Tryd.prog 22 #[.slice sa n c, .agg #[.int .u64 B, .int .u64 T, .int .i64 1]] W (Makes (.int .i64 I) W)) :
    Calls Tryd.prog 10 #[.agg #[.int .u64 RB, .int .u64 RT, .slice sa n c], .agg #[.int .u64 B, .int .u64 T]] w fun e w' => ∃ v', e = .returned (.tuple #[.agg #[.int .u64 RB, .int .u64 RT, v'], .int .i64 0]) ∧ Lst w' v' (holdF L i r) ∧ Below w.heap.size w w' := by
  have C1 := hide ci
  have H := hide h
  have hi : i < L.length := (List.getElem?_eq_some_iff.1 hr).1
  have CC : Hid (∀ W, Lst W (.slice sa n c) L → Calls Tryd.prog 18 #[.slice sa n c] W fun e w' => ∃ g cap, e = .returned (.slice (some ⟨g, 0, none⟩) L.length cap) ∧ L.length ≤ cap ∧ cap ≤ 9223372036854775807 ∧ W.heap.size ≤ g ∧ g < w'.heap.size ∧ Row w' g (cellsL L) ∧ Own w' g (L.length * 3) ∧ Below W.heap.size W w') := hide (fun W hW => (clone_any _ L W hn hW).mono (by
    rintro e w' ⟨v', rfl, h1, h2⟩
    obtain ⟨g, cap, rfl, h3, h4, h5, h6, h7, h8⟩ := owns_form h1 (by omega)
    exact ⟨g, cap, rfl, h3, h4, h5, h6, h7, h8, h2⟩))
  have HS := hide (cells_set L i r hr)
  have hI0 : ¬ I < 0 := by omega
  have htn : I.toNat = i := by omega
  have hil : I < (L.length : Int) := by omega
  have hI2 : 0 ≤ I := by omega
  have hlen := hide (hold_len L i r)
  clear ci h hI hr
  obtain ⟨m, hm⟩ : ∃ m, m = L.length := ⟨_, rfl⟩
  have HM := hide hm
  rw [← hm] at hil CC hi hn hlen
  clear hm
  have SS := cell_same
  go_enter Tryd.func10, Tryd.ntmps10
  go_upto_region 1 with fail
  refine wp_abs (fun W => W.cell? ⟨w.heap.size, 0, none⟩ = some (.int .u64 RB) ∧ W.cell? ⟨w.heap.size, 1, none⟩ = some (.int .u64 RT) ∧ W.cell? ⟨w.heap.size, 2, none⟩ = some (.slice sa n c) ∧ W.cell? ⟨w.heap.size + 1, 0, none⟩ = some (.int .u64 B) ∧ W.cell? ⟨w.heap.size + 1, 1, none⟩ = some (.int .u64 T) ∧ Own W (w.heap.size) 3 ∧ Own W (w.heap.size + 1 + 1) 3 ∧ Lst W (.slice sa n c) L ∧ w.heap.size + 3 ≤ W.heap.size ∧ Below w.heap.size w W) ⟨by simp [go_sem], by simp [go_sem], by simp [go_sem], by simp [go_sem], by simp [go_sem], o_al _ (o_al _ (o_new rfl (by simp))), o_new (by simp) (by simp), lst_al _ (lst_al _ (lst_al _ H.out)), by simp, bw_alloc (bw_alloc (bw_alloc (Below.refl _ _) _) _) _⟩ ?_
  rintro wa ⟨m0, m1, m2, p0, p1, oM, oR, hl, hz, hB0⟩
  go_upto_region 2 with (go_at_call 22; (with_reducible refine (C1.out _ ?_).mono ?_); (focus (with_reducible assumption)); rintro e w1 ⟨rfl, hb1⟩)
  refine wp_abs (fun W => W.cell? ⟨w.heap.size, 0, none⟩ = some (.int .u64 RB) ∧ W.cell? ⟨w.heap.size, 1, none⟩ = some (.int .u64 RT) ∧ W.cell? ⟨w.heap.size, 2, none⟩ = some (.slice sa n c) ∧ W.cell? ⟨w.heap.size + 1, 0, none⟩ = some (.int .u64 B) ∧ W.cell? ⟨w.heap.size + 1, 1, none⟩ = some (.int .u64 T) ∧ Own W (w.heap.size) 3 ∧ Own W (w.heap.size + 1 + 1) 3 ∧ Lst W (.slice sa n c) L ∧ w.heap.size + 3 ≤ W.heap.size ∧ Below w.heap.size w W) ⟨c_be hb1 m0, c_be hb1 m1, c_be hb1 m2, c_be hb1 p0, c_be hb1 p1, o_be hb1 oM, o_be hb1 oR, lst_be hb1 hl, by have := hb1.size; omega, bw_behind hb1 hB0⟩ ?_
  clear m0 m1 m2 p0 p1 oM oR hl hz hB0 hb1
  rintro w0 ⟨m0, m1, m2, p0, p1, oM, oR, hl, hz, hB0⟩
  go_upto_region 4 with fail
  go_upto_region 5 with (go_at_call 18; (with_reducible refine (CC.out _ ?_).mono ?_); (focus (with_reducible assumption)); rintro e w4 ⟨g, cap, rfl, hc1, hc2, hg1, hg2, hrow, hown, hb4⟩; have xm0 := c_be hb4 m0; have xm1 := c_be hb4 m1; have xoM := o_be hb4 oM; have xoR := o_be hb4 oR; have f2 := xoM.free 2 (by omega); obtain ⟨z2, e2⟩ := xoM.val 2 (by omega))
  refine wp_abs (fun W => W.cell? ⟨w.heap.size, 0, none⟩ = some (.int .u64 RB) ∧ W.cell? ⟨w.heap.size, 1, none⟩ = some (.int .u64 RT) ∧ W.cell? ⟨w.heap.size, 2, none⟩ = some (.slice (some ⟨g, 0, none⟩) m cap) ∧ Own W (w.heap.size + 1 + 1) 3 ∧ Row W g (cellsL L) ∧ Own W g (m * 3) ∧ g < W.heap.size ∧ Below w.heap.size w W) ?_ ?_
  · refine ⟨?_, ?_, cell_same _ _ _ (by rw [e2]; rfl), o_set xoR, k_set (by show w.heap.size ≠ g; omega) hrow, o_set hown, by simpa using hg2, ?_⟩
    · exact (World.cell?_setCell_other _ _ _ _ (by simp)).trans xm0
    · exact (World.cell?_setCell_other _ _ _ _ (by simp)).trans xm1
    · (repeat (first | with_reducible assumption | with_reducible exact Below.refl _ _ | with_reducible refine Below.drew ?_ | with_reducible refine below_drewN ?_ _ | with_reducible refine bw_alloc ?_ _ | (with_reducible refine bw_set ?_ ?_ _; focus (dsimp only; omega)) | (with_reducible apply bw_behind; with_reducible assumption)))
  have hgM : w.heap.size + 1 + 1 < g := by omega
  clear xm0 xm1 xoM xoR hrow hown f2 e2 hg2 hg1
  rintro w5 ⟨n0, n1, n2, oR5, hrow, hown, hg2, hB5⟩
  have fg := hown.free (i * 3 + 2) (by omega)
  obtain ⟨zg, eg⟩ := hown.val (i * 3 + 2) (by omega)
  have hci : ¬ (cap = i) := by omega
  have hcap : (m : Int) ≤ (cap : Int) := by omega
  go_upto_region 6 with fail
  refine wp_abs (fun W => W.cell? ⟨w.heap.size, 0, none⟩ = some (.int .u64 RB) ∧ W.cell? ⟨w.heap.size, 1, none⟩ = some (.int .u64 RT) ∧ W.cell? ⟨w.heap.size, 2, none⟩ = some (.slice (some ⟨g, 0, none⟩) m cap) ∧ Own W (w.heap.size + 1 + 1) 3 ∧ LstB (w.heap.size + 3) W (.slice (some ⟨g, 0, none⟩) m cap) (holdF L i r) ∧ Below w.heap.size w W) ?_ ?_
  · refine ⟨c_set (by show g ≠ w.heap.size; omega) n0, c_set (by show g ≠ w.heap.size; omega) n1, c_set (by show g ≠ w.heap.size; omega) n2, o_set oR5, ⟨.inr ⟨g, cap, by rw [hlen.out], by rw [hlen.out]; exact hc1, hc2, by simpa using hg2, ?_⟩, fun k hk => by injection hk with hk; subst hk; show w.heap.size + 3 ≤ g; omega⟩, ?_⟩
    · rw [HS.out]
      exact row_set hrow
    · exact bw_set (by show w.heap.size ≤ g; omega) hB5 _
  clear n0 n1 n2 oR5 hrow hown hg2 hB5 fg eg
  rintro w6 ⟨n0, n1, n2, oR, hl6, hB6⟩
  have r0 := oR.free 0 (by omega)
  have r1 := oR.free 1 (by omega)
  have r2 := oR.free 2 (by omega)
  obtain ⟨q0, t0⟩ := oR.val 0 (by omega)
  obtain ⟨q1, t1⟩ := oR.val 1 (by omega)
  obtain ⟨q2, t2⟩ := oR.val 2 (by omega)
  clear oR
  go_wp2_with fail
  refine bodyPost_ret (v := .tuple #[.agg #[.int .u64 RB, .int .u64 RT, .slice (some ⟨g, 0, none⟩) m cap], .int .i64 0]) (by simp (maxDischargeDepth := 4) [results, Tryd.results10, go_sem, *]) rfl ?_
  refine ⟨_, rfl, ?_, by (repeat (first | with_reducible assumption | with_reducible exact Below.refl _ _ | with_reducible refine Below.drew ?_ | with_reducible refine below_drewN ?_ _ | with_reducible refine bw_alloc ?_ _ | (with_reducible refine bw_set ?_ ?_ _; focus (dsimp only; omega)) | (with_reducible apply bw_behind; with_reducible assumption)))⟩
  repeat (first | exact hl6.1 | (refine lst_set ?_ (fun hk => by have h9 := hl6.2 _ hk; simp at h9; omega)))
end Go.Proofs.YtnepnckiciapfaaDoor
