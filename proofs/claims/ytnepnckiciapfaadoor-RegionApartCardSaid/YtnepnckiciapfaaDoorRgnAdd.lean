/-
  Add of a span that can be reserved.
-/
import Derived.Test.YtnepnckiciapfaaDoorRgnIns
import Derived.Test.YtnepnckiciapfaaDoorRgn1
import Derived.Test.YtnepnckiciapfaaDoorRgnUp
import Derived.Deep.RegionWith
namespace Go.Proofs.YtnepnckiciapfaaDoor
open Go.RowKit RgnMath

set_option maxRecDepth 100000 in
set_option maxHeartbeats 8000000 in
theorem add_of (RB RT B T I : Int) (n c i b t : Nat) (sa : Option Addr) (L : List Rg) (w : World) (h : Lst w (.slice sa n c) L) (hn : n = L.length) (hn2 : n ≤ 999) (hI : I = (i : Int)) (hi : i ≤ L.length) (hB : B = (b : Int)) (hT : T = (t : Int)) (hfree : ∀ r, L[i]? = some r → t ≤ r.b)
    (cp : ∀ W, Calls Tryd.prog 12 #[.agg #[.int .u64 B, .int .u64 T]] W (Makes (.bool true) W))
    (cw : ∀ W, Calls Tryd.prog 19 #[.agg #[.int .u64 B, .int .u64 T], .agg #[.int .u64 RB, .int .u64 RT]] W (Makes (.bool true) W))
    (ca : ∀ W, Lst W (.slice sa n c) L → Calls Tryd.prog 20 #[.agg #[.int .u64 RB, .int .u64 RT, .slice sa n c], .int .u64 B] W (Makes (.int .i64 I) W)) :
    Calls Tryd.prog 9 #[.agg #[.int .u64 RB, .int .u64 RT, .slice sa n c], .agg #[.int .u64 B, .int .u64 T]] w fun e w' => ∃ v', e = .returned (.tuple #[.agg #[.int .u64 RB, .int .u64 RT, v'], .int .i64 0]) ∧ Lst w' v' (L.take i ++ ⟨b, t, 1⟩ :: L.drop i) ∧ Below w.heap.size w w' := by
  have C1 := hide cp
  have C2 := hide cw
  have C3 := hide ca
  have H := hide h
  have CC : Hid (∀ W, Lst W (.slice sa n c) L → Calls Tryd.prog 18 #[.slice sa n c] W fun e w' => ∃ v', e = .returned v' ∧ w'.ownsRow W.heap.size 41 3 v' L.length (cellsL L) ∧ Below W.heap.size W w') := hide (fun W hW => clone_any _ L W (by omega) hW)
  have CI : Hid (∀ (base vb : Nat) (v : Value) W, base ≤ W.heap.size → W.ownsRow base 41 3 v L.length (cellsL L) → W.heap[vb]? = some (.cells #[.int .u64 B, .int .u64 T, .int .i64 1] 41 (0, 0)) → v.ownBlock ≠ some vb →
      Calls Tryd.prog 21 #[v, .int .i64 I, .slice (some ⟨vb, 0, none⟩) 1 1] W fun e w' => ∃ v', e = .returned v' ∧ LstB base w' v' (L.take i ++ ⟨b, t, 1⟩ :: L.drop i) ∧ Below base W w') := hide (fun base vb v W h1 h2 h3 h4 => by
    rw [hI]
    exact ins_any base vb 1 i v _ L ⟨b, t, 1⟩ W h1 hi (by omega) h2 h3 (by rw [hB, hT]; rfl) h4)
  have HF : Hid (∀ r, L[i]? = some r → t ≤ r.b) := hide hfree
  have HI := hide hI
  have HT := hide hT
  have hIn : I ≤ (n : Int) := by omega
  have hI0 : 0 ≤ I := by omega
  have HN := hide hn
  clear cp cw ca h hI hi hB hT hfree hn
  have SS := cell_same
  have LB' := ltB_add
  have LS := ltB_self
  have LA' := alloc_reads
  have LH := alloc_holds
  go_enter Tryd.func9, Tryd.ntmps9
  go_upto_region 1 with fail
  refine wp_abs (fun W => W.cell? ⟨w.heap.size, 0, none⟩ = some (.int .u64 RB) ∧ W.cell? ⟨w.heap.size, 1, none⟩ = some (.int .u64 RT) ∧ W.cell? ⟨w.heap.size, 2, none⟩ = some (.slice sa n c) ∧ W.cell? ⟨w.heap.size + 1, 0, none⟩ = some (.int .u64 B) ∧ W.cell? ⟨w.heap.size + 1, 1, none⟩ = some (.int .u64 T) ∧ Own W (w.heap.size) 3 ∧ Own W (w.heap.size + 1 + 1) 3 ∧ Lst W (.slice sa n c) L ∧ w.heap.size + 3 ≤ W.heap.size ∧ Below w.heap.size w W) ⟨by simp [go_sem], by simp [go_sem], by simp [go_sem], by simp [go_sem], by simp [go_sem], o_al _ (o_al _ (o_new rfl (by simp))), o_new (by simp) (by simp), lst_al _ (lst_al _ (lst_al _ H.out)), by simp, bw_alloc (bw_alloc (bw_alloc (Below.refl _ _) _) _) _⟩ ?_
  rintro wa ⟨am0, am1, am2, ap0, ap1, aoM, aoR, ahl, ahz, ahB0⟩
  go_upto_region 4 with (first | (go_at_call 12; (with_reducible refine (C1.out _).mono ?_); rintro e w1 ⟨rfl, hb1⟩; have bm0 := c_be hb1 am0; have bm1 := c_be hb1 am1; have bm2 := c_be hb1 am2; have bp0 := c_be hb1 ap0; have bp1 := c_be hb1 ap1; have boM := o_be hb1 aoM; have boR := o_be hb1 aoR; have bhl := lst_be hb1 ahl) | (go_at_call 19; (with_reducible refine (C2.out _).mono ?_); rintro e w2 ⟨rfl, hb2⟩; have cm0 := c_be hb2 bm0; have cm1 := c_be hb2 bm1; have cm2 := c_be hb2 bm2; have cp0 := c_be hb2 bp0; have cp1 := c_be hb2 bp1; have coM := o_be hb2 boM; have coR := o_be hb2 boR; have chl := lst_be hb2 bhl) | (go_at_call 20; (with_reducible refine (C3.out _ ?_).mono ?_); (focus (with_reducible assumption)); rintro e w3 ⟨rfl, hb3⟩; have dm0 := c_be hb3 cm0; have dm1 := c_be hb3 cm1; have dm2 := c_be hb3 cm2; have dp0 := c_be hb3 cp0; have dp1 := c_be hb3 cp1; have doM := o_be hb3 coM; have doR := o_be hb3 coR; have dhl := lst_be hb3 chl))
  refine wp_abs (fun W => W.cell? ⟨w.heap.size, 0, none⟩ = some (.int .u64 RB) ∧ W.cell? ⟨w.heap.size, 1, none⟩ = some (.int .u64 RT) ∧ W.cell? ⟨w.heap.size, 2, none⟩ = some (.slice sa n c) ∧ W.cell? ⟨w.heap.size + 1, 0, none⟩ = some (.int .u64 B) ∧ W.cell? ⟨w.heap.size + 1, 1, none⟩ = some (.int .u64 T) ∧ Own W (w.heap.size) 3 ∧ Own W (w.heap.size + 1 + 1) 3 ∧ Lst W (.slice sa n c) L ∧ w.heap.size + 3 ≤ W.heap.size ∧ Below w.heap.size w W) ⟨dm0, dm1, dm2, dp0, dp1, doM, doR, dhl, by have := hb1.size; have := hb2.size; have := hb3.size; omega, bw_behind hb3 (bw_behind hb2 (bw_behind hb1 ahB0))⟩ ?_
  rintro w0 ⟨m0, m1, m2, p0, p1, oM, oR, hl, hz, hB0⟩
  clear am0 am1 am2 ap0 ap1 aoM aoR ahl ahz ahB0 bm0 bm1 bm2 bp0 bp1 boM boR bhl cm0 cm1 cm2 cp0 cp1 coM coR chl dm0 dm1 dm2 dp0 dp1 doM doR dhl hb1 hb2 hb3
  go_cut [38] (fun s38 wx => s38 = .bool false ∧ ∃ q, wx = w0.drewN q)
  case first =>
    cases hL : L[i]? with
    | none =>
      have hin : ¬ I < (n : Int) := by
        have h3 := HI.out
        have h4 := HN.out
        have h5 : L.length ≤ i := List.getElem?_eq_none_iff.1 hL
        omega
      go_quiet (fail)
      go_wp2_with fail
      go_meet
      exact ⟨rfl, _, rfl⟩
    | some r =>
      rcases hl with ⟨_, h3⟩ | ⟨g, c2, h3, h4, h5, h6, h7⟩
      · rw [h3] at hL
        simp at hL
      · injection h3 with h8 h9 h10
        subst h8 h10
        obtain ⟨d0, _, _⟩ := row_at h7 hL
        have h11 : i < L.length := (List.getElem?_eq_some_iff.1 hL).1
        have h12 := HN.out
        have h13 := HI.out
        have hin : I < (n : Int) := by omega
        have htn : I.toNat = i := by omega
        have hlt : ¬ (r.b : Int) < T := by
          have h14 := HF.out r hL
          have h15 := HT.out
          omega
        have hci : ¬ (c = i) := by omega
        have hcn : (n : Int) ≤ (c : Int) := by omega
        clear h7 hL h12 h13 h9 h4
        generalize (r.b : Int) = RB2 at *
        go_quiet (fail)
        go_wp2_with fail
        go_meet
        exact ⟨rfl, _, rfl⟩
  case rest =>
    obtain ⟨rfl, q, rfl⟩ := hcut
    go_upto_region 6 with fail
    refine wp_abs (fun W => W.cell? ⟨w.heap.size, 0, none⟩ = some (.int .u64 RB) ∧ W.cell? ⟨w.heap.size, 1, none⟩ = some (.int .u64 RT) ∧ W.cell? ⟨w.heap.size, 2, none⟩ = some (.slice sa n c) ∧ W.cell? ⟨w.heap.size + 1, 0, none⟩ = some (.int .u64 B) ∧ W.cell? ⟨w.heap.size + 1, 1, none⟩ = some (.int .u64 T) ∧ Own W (w.heap.size) 3 ∧ Own W (w.heap.size + 1 + 1) 3 ∧ Lst W (.slice sa n c) L ∧ w.heap.size + 3 ≤ W.heap.size ∧ Below w.heap.size w W) ⟨c_dr _ m0, c_dr _ m1, c_dr _ m2, c_dr _ p0, c_dr _ p1, o_dr _ oM, o_dr _ oR, lst_dr _ hl, hz, below_drewN hB0 _⟩ ?_
    clear m0 m1 m2 p0 p1 oM oR hl hz hB0
    rintro wz ⟨m0, m1, m2, p0, p1, oM, oR, hl, hz, hB0⟩
    have hMz : w.heap.size < wz.heap.size := by omega
    have hMz1 : w.heap.size + 1 < wz.heap.size := by omega
    have hMz2 : w.heap.size + 1 + 1 < wz.heap.size := by omega
    go_region_with (first | (go_at_call 18; (with_reducible refine (CC.out _ ?_).mono ?_); (focus (first | exact lst_d1 hl | exact lst_al _ (lst_d1 hl) | exact lst_d1 (lst_al _ hl) | exact lst_al _ hl)); rintro e w4 ⟨vc, rfl, ho4, hb4⟩; have xm0 : w4.cell? ⟨w.heap.size, 0, none⟩ = some (.int .u64 RB) := c_be hb4 (by first | exact m0 | exact c_al _ m0); have xm1 : w4.cell? ⟨w.heap.size, 1, none⟩ = some (.int .u64 RT) := c_be hb4 (by first | exact m1 | exact c_al _ m1); have xp0 : w4.cell? ⟨w.heap.size + 1, 0, none⟩ = some (.int .u64 B) := c_be hb4 (by first | exact p0 | exact c_al _ p0); have xp1 : w4.cell? ⟨w.heap.size + 1, 1, none⟩ = some (.int .u64 T) := c_be hb4 (by first | exact p1 | exact c_al _ p1); have xoM : Own w4 (w.heap.size) 3 := o_be hb4 (by first | exact oM | exact o_al _ oM); have xoR : Own w4 (w.heap.size + 1 + 1) 3 := o_be hb4 (by first | exact oR | exact o_al _ oR)) | (go_at_call 21; (with_reducible refine (CI.out wz.heap.size _ _ _ ?_ ?_ ?_ ?_).mono ?_); (focus (have h9 := hb4.size; simp at h9 ⊢; omega)); (focus (first | (refine owns_al _ (owns_low ho4 ?_); (first | exact Nat.le_refl _ | (simp; done))) | (refine owns_low ho4 ?_; (first | exact Nat.le_refl _ | (simp; done))))); (focus (first | exact heap_new | (refine (hb4.block _ ?_).trans heap_new; (simp; done)))); (focus (intro hk; have h9 := ho4.lt _ hk; first | exact absurd h9.2 (Nat.lt_irrefl _) | (simp at h9; done) | (simp at h9; omega))); rintro e w5 ⟨v5, rfl, hl5, hb5⟩; obtain ⟨sa5, n5, c5, rfl, _⟩ := lst_one hl5.1; have ym0 : w5.cell? ⟨w.heap.size, 0, none⟩ = some (.int .u64 RB) := c_low hb5 (by simp; omega) (by first | exact xm0 | exact c_al _ xm0); have ym1 : w5.cell? ⟨w.heap.size, 1, none⟩ = some (.int .u64 RT) := c_low hb5 (by simp; omega) (by first | exact xm1 | exact c_al _ xm1); have yoM : Own w5 (w.heap.size) 3 := o_low hb5 (by omega) (by first | exact xoM | exact o_al _ xoM); have yoR : Own w5 (w.heap.size + 1 + 1) 3 := o_low hb5 (by omega) (by first | exact xoR | exact o_al _ xoR); have f2 := yoM.free 2 (by omega); obtain ⟨z2, e2⟩ := yoM.val 2 (by omega); have r0 := yoR.free 0 (by omega); have r1 := yoR.free 1 (by omega); have r2 := yoR.free 2 (by omega); obtain ⟨q0, t0⟩ := yoR.val 0 (by omega); obtain ⟨q1, t1⟩ := yoR.val 1 (by omega); obtain ⟨q2, t2⟩ := yoR.val 2 (by omega); have hB5 : Below w.heap.size w w5 := Below.trans (by (repeat (first | with_reducible assumption | with_reducible exact Below.refl _ _ | with_reducible refine Below.drew ?_ | with_reducible refine below_drewN ?_ _ | with_reducible refine bw_alloc ?_ _ | (with_reducible refine bw_set ?_ ?_ _; focus (dsimp only; omega)) | (with_reducible apply bw_behind; with_reducible assumption)))) (hb5.mono (by have := hB0.size; omega)); clear yoM yoR xm0 xm1 xp0 xp1 xoM xoR ho4 hb4 hb5))
    all_goals
      go_wp2_with fail
      refine bodyPost_ret (v := .tuple #[.agg #[.int .u64 RB, .int .u64 RT, .slice sa5 n5 c5], .int .i64 0]) (by simp (maxDischargeDepth := 4) [results, Tryd.results9, go_sem, *]) rfl ?_
      refine ⟨_, rfl, ?_, by (repeat (first | with_reducible assumption | with_reducible exact Below.refl _ _ | with_reducible refine Below.drew ?_ | with_reducible refine below_drewN ?_ _ | with_reducible refine bw_alloc ?_ _ | (with_reducible refine bw_set ?_ ?_ _; focus (dsimp only; omega)) | (with_reducible apply bw_behind; with_reducible assumption)))⟩
      repeat (first | exact hl5.1 | (refine lst_set ?_ (fun hk => by have h9 := hl5.2 _ hk; simp at h9; omega)))
end Go.Proofs.YtnepnckiciapfaaDoor
