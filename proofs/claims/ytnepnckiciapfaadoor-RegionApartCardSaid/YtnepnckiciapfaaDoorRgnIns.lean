/-
  slices.Insert of one reservation.
-/
import Derived.Test.YtnepnckiciapfaaDoorRgnLib2
import Derived.Test.YtnepnckiciapfaaDoorRgnClone
import Derived.Test.YtnepnckiciapfaaDoorTail2
import Derived.Deep.DeepCutAuto
namespace Go.Proofs.YtnepnckiciapfaaDoor
open Go.RowKit RgnMath

set_option maxHeartbeats 4000000 in
set_option maxRecDepth 100000 in
/-- At the end: room or none, nil or not. -/
theorem ins_end (base vb vc : Nat) (v : Value) (L : List Rg) (r : Rg) (w : World) (hbase : base ≤ w.heap.size) (hn : L.length ≤ 1000) (hown : w.ownsRow base 41 3 v L.length (cellsL L)) (hrow : Row w vb (cellR r)) :
    Calls Tryd.prog 21 #[v, .int .i64 (L.length : Int), .slice (some ⟨vb, 0, none⟩) 1 vc] w fun e w' => ∃ v', e = .returned v' ∧ LstB base w' v' (L ++ [r]) ∧ Below base w w' := by
  obtain ⟨i0, hi, hz, hs, hb⟩ := info_ex
  have HO := hide hown
  have A := hide hrow
  have h1 : Hid (∀ u ∈ cellR r, u.oneCell' = true) := hide (fun u hu => by have := cells_one [r]; exact this u (by simpa [cellsL] using hu))
  have hlt : Hid (∀ k, v.ownBlock = some k → base ≤ k) := hide (fun k hk => (hown.lt k hk).1)
  have hfin : ∀ v' (w1 : World), w1.ownsRow base 41 3 v' (L.length + 1) (cellsL L ++ cellR r) → LstB base w1 v' (L ++ [r]) := fun v' w1 ho => by
    refine ⟨?_, fun k hk => (ho.lt k hk).1⟩
    refine lst_owns (base := base) (e := 41) (n := L.length + 1) (by simp) ?_
    rw [cells_app]
    simpa [cellsL] using ho
  have FIN := hide hfin
  have hv : ∃ sa c, v = .slice sa L.length c ∧ L.length ≤ c ∧ c ≤ 9223372036854775807 := by
    rcases hown.2 with ⟨h2, h3⟩ | ⟨g, cap, cur, rfl, _, _, h5, h6, _⟩
    · refine ⟨none, 0, by rw [h3]; exact h2, by omega, by omega⟩
    · exact ⟨_, cap, rfl, h5, by unfold maxLen at h6; omega⟩
  obtain ⟨sa, c, rfl, hnc, hcm⟩ := hv
  obtain ⟨n, hN⟩ : ∃ n, n = L.length := ⟨_, rfl⟩
  rw [← hN] at HO FIN hn hnc hlt ⊢
  clear hN hown hrow hfin
  go_enter Tryd.func21, Tryd.ntmps21
  cases sa with
  | none =>
    go_wp2_with (at_builtin; refine wpList_append_own _ rfl _ _ 26 rfl base 41 i0 _ 3 24 Tryd.underlying26 hi hz hs hb rfl (by omega) _ _ _ rfl HO.out ⟨vb, 0, none⟩ 1 vc (cellR r) rfl (by rfl) (fun j u hj => by rw [add_at]; exact A.out j u hj) h1.out (by unfold maxLen; omega) (by omega) hbase ?_)
    intro v' w1 hown' hgrow _
    go_wp2
    go_ret
    exact ⟨v', rfl, FIN.out v' w1 hown', (Below.refl base w).grown hgrow hbase (fun k hk => hlt.out k hk)⟩
  | some a =>
    go_wp2_with (at_builtin; refine wpList_append_own _ rfl _ _ 26 rfl base 41 i0 _ 3 24 Tryd.underlying26 hi hz hs hb rfl (by omega) _ _ _ rfl HO.out ⟨vb, 0, none⟩ 1 vc (cellR r) rfl (by rfl) (fun j u hj => by rw [add_at]; exact A.out j u hj) h1.out (by unfold maxLen; omega) (by omega) hbase ?_)
    all_goals
      intro v' w1 hown' hgrow _
      go_wp2
      go_ret
      exact ⟨v', rfl, FIN.out v' w1 hown', (Below.refl base w).grown hgrow hbase (fun k hk => hlt.out k hk)⟩

set_option maxHeartbeats 4000000 in
set_option maxRecDepth 100000 in
/-- Not at the end, and there is room: in place. -/
theorem ins_shift (base g i c vb vc : Nat) (cur : Array Value) (vcur : Array Value) (L : List Rg) (r : Rg) (w : World) (hbase : base ≤ g) (hi : i < L.length) (hn : L.length ≤ 1000) (hroom : L.length + 1 ≤ c) (hcm : c ≤ 9223372036854775807)
    (hg : w.heap[g]? = some (.cells cur 41 (0, 0))) (hcur : cur.size = c * 3) (hrow : Row w g (cellsL L)) (hv : w.heap[vb]? = some (.cells vcur 41 (0, 0))) (hvc : vcur.toList = cellR r) (hne : vb ≠ g) :
    Calls Tryd.prog 21 #[.slice (some ⟨g, 0, none⟩) L.length c, .int .i64 (i : Int), .slice (some ⟨vb, 0, none⟩) 1 vc] w fun e w' => ∃ v', e = .returned v' ∧ LstB base w' v' (L.take i ++ r :: L.drop i) ∧ Below base w w' := by
  have hu : Tryd.prog.underlying 26 = some (.slice 41) := Tryd.underlying26
  have hsz : (Tryd.prog.info? 41).map (·.size) = some 3 := by
    obtain ⟨i0, h1, _, h3, _⟩ := info_ex
    rw [h1]
    simp [h3]
  have hown : Own w g (c * 3) := own_of_heap hg (by omega)
  have hvrow : Row w vb (cellR r) := row_of_heap hv hvc
  have hvs : vcur.size = 3 := by rw [← Array.length_toList, hvc]; rfl
  have hov : ∀ lb cb, (callFunc 33 #[.slice (some ⟨vb, 0, none⟩) 1 vc, .slice (some ⟨g, (i + 1) * 3, none⟩) lb cb]).run Tryd.prog w = .ok (.value (.bool false)) w := fun lb cb => by
    rw [run_callFunc_extern Tryd.func33 (by kernel_rfl) (by kernel_rfl) (by kernel_rfl) (e := Extern.SlicesOverlaps.overlaps #[26, 26] #[4]) (by kernel_rfl),
      Lib.run_overlaps_apart w 26 4 41 hu 3 Tryd.sizeOf41 ⟨vb, 0, none⟩ ⟨g, (i + 1) * 3, none⟩ 1 vc lb cb hne _ _ _ _ (shape_of_heap hv) (shape_of_heap hg) (by omega) (frozen_of_heap hv) (frozen_of_heap hv)]
    rfl
  have hcl := cells_len L
  obtain ⟨n, hN⟩ : ∃ n, n = L.length := ⟨_, rfl⟩
  obtain ⟨cs, hcs⟩ : ∃ cs, cs = cellsL L := ⟨_, rfl⟩
  have NN := hide hN
  have HC := hide hcs
  rw [← hN, ← hcs] at hcl
  rw [← hN] at hn hroom hi ⊢
  rw [← hcs] at hrow
  have hd1 : (cs.drop (i * 3)).length = (n - i) * 3 := by rw [List.length_drop, hcl, Nat.sub_mul]
  have h1c : ∀ u ∈ cs, u.oneCell' = true := by rw [hcs]; exact cells_one L
  have h1v : ∀ u ∈ cellR r, u.oneCell' = true := fun u hu => cells_one [r] u (by simpa [cellsL] using hu)
  clear hN hcs
  have hcp1 : ∀ ty dc sc, (Builtin.copy_ #[26, 26] ty #[.slice (some ⟨g, (i + 1) * 3, none⟩) (n - i) dc, .slice (some ⟨g, i * 3, none⟩) (n + 1 - i) sc]).run Tryd.prog w.drew = .ok (goInt (Nat.min (n + 1 - i) (n - i) : Nat)) (w.drew.setCells g ((i + 1) * 3) (cs.drop (i * 3))) := fun ty dc sc =>
    run_copyK w.drew _ _ ty 41 g ((i + 1) * 3) (n - i) dc ⟨g, i * 3, none⟩ (n + 1 - i) sc 3 (cs.drop (i * 3)) hu hsz (by rw [hd1]; congr 1; simp only [Nat.min_def]; split <;> omega)
      (fun j v hj => by rw [Addr.add_lit]; exact hrow (i * 3 + j) v (by rwa [List.getElem?_drop] at hj))
      (fun j hj => by rw [hd1] at hj; exact (hown ((i + 1) * 3 + j) (by omega)).1) (fun j hj => by rw [hd1] at hj; exact (hown ((i + 1) * 3 + j) (by omega)).2) (fun v hv => h1c v (List.mem_of_mem_drop hv))
  obtain ⟨W1, hW1⟩ : ∃ W1, W1 = w.drew.setCells g ((i + 1) * 3) (cs.drop (i * 3)) := ⟨_, rfl⟩
  have ho1 : Own W1 g (c * 3) := by rw [hW1]; exact own_sets _ _ _ (o_d1 hown)
  have hv1 : ∀ j v, (cellR r)[j]? = some v → W1.cell? ⟨vb, j, none⟩ = some v := fun j v hj => by
    rw [hW1, World.cell?_setCells_out g _ _ _ _ (fun h _ => absurd h hne)]
    exact hvrow j v hj
  have hcp2 : ∀ (W : World), (∀ x, W.cell? x = W1.cell? x) → (∀ x, W.frozen? x = W1.frozen? x) → ∀ ty dc, (Builtin.copy_ #[26, 26] ty #[.slice (some ⟨g, i * 3, none⟩) (n + 1 - i) dc, .slice (some ⟨vb, 0, none⟩) 1 vc]).run Tryd.prog W = .ok (goInt (Nat.min 1 (n + 1 - i) : Nat)) (W.setCells g (i * 3) (cellR r)) := fun W hWc hWf ty dc =>
    run_copyK W _ _ ty 41 g (i * 3) (n + 1 - i) dc ⟨vb, 0, none⟩ 1 vc 3 (cellR r) hu hsz (by rw [show Nat.min 1 (n + 1 - i) = 1 by simp only [Nat.min_def]; split <;> omega]; rfl)
      (fun j v hj => by rw [Addr.add_lit, hWc, Nat.zero_add]; exact hv1 j v hj)
      (fun j hj => by rw [hWc]; exact (ho1 (i * 3 + j) (by have : j < 3 := hj; omega)).1) (fun j hj => by rw [hWf]; exact (ho1 (i * 3 + j) (by have : j < 3 := hj; omega)).2) h1v
  rw [← hW1] at hcp1
  have mixed : Tryd.prog.follows .mixedOrders = true := by kernel_rfl
  have hz2 : ¬ ((i : Int) = (n : Int)) := by omega
  have hw1 : IntKind.i64.wrap ((i : Int) + 1) = (i : Int) + 1 := by rw [IntKind.wrap_i64]; omega
  have hb1 : (0 : Int) ≤ (i : Int) + 1 := by omega
  have hin : i ≤ n := by omega
  have htn : ((i : Int) + 1).toNat = i + 1 := by omega
  have hb2 : ¬ (c = i + 1) := by omega
  have hb3 : (i : Int) ≤ (n : Int) + 1 := by omega
  have hb4 : ¬ (c = i) := by omega
  have O1 := hide ho1
  have RW := hide hrow
  have OW := hide hown
  clear hrow hown hv1 hvrow ho1
  go_enter Tryd.func21, Tryd.ntmps21
  go_wp2_with (simp only [hov])
  go_region_law (refine step_built rfl _ _ 26 26 rfl _ _ (by simp [Act.eval, Act.put]) (by simp [Act.eval, Act.put]) (hcp1 _ _ _) ?_)
  go_wp2_with (at_builtin; refine wpList_built rfl _ _ 26 26 rfl _ _ rfl rfl (hcp2 _ (fun _ => rfl) (fun _ => rfl) _ _) ?_)
  go_ret
  refine ⟨.slice (some ⟨g, 0, none⟩) (n + 1) c, rfl, ?_, ?_⟩
  · rw [← hW1]
    have e : cellsL (L.take i ++ r :: L.drop i) = cs.take (i * 3) ++ (cellR r ++ cs.drop (i * 3)) := by
      rw [cells_app, cells_cons, cells_take, cells_drop, HC.out]
    have el : (L.take i ++ r :: L.drop i).length = n + 1 := by
      rw [List.length_append, List.length_cons, List.length_take, List.length_drop]
      have := NN.out
      omega
    have ho3 := own_sets (cellR r) (i * 3) W1 O1.out
    refine ⟨.inr ⟨g, c, by rw [el], by omega, hcm, ?_, ?_⟩, fun k hk => by injection hk with hk; subst hk; exact hbase⟩
    · obtain ⟨x, hx⟩ := ho3.val 0 (by omega)
      exact World.block_lt_of_cell? _ _ hx
    · rw [e]
      have R1 : Row W1 g (cs.take ((i + 1) * 3) ++ cs.drop (i * 3)) := by
        rw [hW1]
        refine row_sets (fun j hj => o_d1 OW.out j (by rw [hd1] at hj; omega)) (fun j v hj => ?_)
        have ht : (cs.take ((i + 1) * 3)).length = (i + 1) * 3 := by rw [List.length_take, hcl]; omega
        rcases Nat.lt_or_ge j ((i + 1) * 3) with h2 | h2
        · rw [if_neg (by omega)]
          rw [List.getElem?_append_left (by omega), List.getElem?_take_of_lt h2] at hj
          exact RW.out j v hj
        · rw [List.getElem?_append_right (by omega), ht] at hj
          have h3 := (List.getElem?_eq_some_iff.1 hj).1
          rw [if_pos ⟨h2, by omega⟩]
          exact hj
      refine row_sets (fun j hj => O1.out j (by have : (cellR r).length = 3 := rfl; omega)) (fun j v hj => ?_)
      have hr3 : (cellR r).length = 3 := rfl
      have ht : (cs.take (i * 3)).length = i * 3 := by rw [List.length_take, hcl]; omega
      have ht2 : (cs.take ((i + 1) * 3)).length = (i + 1) * 3 := by rw [List.length_take, hcl]; omega
      rcases Nat.lt_or_ge j (i * 3) with h2 | h2
      · rw [if_neg (by omega)]
        rw [List.getElem?_append_left (by omega), List.getElem?_take_of_lt h2] at hj
        refine R1 j v ?_
        rw [List.getElem?_append_left (by omega), List.getElem?_take_of_lt (by omega)]
        exact hj
      · rw [List.getElem?_append_right (by omega), ht] at hj
        rcases Nat.lt_or_ge j (i * 3 + 3) with h3 | h3
        · rw [if_pos ⟨h2, by omega⟩]
          rw [List.getElem?_append_left (by omega)] at hj
          exact hj
        · rw [if_neg (by omega)]
          rw [List.getElem?_append_right (by omega), hr3] at hj
          refine R1 j v ?_
          rw [List.getElem?_append_right (by omega), ht2, show j - (i + 1) * 3 = j - i * 3 - 3 by omega]
          exact hj
  · exact bel_sets hbase _ _ _ (bel_sets hbase _ _ _ (Below.refl _ _).drew)

theorem zero_cells (z : Value) (a b c : Value) (hz : z.cells = #[a, b, c]) (k : Nat) : (Builtin.zeroCells z.cells k).size = k * 3 := by
  rw [hz]
  simp [Builtin.zeroCells]

set_option maxHeartbeats 4000000 in
set_option maxRecDepth 100000 in
/-- Not at the end, and there is no room: a new row. -/
theorem ins_grow (base g i c vb vc : Nat) (L : List Rg) (r : Rg) (w : World) (hbase : base ≤ w.heap.size) (hi : i < L.length) (hn : L.length ≤ 1000) (hnc : L.length ≤ c) (hroom : c < L.length + 1) (hgl : g < w.heap.size) (hrow : Row w g (cellsL L)) (hvrow : Row w vb (cellR r)) :
    Calls Tryd.prog 21 #[.slice (some ⟨g, 0, none⟩) L.length c, .int .i64 (i : Int), .slice (some ⟨vb, 0, none⟩) 1 vc] w fun e w' => ∃ v', e = .returned v' ∧ LstB base w' v' (L.take i ++ r :: L.drop i) ∧ Below base w w' := by
  have hu : Tryd.prog.underlying 26 = some (.slice 41) := Tryd.underlying26
  obtain ⟨i0, hi0, hz0, hzs, hzb⟩ := info_ex
  have hsz : (Tryd.prog.info? 41).map (·.size) = some 3 := by
    rw [hi0]
    simp [hzs]
  have hcl := cells_len L
  obtain ⟨n, hN⟩ : ∃ n, n = L.length := ⟨_, rfl⟩
  obtain ⟨cs, hcs⟩ : ∃ cs, cs = cellsL L := ⟨_, rfl⟩
  have NN := hide hN
  have HC := hide hcs
  rw [← hN, ← hcs] at hcl
  rw [← hN] at hn hroom hi hnc ⊢
  rw [← hcs] at hrow
  have hd1 : (cs.drop (i * 3)).length = (n - i) * 3 := by rw [List.length_drop, hcl, Nat.sub_mul]
  have h1c : ∀ u ∈ cs, u.oneCell' = true := by rw [hcs]; exact cells_one L
  have h1v : ∀ u ∈ cellR r, u.oneCell' = true := fun u hu => cells_one [r] u (by simpa [cellsL] using hu)
  clear hN hcs
  have hkk : (n : Int) + 1 - (i : Int) = ((n + 1 - i : Nat) : Int) := by omega
  have hik : i + (n + 1 - i) = n + 1 := by omega
  have htl : (cs.take (i * 3)).length = i * 3 := by rw [List.length_take, hcl]; omega
  have hold : (Builtin.firstCells i0.size i (.slice (some ⟨g, 0, none⟩) i c)).run Tryd.prog w.drew = .ok (cs.take (i * 3)).toArray w.drew := by
    rw [hzs]
    exact run_firstCells_some w.drew 3 i ⟨g, 0, none⟩ i c (cs.take (i * 3)) htl (fun j v hj => by
      rw [add_at]
      rw [List.getElem?_take] at hj
      split at hj
      · exact hrow j v hj
      · cases hj)
  obtain ⟨Z, hZ⟩ : ∃ Z : Value, Z = .agg #[.int .u64 0, .int .u64 0, .int .i64 0] := ⟨_, rfl⟩
  have hzc := zero_cells Z _ _ _ (by rw [hZ]; rfl)
  rw [← hZ] at hz0
  clear hZ
  have hrz : ∀ ty, (Builtin.append_ #[26, 3] ty #[.slice (some ⟨g, 0, none⟩) i c, .int .i64 ((n : Int) + 1 - (i : Int))]).run Tryd.prog w =
      .ok (.slice (some ⟨w.heap.size, 0, none⟩) (n + 1) (grownCap w (n + 1) c 41)) (w.drew.alloc (.cells ((cs.take (i * 3)).toArray ++ Builtin.zeroCells Z.cells (n + 1 - i) ++ Builtin.zeroCells Z.cells (grownCap w (n + 1) c 41 - (n + 1))) 41)) := fun ty => by
    have h := Lib.run_append_grow_zeros w 26 3 ty 41 i0 _ .i64 .i64 hu Tryd.underlying3 hi0 hz0 (some ⟨g, 0, none⟩) i c (cs.take (i * 3)) hold (n + 1 - i) (by omega) (by omega) (by omega) (by omega) (by rw [hzb]; omega) (by rw [hzb, hik]; exact growslice_fits hroom (by omega))
    rw [hik] at h
    rw [hkk]
    exact h
  obtain ⟨G, hG⟩ : ∃ G, G = grownCap w (n + 1) c 41 := ⟨_, rfl⟩
  obtain ⟨ROW, hROW⟩ : ∃ ROW : Array Value, ROW = (cs.take (i * 3)).toArray ++ Builtin.zeroCells Z.cells (n + 1 - i) ++ Builtin.zeroCells Z.cells (G - (n + 1)) := ⟨_, rfl⟩
  rw [← hG, ← hROW] at hrz
  have hRs : (n + 1) * 3 ≤ ROW.size := by
    rw [hROW, Array.size_append, Array.size_append, hzc, hzc, List.size_toArray, htl]
    omega
  have hRr : ∀ j v, j < i * 3 → cs[j]? = some v → ROW[j]? = some v := fun j v hj hv => by
    rw [hROW, Array.getElem?_append_left (by rw [Array.size_append, List.size_toArray, htl]; omega), Array.getElem?_append_left (by rw [List.size_toArray, htl]; omega), List.getElem?_toArray, List.getElem?_take_of_lt hj]
    exact hv
  have hGn : n + 1 ≤ G := by rw [hG]; exact grownCap_ge w _ _ _
  have hG63 : G ≤ 9223372036854775807 := by
    have := grownCap_le_maxLen w (n + 1) c 41 (by unfold maxLen; omega)
    rw [← hG] at this
    unfold maxLen at this
    omega
  clear hG hROW hzc hz0
  obtain ⟨W1, hW1⟩ : ∃ W1, W1 = w.drew.alloc (.cells ROW 41) := ⟨_, rfl⟩
  rw [← hW1] at hrz
  have hO : Own W1 w.heap.size ((n + 1) * 3) := by rw [hW1]; exact o_new rfl hRs
  have hR1 : Row W1 w.heap.size (cs.take (i * 3)) := by
    rw [hW1]
    intro j v hj
    rw [World.cell?_alloc_at (w := w.drew) ROW _ w.heap.size j rfl]
    rw [List.getElem?_take] at hj
    split at hj
    · rename_i h2
      exact hRr j v h2 hj
    · cases hj
  have hOb : Row W1 g cs := by rw [hW1]; exact k_al _ (k_d1 hrow)
  have hOv : Row W1 vb (cellR r) := by rw [hW1]; exact k_al _ (k_d1 hvrow)
  have hbN : g ≠ w.heap.size := by omega
  have hcpA : ∀ (W : World), (∀ x, W.cell? x = W1.cell? x) → (∀ x, W.frozen? x = W1.frozen? x) → ∀ ty dc, (Builtin.copy_ #[26, 26] ty #[.slice (some ⟨w.heap.size, i * 3, none⟩) (n + 1 - i) dc, .slice (some ⟨vb, 0, none⟩) 1 vc]).run Tryd.prog W = .ok (goInt (Nat.min 1 (n + 1 - i) : Nat)) (W.setCells w.heap.size (i * 3) (cellR r)) := fun W hWc hWf ty dc =>
    run_copyK W _ _ ty 41 w.heap.size (i * 3) (n + 1 - i) dc ⟨vb, 0, none⟩ 1 vc 3 (cellR r) hu hsz (by rw [show Nat.min 1 (n + 1 - i) = 1 by simp only [Nat.min_def]; split <;> omega]; rfl)
      (fun j v hj => by rw [Addr.add_lit, hWc, Nat.zero_add]; exact hOv j v hj)
      (fun j hj => by rw [hWc]; exact (hO (i * 3 + j) (by have : j < 3 := hj; omega)).1) (fun j hj => by rw [hWf]; exact (hO (i * 3 + j) (by have : j < 3 := hj; omega)).2) h1v
  have hcpB : ∀ (W : World), (∀ x, W.cell? x = (W1.setCells w.heap.size (i * 3) (cellR r)).cell? x) → (∀ x, W.frozen? x = (W1.setCells w.heap.size (i * 3) (cellR r)).frozen? x) → ∀ ty dc sc, (Builtin.copy_ #[26, 26] ty #[.slice (some ⟨w.heap.size, (i + 1) * 3, none⟩) (n - i) dc, .slice (some ⟨g, i * 3, none⟩) (n - i) sc]).run Tryd.prog W = .ok (goInt (Nat.min (n - i) (n - i) : Nat)) (W.setCells w.heap.size ((i + 1) * 3) (cs.drop (i * 3))) := fun W hWc hWf ty dc sc =>
    run_copyK W _ _ ty 41 w.heap.size ((i + 1) * 3) (n - i) dc ⟨g, i * 3, none⟩ (n - i) sc 3 (cs.drop (i * 3)) hu hsz (by rw [hd1]; congr 1; simp only [Nat.min_def]; split <;> omega)
      (fun j v hj => by
        rw [Addr.add_lit, hWc, World.cell?_setCells_out _ _ _ _ _ (fun h _ => absurd h hbN)]
        exact hOb (i * 3 + j) v (by rwa [List.getElem?_drop] at hj))
      (fun j hj => by rw [hWc]; exact (own_sets _ _ _ hO ((i + 1) * 3 + j) (by rw [hd1] at hj; omega)).1)
      (fun j hj => by rw [hWf]; exact (own_sets _ _ _ hO ((i + 1) * 3 + j) (by rw [hd1] at hj; omega)).2) (fun v hv => h1c v (List.mem_of_mem_drop hv))
  have HO1 := hide hO
  have HR1 := hide hR1
  clear hO hR1 hOb hOv hRr
  subst hW1
  have hE1 : ∀ x, ((w.alloc (.cells ROW 41)).drew).cell? x = (w.drew.alloc (.cells ROW 41)).cell? x := fun x => rfl
  have hE2 : ∀ x, ((w.alloc (.cells ROW 41)).drew).frozen? x = (w.drew.alloc (.cells ROW 41)).frozen? x := fun x => rfl
  have hF1 : ∀ x, (((w.alloc (.cells ROW 41)).drew.setCells w.heap.size (i * 3) (cellR r)).drew).cell? x = ((w.drew.alloc (.cells ROW 41)).setCells w.heap.size (i * 3) (cellR r)).cell? x := fun x => rfl
  have hF2 : ∀ x, (((w.alloc (.cells ROW 41)).drew.setCells w.heap.size (i * 3) (cellR r)).drew).frozen? x = ((w.drew.alloc (.cells ROW 41)).setCells w.heap.size (i * 3) (cellR r)).frozen? x := fun x => rfl
  have hz2 : ¬ ((i : Int) = (n : Int)) := by omega
  have hz3 : (c : Int) < (n : Int) + 1 := by omega
  have hGi : ¬ (G = i) := by omega
  have hGim : ¬ (G = i + 1) := by omega
  have hci : ¬ (c = i) := by omega
  have hw1 : IntKind.i64.wrap ((i : Int) + 1) = (i : Int) + 1 := by rw [IntKind.wrap_i64]; omega
  have hb1 : (0 : Int) ≤ (i : Int) + 1 := by omega
  have hin : i ≤ n := by omega
  have htn : ((i : Int) + 1).toNat = i + 1 := by omega
  have hb3 : (i : Int) ≤ (n : Int) := by omega
  have RW := hide hrow
  clear hrow hvrow hkk hik hold hRs
  go_enter Tryd.func21, Tryd.ntmps21
  go_wp2_with (first
    | (at_builtin; refine Lib.wpList_append_run _ rfl _ _ _ _ rfl _ _ rfl rfl _ _ (hrz _) ?_)
    | (at_builtin; refine wpList_built rfl _ _ 26 26 rfl _ _ rfl rfl (hcpA _ hE1 hE2 _ _) ?_)
    | (at_builtin; refine wpList_built rfl _ _ 26 26 rfl _ _ rfl rfl (hcpB _ (fun _ => rfl) (fun _ => rfl) _ _ _) ?_))
  go_region_law (refine step_built rfl _ _ 26 26 rfl (.slice (some ⟨w.heap.size, (i + 1) * 3, none⟩) (n - i) (G - (i + 1))) (.slice (some ⟨g, i * 3, none⟩) (n - i) (c - i)) (by simp [Act.eval, Act.put]) (by simp [Act.eval, Act.put]) (hcpB _ hF1 hF2 3 (G - (i + 1)) (c - i)) ?_)
  go_wp2
  go_ret
  refine ⟨.slice (some ⟨w.heap.size, 0, none⟩) (n + 1) G, rfl, ?_, ?_⟩
  · have e : cellsL (L.take i ++ r :: L.drop i) = (cs.take (i * 3) ++ cellR r) ++ cs.drop (i * 3) := by
      rw [cells_app, cells_cons, cells_take, cells_drop, HC.out, List.append_assoc]
    have el : (L.take i ++ r :: L.drop i).length = n + 1 := by
      rw [List.length_append, List.length_cons, List.length_take, List.length_drop]
      have := NN.out
      omega
    have h3 : (cellR r).length = 3 := rfl
    have o1 : Own ((w.alloc (.cells ROW 41)).drew) w.heap.size ((n + 1) * 3) := HO1.out
    have r1 : Row ((w.alloc (.cells ROW 41)).drew) w.heap.size (cs.take (i * 3)) := HR1.out
    have r2 := row_app (vs := cellR r) htl (own_le o1 (by omega)) r1
    have o2 := own_sets (cellR r) (i * 3) _ o1
    have r3 := row_app (vs := cs.drop (i * 3)) (o := (i + 1) * 3) (by rw [List.length_append, htl, h3]; omega) (own_le (o_d1 o2) (by rw [hd1]; omega)) (k_d1 r2)
    have o3 := own_sets (cs.drop (i * 3)) ((i + 1) * 3) _ (o_d1 o2)
    refine ⟨.inr ⟨w.heap.size, G, by rw [el], by omega, hG63, ?_, by rw [e]; exact r3⟩, fun k hk => by injection hk with hk; subst hk; exact hbase⟩
    obtain ⟨x, hx⟩ := o3.val 0 (by omega)
    exact World.block_lt_of_cell? _ _ hx
  · exact bel_sets hbase _ _ _ (bel_sets hbase _ _ _ (below_alloc (Below.refl base w) hbase _).drew).drew

/-- All ways. -/
theorem ins_any (base vb vc i : Nat) (v : Value) (vcur : Array Value) (L : List Rg) (r : Rg) (w : World) (hbase : base ≤ w.heap.size) (hi : i ≤ L.length) (hn : L.length ≤ 1000) (hown : w.ownsRow base 41 3 v L.length (cellsL L))
    (hv : w.heap[vb]? = some (.cells vcur 41 (0, 0))) (hvc : vcur.toList = cellR r) (hne : v.ownBlock ≠ some vb) :
    Calls Tryd.prog 21 #[v, .int .i64 (i : Int), .slice (some ⟨vb, 0, none⟩) 1 vc] w fun e w' => ∃ v', e = .returned v' ∧ LstB base w' v' (L.take i ++ r :: L.drop i) ∧ Below base w w' := by
  have hvrow : Row w vb (cellR r) := row_of_heap hv hvc
  rcases Nat.lt_or_eq_of_le hi with hlt | rfl
  · have ho := hown
    rcases hown.2 with ⟨_, h2⟩ | ⟨g, cap, cur, rfl, h3, h4, h5, h6, h7, h8⟩
    · omega
    · have hrow : Row w g (cellsL L) := fun j u hj => by
        have := ho.cells (g := g) rfl j u hj
        rwa [add_at] at this
      rcases Nat.lt_or_ge cap (L.length + 1) with hr | hr
      · exact ins_grow base g i cap vb vc L r w hbase hlt hn h5 hr (ho.lt g rfl).2 hrow hvrow
      · exact ins_shift base g i cap vb vc cur vcur L r w h3 hlt hn hr (by unfold maxLen at h6; omega) h4 h7 hrow hv hvc (fun e => hne (by rw [e]; rfl))
  · refine (ins_end base vb vc v L r w hbase hn hown hvrow).mono ?_
    rintro e w' ⟨v', rfl, h1, h2⟩
    refine ⟨v', rfl, ?_, h2⟩
    rwa [List.take_of_length_le (Nat.le_refl _), List.drop_of_length_le (Nat.le_refl _)]
end Go.Proofs.YtnepnckiciapfaaDoor
