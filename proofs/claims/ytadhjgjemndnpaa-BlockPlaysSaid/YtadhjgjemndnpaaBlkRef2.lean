/-
  The document's device: Read and Write that do not fail, New.
-/
import Derived.Test.YtadhjgjemndnpaaBlkRef
import Derived.BigRegion
import Derived.Deep.DeepCutAuto
namespace Go.Proofs.Ytadhjgjemndnpaa
open Go.RowKit

set_option maxRecDepth 100000 in
set_option maxHeartbeats 2000000 in
theorem rread_ok (g n c i : Nat) (f : Int) (C : Nat → List UInt8) (hi : i < n) (hf : f < 1) (w : World) (hr : Row w g (strsL n C)) : Calls Try.prog 13 #[refV (some ⟨g, 0, none⟩) n c f, .int .i64 (i : Int)] w (Makes (.tuple #[refV (some ⟨g, 0, none⟩) n c f, .string (str (C i)), .int .i64 0]) w) := by
  unfold refV
  have C1 := hide (rfailed_no (some ⟨g, 0, none⟩) n c f hf)
  unfold refV at C1
  have SS := cell_same
  have LB := ltB_add
  have LS := ltB_self
  have LA := alloc_reads
  have LH := alloc_holds
  have hc := hr i _ (strsL_get hi)
  have hg : g < w.heap.size := World.block_lt_of_cell? _ _ hc
  have h0 : ¬ (i : Int) < 0 := by omega
  have h1 : ¬ (n : Int) ≤ (i : Int) := by omega
  have i0 : (0 : Int) ≤ (i : Int) := by omega
  have i1 : (i : Int) < (n : Int) := by omega
  generalize str (C i) = S at *
  have HC := hide hc
  clear hr hc hf
  go_enter Try.func13, Try.ntmps13
  go_upto_region 6 with (go_at_call 18; refine (C1.out _).mono ?_; rintro e w1 ⟨rfl, hb1⟩; have hr1 := below_reads hb1; have hh1 := below_holds hb1; obtain ⟨m1, hs1⟩ := below_grew hb1)
  refine wp_abs (fun W => W.cell? ⟨w.heap.size, 0, none⟩ = some (.slice (some ⟨g, 0, none⟩) n c) ∧ W.cell? ⟨w.heap.size, 1, none⟩ = some (.int .i64 f) ∧ Own W (w.heap.size + 1) 2 ∧ W.cell? ⟨g, i, none⟩ = some (.string S) ∧ Below w.heap.size w W) ?_ ?_
  · have o1 : Own w1 w.heap.size 2 := o_be hb1 (o_al _ (o_new rfl (by simp)))
    have o2 : Own w1 (w.heap.size + 1) 2 := o_be hb1 (o_new (by simp) (by simp))
    exact ⟨set_at (o_set o1) (by omega) (by rw [if_neg (by omega)]; exact set_at o1 (by omega) (by rw [if_pos rfl])), set_at (o_set o1) (by omega) (by rw [if_pos rfl]), o_set (o_set o2), c_set (by simp; omega) (c_set (by simp; omega) (c_be hb1 (c_al _ (c_al _ HC.out)))), bw_set (by simp) (bw_set (by simp) (bw_behind hb1 (bw_alloc (bw_alloc (Below.refl _ _) _) _)) _) _⟩
  clear hb1 hr1 hh1 hs1 HC LB LS LA LH
  rintro w0 ⟨b0, b1, hO, hc, hB⟩
  obtain ⟨u0, hu0⟩ := hO.val 0 (by omega)
  obtain ⟨u1, hu1⟩ := hO.val 1 (by omega)
  have hf0 := hO.free 0 (by omega)
  have hf1 := hO.free 1 (by omega)
  go_region
  go_wp2
  refine bodyPost_ret (v := .tuple #[.agg #[.slice (some ⟨g, 0, none⟩) n c, .int .i64 f], .string S, .int .i64 0]) (by simp (maxDischargeDepth := 4) [results, Try.results13, go_sem, *]) rfl ?_
  exact ⟨rfl, (bw_set (by simp) (bw_set (by simp) hB _) _).drew⟩

theorem infoStr : (Try.prog.info? 9).map (fun i => (i.zero, i.size, i.bytes)) = some (some (.string ByteArray.empty), 1, 16) := by kernel_rfl
theorem str_parts : ∃ i, Try.prog.info? 9 = some i ∧ i.zero = some (.string ByteArray.empty) ∧ i.size = 1 ∧ i.bytes = 16 := by
  have h := infoStr
  cases hq : Try.prog.info? 9 with
  | none => rw [hq] at h; cases h
  | some i =>
    rw [hq] at h
    simp only [Option.map_some, Option.some.injEq, Prod.mk.injEq] at h
    exact ⟨i, rfl, h.1, h.2.1, h.2.2⟩
theorem strs_set {n i : Nat} {C : Nat → List UInt8} {L : List UInt8} (hi : i < n) : (strsL n C).set i (.string (str L)) = strsL n (setC C i L) := by
  refine List.ext_getElem? fun j => ?_
  rw [List.getElem?_set, strsL_length]
  by_cases hj : j < n
  · by_cases e : i = j
    · subst e
      rw [if_pos rfl, if_pos hj, strsL_get hj, show setC C i L i = L from if_pos rfl]
    · rw [if_neg e, strsL_get hj, strsL_get hj, show setC C i L j = C j from if_neg (fun x => e x.symm)]
  · rw [if_neg (by omega), List.getElem?_eq_none (by rw [strsL_length]; omega), List.getElem?_eq_none (by rw [strsL_length]; omega)]

set_option maxRecDepth 100000 in
set_option maxHeartbeats 2000000 in
theorem rwrite_ok (g n c i : Nat) (f : Int) (C : Nat → List UInt8) (L : List UInt8) (hL : L.length = 4096) (hn : n ≤ 64) (hi : i < n) (hf : f < 1) (w : World) (hr : Row w g (strsL n C)) : Calls Try.prog 11 #[refV (some ⟨g, 0, none⟩) n c f, .int .i64 (i : Int), .string (str L)] w fun e w' => ∃ g' c', e = .returned (.tuple #[refV (some ⟨g', 0, none⟩) n c' f, .int .i64 0]) ∧ w.heap.size ≤ g' ∧ g' < w'.heap.size ∧ Row w' g' (strsL n (setC C i L)) ∧ Below w.heap.size w w' := by
  unfold refV
  obtain ⟨i0, hi0, hz0, hz1, hz2⟩ := str_parts
  have C1 := hide (rfailed_no (some ⟨g, 0, none⟩) n c f hf)
  unfold refV at C1
  have SS := cell_same
  have LB := ltB_add
  have LS := ltB_self
  have LA := alloc_reads
  have LH := alloc_holds
  have hsz : (((str L).size : Int) != 4096) = false := by rw [str_size, hL]; rfl
  have hset := hide (strs_set (L := L) (C := C) hi)
  have hln := strsL_length n C
  have H1 := hide (strsL_one n C)
  have h0 : ¬ (i : Int) < 0 := by omega
  have h1 : ¬ (n : Int) ≤ (i : Int) := by omega
  have i0' : (0 : Int) ≤ (i : Int) := by omega
  have i1 : (i : Int) < (n : Int) := by omega
  generalize str L = S at *
  generalize strsL n (setC C i L) = l2 at *
  generalize strsL n C = l at *
  have HR := hide hr
  clear hr hf
  go_enter Try.func11, Try.ntmps11
  go_upto_region 6 with (go_at_call 18; refine (C1.out _).mono ?_; rintro e w1 ⟨rfl, hb1⟩; have hr1 := below_reads hb1; have hh1 := below_holds hb1; obtain ⟨m1, hs1⟩ := below_grew hb1)
  refine wp_abs (fun W => W.cell? ⟨w.heap.size, 0, none⟩ = some (.slice (some ⟨g, 0, none⟩) n c) ∧ W.cell? ⟨w.heap.size, 1, none⟩ = some (.int .i64 f) ∧ Own W w.heap.size 2 ∧ Own W (w.heap.size + 1) 2 ∧ Row W g l ∧ Below w.heap.size w W ∧ w.heap.size + 1 < W.heap.size) ?_ ?_
  · have o1 : Own w1 w.heap.size 2 := o_be hb1 (o_al _ (o_new rfl (by simp)))
    have o2 : Own w1 (w.heap.size + 1) 2 := o_be hb1 (o_new (by simp) (by simp))
    have hg : g < w.heap.size := by
      have hl0 : l[0]? = some l[0] := List.getElem?_eq_getElem (by omega)
      exact World.block_lt_of_cell? _ _ (HR.out 0 _ hl0)
    have hsz1 := hb1.size
    rw [s_al, s_al] at hsz1
    exact ⟨set_at (o_set o1) (by omega) (by rw [if_neg (by omega)]; exact set_at o1 (by omega) (by rw [if_pos rfl])), set_at (o_set o1) (by omega) (by rw [if_pos rfl]), o_set (o_set o1), o_set (o_set o2), k_set (by simp; omega) (k_set (by simp; omega) (k_be hb1 (k_al _ (k_al _ HR.out)))), bw_set (by simp) (bw_set (by simp) (bw_behind hb1 (bw_alloc (bw_alloc (Below.refl _ _) _) _)) _) _, by simp [World.setCell]; omega⟩
  clear hb1 hr1 hh1 hs1 HR LB LS LA LH
  rintro w0 ⟨b0, b1, hA, hO, hr, hB, hsz2⟩
  have x0 := fun o => c_al o b0
  go_upto_region 7 with (at_builtin; refine wpList_append_row rfl _ _ 27 rfl w0.heap.size 9 i0 (.string ByteArray.empty) 16 Try.underlying27 hi0 hz0 hz1 hz2 rfl (.slice (some ⟨w0.heap.size, 0, none⟩) 0 0) 0 [] rfl (own_made rfl (Nat.le_refl _)) g n c l rfl hln (k_al _ hr) H1.out (by omega) (by unfold maxLen; omega) (by omega) (by simp) ?_; intro g1 c1 w2 hb2 hl2 hc2 hr2 hf2 hbel2)
  have hbb : Below w0.heap.size w0 w2 := ((Below.refl _ w0).alloc (Nat.le_refl _) _).trans hbel2
  have hbw : Below w.heap.size w w2 := bw_behind hbb hB
  have y1 := c_be hbb b1
  have yA := o_be hbb hA
  have yO := o_be hbb hO
  have hr2' : Row w2 g1 l := by simpa using hr2
  refine wp_abs (fun W => W.cell? ⟨w.heap.size, 1, none⟩ = some (.int .i64 f) ∧ Own W w.heap.size 2 ∧ Own W (w.heap.size + 1) 2 ∧ Row W g1 l ∧ (∀ i, W.frozen? ⟨g1, i, none⟩ = false) ∧ Below w.heap.size w W ∧ g1 < W.heap.size) ⟨y1, yA, yO, hr2', hf2, hbw, hl2⟩ ?_
  clear x0 b0 b1 hA hO hr hB hbb hbw y1 yA yO hr2 hr2' hf2 hl2 hbel2 hc2 H1
  rintro w3 ⟨b1, hA, hO, hr, hfz, hB, hlt⟩
  obtain ⟨uu, hu⟩ : ∃ u, w3.cell? ⟨g1, i, none⟩ = some u := ⟨_, hr i _ (List.getElem?_eq_getElem (by omega))⟩
  obtain ⟨u0, hu0⟩ := hA.val 0 (by omega)
  obtain ⟨u1, hu1⟩ := hO.val 0 (by omega)
  obtain ⟨u2, hu2⟩ := hO.val 1 (by omega)
  have f0 := hA.free 0 (by omega)
  have f1 := hO.free 0 (by omega)
  have f2 := hO.free 1 (by omega)
  have ne0 : ¬ g1 = w.heap.size := by omega
  have ne1 : ¬ g1 = w.heap.size + 1 := by omega
  have hZ := hide hr
  have HB := hide hB
  clear hr hB hA hO
  go_wp2
  refine bodyPost_ret (v := .tuple #[.agg #[.slice (some ⟨g1, 0, none⟩) n c1, .int .i64 f], .int .i64 0]) (by simp (maxDischargeDepth := 4) [results, Try.results11, go_sem, *]) rfl ?_
  refine ⟨g1, c1, rfl, by omega, by simp [World.setCell]; omega, ?_, bw_set (by simp) (bw_set (by simp) (bw_set (by simp) (bw_set (by simp; omega) HB.out _) _) _) _⟩
  rw [← hset.out]
  exact k_set (by simp; omega) (k_set (by simp; omega) (k_set (by simp; omega) (row_set hZ.out)))
end Go.Proofs.Ytadhjgjemndnpaa
