/-
  The document's New.
-/
import Derived.Test.YtadhjgjemndnpaaBlkRef2
import Derived.Below
namespace Go.Proofs.Ytadhjgjemndnpaa
open Go.RowKit

set_option maxHeartbeats 1000000 in
theorem rnew_bad (n : Int) (h : n < 1 ∨ 64 < n) (w : World) : Calls Try.prog 7 #[.int .i64 n] w (Makes (.tuple #[refV none 0 0 0, .int .i64 2]) w) := by
  unfold refV
  by_cases h1 : n < 1
  · go_enter Try.func7, Try.ntmps7
    go_wp2
    refine bodyPost_ret (v := .tuple #[.agg #[.slice none 0 0, .int .i64 0], .int .i64 2]) (by simp (maxDischargeDepth := 4) [results, Try.results7, go_sem, *]) rfl ?_
    exact ⟨rfl, bw_alloc (Below.refl _ _) _⟩
  · have h2 : 64 < n := by omega
    go_enter Try.func7, Try.ntmps7
    go_wp2
    refine bodyPost_ret (v := .tuple #[.agg #[.slice none 0 0, .int .i64 0], .int .i64 2]) (by simp (maxDischargeDepth := 4) [results, Try.results7, go_sem, *]) rfl ?_
    exact ⟨rfl, bw_alloc (Below.refl _ _) _⟩

theorem strs_rep (n : Nat) : strsL n (fun _ => zeroB) = List.replicate n (.string (str zeroB)) := by
  unfold strsL
  rw [List.map_const', List.length_range]

theorem zero_add (k : Nat) (hk : k < 4096) (W : World) : (Op.stringOp .add (str (List.replicate k 0)) ⟨#[0]⟩).run Try.prog W = .ok (.string (str (List.replicate (k + 1) 0))) W := by
  have : (⟨#[0]⟩ : ByteArray) = str [0] := rfl
  rw [this, run_string_add_sum _ _ _ (by rw [str_size, str_size, List.length_replicate]; simp; omega), str_add, List.replicate_succ']

set_option maxRecDepth 100000 in
set_option maxHeartbeats 2000000 in
theorem rnew_ok (n : Nat) (h1 : 1 ≤ n) (h2 : n ≤ 64) (w : World) : Calls Try.prog 7 #[.int .i64 (n : Int)] w fun e w' => ∃ g c, e = .returned (.tuple #[refV (some ⟨g, 0, none⟩) n c 0, .int .i64 0]) ∧ w.heap.size ≤ g ∧ g < w'.heap.size ∧ Row w' g (strsL n (fun _ => zeroB)) ∧ Below w.heap.size w w' := by
  unfold refV
  obtain ⟨i0, hi0, hz0, hz1, hz2⟩ := str_parts
  have n1 : ¬ (n : Int) < 1 := by omega
  have n2 : ¬ 64 < (n : Int) := by omega
  go_enter Try.func7, Try.ntmps7
  go_wp2
  go_loopw [4, 5] (fun s i wr => ∃ k : Nat, k ≤ 4096 ∧ i = .int .i64 k ∧ s = .string (str (List.replicate k 0)) ∧ wr = w.alloc (.cells #[.slice none 0 0, .int .i64 0] 29)) (fun _ i _ => 4096 - (intOf i).toNat)
  case atStart => exact ⟨0, by omega, rfl, rfl, rfl⟩
  case round s =>
    obtain ⟨k, hk, rfl, rfl, rfl⟩ := hrel
    by_cases hl : k < 4096
    · have hadd := zero_add k hl
      have k0 : (k : Int) < 4096 := by omega
      generalize str (List.replicate k 0) = S at *
      obtain ⟨S2, hS2⟩ : ∃ S2, S2 = str (List.replicate (k + 1) 0) := ⟨_, rfl⟩
      rw [← hS2] at hadd
      go_wp2
      go_roundw
      case rel => exact ⟨k + 1, by omega, by go_num, by first | rfl | rw [hS2], by first | rfl | trivial⟩
      case measure => simp [intOf]; omega
    · obtain rfl : k = 4096 := by omega
      have hZ : str (List.replicate 4096 0) = str zeroB := rfl
      rw [hZ, show ((4096 : Nat) : Int) = 4096 from rfl]
      generalize hSZ : str zeroB = SZ
      go_wp2
      go_loopw [7] (fun i wr => ∃ (k : Nat) (v : Value), k ≤ n ∧ i = .int .i64 k ∧ wr.cell? ⟨w.heap.size + 1, 0, none⟩ = some v ∧ wr.cell? ⟨w.heap.size + 1, 1, none⟩ = some (.int .i64 0) ∧ Own wr w.heap.size 2 ∧ Own wr (w.heap.size + 1) 2 ∧ wr.ownsRow (w.heap.size + 2) 9 1 v k (List.replicate k (.string SZ)) ∧ Below w.heap.size w wr ∧ w.heap.size + 2 ≤ wr.heap.size) (fun i _ => n - (intOf i).toNat)
      case atStart =>
        exact ⟨0, .slice none 0 0, by omega, rfl, by simp [go_sem], by simp [go_sem], o_al _ (o_new rfl (by simp)), o_new (by simp) (by simp), World.ownsRow_nil _ _ _ _, bw_alloc (bw_alloc (Below.refl _ _) _) _, by simp⟩
      case round =>
        obtain ⟨k, v, hk, rfl, cv, c1, hA, hO, hown, hbel, hsz⟩ := hrel
        by_cases hl : k < n
        · have k0 : (k : Int) < (n : Int) := by omega
          have hO1 := hide hO
          have hA1 := hide hA
          have hC1 := hide c1
          clear hO hA c1 hZ
          go_wp2_with (at_builtin; refine wpList_append_own _ rfl _ _ 27 rfl (w.heap.size + 2) 9 i0 (.string ByteArray.empty) 1 16 Try.underlying27 hi0 hz0 hz1 hz2 rfl (by decide) _ _ _ rfl (hown.alloc _) ⟨wr.heap.size, 0, none⟩ 1 1 [.string SZ] rfl rfl (cell_one _ _ _ rfl) (fun x hx => by simp at hx; subst hx; rfl) (by unfold maxLen; omega) (by omega) (by simp; omega) ?_; intro v' w3 hown' hgrow3 hnil; obtain ⟨g', cap', rfl, -, -, -, -⟩ := owns_cell hown' (by omega); have hb3 : Below (w.heap.size + 2) wr w3 := Below.grown ((Below.refl _ wr).alloc (by omega) _) hgrow3 (by simp; omega) (row_base hown); have hO3 : Own w3 (w.heap.size + 1) 2 := (fun i hi => ⟨by rw [hb3.cell (p := ⟨w.heap.size + 1, i, none⟩) (by dsimp only; omega)]; exact (hO1.out i hi).1, by rw [hb3.frozen (p := ⟨w.heap.size + 1, i, none⟩) (by dsimp only; omega)]; exact (hO1.out i hi).2⟩); have hA3 : Own w3 w.heap.size 2 := (fun i hi => ⟨by rw [hb3.cell (p := ⟨w.heap.size, i, none⟩) (by dsimp only; omega)]; exact (hA1.out i hi).1, by rw [hb3.frozen (p := ⟨w.heap.size, i, none⟩) (by dsimp only; omega)]; exact (hA1.out i hi).2⟩); have hc3 : w3.cell? ⟨w.heap.size + 1, 1, none⟩ = some (.int .i64 0) := (hb3.cell (by dsimp only; omega)).trans hC1.out; obtain ⟨uu, hu⟩ := hO3.val 0 (by omega); have hf3 := hO3.free 0 (by omega); have HO3 := hide hO3; have HA3 := hide hA3; have HC3 := hide hc3; clear hO3 hA3 hc3)
          go_roundw
          case rel => exact ⟨k + 1, _, by omega, by go_num, cell_same _ _ _ (by rw [hu]; rfl), set_at HO3.out (by omega) (by rw [if_neg (by omega)]; exact HC3.out), o_set HA3.out, o_set HO3.out, by rw [List.replicate_succ']; exact ownsRow_setCell_below (by simpa using hown') (by dsimp only; omega) _, bw_set (by simp) (hbel.trans (hb3.mono (by omega))) _, by have := hb3.size; simp [World.setCell]; omega⟩
          case measure => simp [intOf]; omega
        · obtain rfl : k = n := by omega
          obtain ⟨g, cap, rfl, q1, q2, q3, q4⟩ := owns_cell hown (by omega)
          have HR : Hid (Row wr g (strsL k (fun _ => zeroB))) := hide (by rw [strs_rep, hSZ]; exact q4)
          obtain ⟨u0, hu0⟩ := hA.val 0 (by omega)
          obtain ⟨u1, hu1⟩ := hA.val 1 (by omega)
          have f0 := hA.free 0 (by omega)
          have f1 := hA.free 1 (by omega)
          have SS := cell_same
          clear hown q4 hA hO hZ
          go_wp2
          refine bodyPost_ret (v := .tuple #[.agg #[.slice (some ⟨g, 0, none⟩) k cap, .int .i64 0], .int .i64 0]) (by simp (maxDischargeDepth := 4) [results, Try.results7, go_sem, *]) rfl ?_
          exact ⟨g, cap, rfl, by omega, by simp [World.setCell]; omega, k_set (by simp; omega) (k_set (by simp; omega) HR.out), bw_set (by simp) (bw_set (by simp) hbel _) _⟩
end Go.Proofs.Ytadhjgjemndnpaa
