/-
  Where an instruction goes, by the document.
-/
import Derived.Test.YtlommbeokbicjaaGreatDoorGRefA
import Derived.Test.YtlommbeokbicjaaGreatDoorInstRows
import Derived.BigRegion
import Derived.BigQuiet
namespace Go.Proofs.YtlommbeokbicjaaGreatDoor
open Go.RowKit InstMath AsmMath
open Go.Lib (itoa)

/-- What goes answers: a place, and whether it counts. -/
def GoesR (q : Option Nat) (w : World) (e : Ending) (w' : World) : Prop := ∃ T : Int, e = .returned (.tuple #[.int .i64 T, .bool q.isSome]) ∧ (∀ t, q = some t → T = (t : Int)) ∧ Below w.heap.size w w'

set_option maxRecDepth 100000 in
set_option maxHeartbeats 8000000 in
theorem rgoes_A (j : Nat) (hj : j < 69) (x0 x1 x2 m : Int) (p n : Nat) (_hp : p ≤ 10000) (_hn : n ≤ 10000) (s : Nat) (hs : shp (j + 1) = s) (n1 : ¬ s = 66) (n2 : ¬ s = 74) (w : World) :
    Calls Tryz.prog 36 #[.agg #[.int .i64 ((j : Int) + 1), .int .i64 x0, .int .i64 x1, .int .i64 x2, .int .i64 m], .int .i64 (p : Int), .int .i64 (n : Int)] w (Makes (.tuple #[.int .i64 0, .bool false]) w) := by
  obtain ⟨K, hK⟩ : ∃ K, (j : Int) + 1 = K := ⟨_, rfl⟩
  have k1 : IntKind.i64.wrap (K - 1) = (j : Int) := by rw [IntKind.wrap_i64]; omega
  have k7 : IntKind.i64.wrap (j : Int) = (j : Int) := by rw [IntKind.wrap_i64]; omega
  have k2 : K - 1 = (j : Int) := by omega
  have k3 : (j : Int) < 69 := by omega
  have k4 : (0 : Int) ≤ (j : Int) := by omega
  have k5 : K ≤ 69 := by omega
  have k6 : 1 ≤ K := by omega
  rw [hK]
  clear hK
  have n3 : ((s : Int) == 66) = false := by simp; omega
  have n4 : ((s : Int) == 74) = false := by simp; omega
  have SS := cell_same
  have LB' := ltB_add
  have LS := ltB_self
  have LA' := alloc_reads
  have LH := alloc_holds
  go_enter Tryz.func36, Tryz.ntmps36
  go_upto_region 1 with fail
  refine wp_abs (fun W => Below w.heap.size w W ∧ W.cell? ⟨w.heap.size, 0, none⟩ = some (.int .i64 K) ∧ W.cell? ⟨w.heap.size, 4, none⟩ = some (.int .i64 m)) ?_ ?_
  · refine ⟨?_, ?_, ?_⟩
    · repeat (first | with_reducible assumption | with_reducible exact Below.refl _ _ | with_reducible refine Below.drew ?_ | with_reducible refine below_drewN ?_ _ | with_reducible refine bw_alloc ?_ _ | (with_reducible refine bw_set ?_ ?_ _; focus (dsimp only; omega)) | (with_reducible apply bw_behind; with_reducible assumption))
    · simp [go_sem]
    · simp [go_sem]
  rintro w0 ⟨hB0, c0, c4⟩
  have lB : ltB w.heap.size w0.heap.size = true := by unfold ltB; simpa using World.block_lt_of_cell? _ _ c0
  go_region_with (first | (go_at_call 66; (with_reducible refine (rows_any _).mono ?_); rintro e wa ⟨N, rfl, hN, hba, hRa⟩; obtain ⟨r0, r1, r2, r3, r4⟩ := hRa _ hj; rw [hs] at r1; have hra := below_reads hba; have hha := below_holds hba; obtain ⟨ma, hsa⟩ := below_grew hba))
  all_goals (
    have hBa := bw_behind hba (Below.drew hB0)
    clear c0 k1 k2 k5 k6 r0 r2 r3 r4 hRa
    go_wp2
    refine bodyPost_ret (v := .tuple #[.int .i64 0, .bool false]) (by simp (maxDischargeDepth := 4) [results, Tryz.results36, go_sem, *]) rfl ?_
    refine ⟨rfl, ?_⟩
    repeat (first | with_reducible assumption | with_reducible exact Below.refl _ _ | with_reducible refine Below.drew ?_ | with_reducible refine below_drewN ?_ _ | with_reducible refine bw_alloc ?_ _ | (with_reducible refine bw_set ?_ ?_ _; focus (dsimp only; omega)) | (with_reducible apply bw_behind; with_reducible assumption)))

set_option maxRecDepth 100000 in
set_option maxHeartbeats 8000000 in
theorem rgoes_B0 (j : Nat) (hj : j < 69) (x0 x1 x2 m : Int) (p n : Nat) (_hp : p ≤ 10000) (_hn : n ≤ 10000) (hs : shp (j + 1) = 66) (m4 : ¬ m.tmod 4 = 0) (w : World) :
    Calls Tryz.prog 36 #[.agg #[.int .i64 ((j : Int) + 1), .int .i64 x0, .int .i64 x1, .int .i64 x2, .int .i64 m], .int .i64 (p : Int), .int .i64 (n : Int)] w (Makes (.tuple #[.int .i64 0, .bool false]) w) := by
  obtain ⟨K, hK⟩ : ∃ K, (j : Int) + 1 = K := ⟨_, rfl⟩
  have k1 : IntKind.i64.wrap (K - 1) = (j : Int) := by rw [IntKind.wrap_i64]; omega
  have k7 : IntKind.i64.wrap (j : Int) = (j : Int) := by rw [IntKind.wrap_i64]; omega
  have k2 : K - 1 = (j : Int) := by omega
  have k3 : (j : Int) < 69 := by omega
  have k4 : (0 : Int) ≤ (j : Int) := by omega
  have k5 : K ≤ 69 := by omega
  have k6 : 1 ≤ K := by omega
  rw [hK]
  clear hK
  have m5 : (m.tmod 4 == 0) = false := by simpa using m4
  have SS := cell_same
  have LB' := ltB_add
  have LS := ltB_self
  have LA' := alloc_reads
  have LH := alloc_holds
  go_enter Tryz.func36, Tryz.ntmps36
  go_upto_region 1 with fail
  refine wp_abs (fun W => Below w.heap.size w W ∧ W.cell? ⟨w.heap.size, 0, none⟩ = some (.int .i64 K) ∧ W.cell? ⟨w.heap.size, 4, none⟩ = some (.int .i64 m)) ?_ ?_
  · refine ⟨?_, ?_, ?_⟩
    · repeat (first | with_reducible assumption | with_reducible exact Below.refl _ _ | with_reducible refine Below.drew ?_ | with_reducible refine below_drewN ?_ _ | with_reducible refine bw_alloc ?_ _ | (with_reducible refine bw_set ?_ ?_ _; focus (dsimp only; omega)) | (with_reducible apply bw_behind; with_reducible assumption))
    · simp [go_sem]
    · simp [go_sem]
  rintro w0 ⟨hB0, c0, c4⟩
  have lB : ltB w.heap.size w0.heap.size = true := by unfold ltB; simpa using World.block_lt_of_cell? _ _ c0
  go_region_with (first | (go_at_call 66; (with_reducible refine (rows_any _).mono ?_); rintro e wa ⟨N, rfl, hN, hba, hRa⟩; obtain ⟨r0, r1, r2, r3, r4⟩ := hRa _ hj; rw [hs] at r1; have hra := below_reads hba; have hha := below_holds hba; obtain ⟨ma, hsa⟩ := below_grew hba))
  all_goals (
    have hBa := bw_behind hba (Below.drew hB0)
    clear c0 k1 k2 k5 k6 r0 r2 r3 r4 hRa
    go_wp2
    refine bodyPost_ret (v := .tuple #[.int .i64 0, .bool false]) (by simp (maxDischargeDepth := 4) [results, Tryz.results36, go_sem, *]) rfl ?_
    refine ⟨rfl, ?_⟩
    repeat (first | with_reducible assumption | with_reducible exact Below.refl _ _ | with_reducible refine Below.drew ?_ | with_reducible refine below_drewN ?_ _ | with_reducible refine bw_alloc ?_ _ | (with_reducible refine bw_set ?_ ?_ _; focus (dsimp only; omega)) | (with_reducible apply bw_behind; with_reducible assumption)))

set_option maxRecDepth 100000 in
set_option maxHeartbeats 8000000 in
theorem rgoes_B1 (j : Nat) (hj : j < 69) (x0 x1 x2 m : Int) (p n : Nat) (_hp : p ≤ 10000) (_hn : n ≤ 10000) (T : Int) (hs : shp (j + 1) = 66) (m4 : m.tmod 4 = 0) (e1 : IntKind.i64.wrap (m.tdiv 4) = m.tdiv 4) (_e2 : IntKind.i64.wrap ((p : Int) + m.tdiv 4) = T) (e3 : (p : Int) + m.tdiv 4 = T) (t1 : 0 ≤ T) (t2 : T ≤ (n : Int)) (w : World) :
    Calls Tryz.prog 36 #[.agg #[.int .i64 ((j : Int) + 1), .int .i64 x0, .int .i64 x1, .int .i64 x2, .int .i64 m], .int .i64 (p : Int), .int .i64 (n : Int)] w (Makes (.tuple #[.int .i64 T, .bool true]) w) := by
  obtain ⟨K, hK⟩ : ∃ K, (j : Int) + 1 = K := ⟨_, rfl⟩
  have k1 : IntKind.i64.wrap (K - 1) = (j : Int) := by rw [IntKind.wrap_i64]; omega
  have k7 : IntKind.i64.wrap (j : Int) = (j : Int) := by rw [IntKind.wrap_i64]; omega
  have k2 : K - 1 = (j : Int) := by omega
  have k3 : (j : Int) < 69 := by omega
  have k4 : (0 : Int) ≤ (j : Int) := by omega
  have k5 : K ≤ 69 := by omega
  have k6 : 1 ≤ K := by omega
  rw [hK]
  clear hK
  have e4 : IntKind.i64.wrap T = T := by
    have := _e2
    rw [e3] at this
    exact this
  have e5 : wrap64 T = T := (IntWalk.i64_left T).symm.trans e4
  have SS := cell_same
  have LB' := ltB_add
  have LS := ltB_self
  have LA' := alloc_reads
  have LH := alloc_holds
  go_enter Tryz.func36, Tryz.ntmps36
  go_upto_region 1 with fail
  refine wp_abs (fun W => Below w.heap.size w W ∧ W.cell? ⟨w.heap.size, 0, none⟩ = some (.int .i64 K) ∧ W.cell? ⟨w.heap.size, 4, none⟩ = some (.int .i64 m)) ?_ ?_
  · refine ⟨?_, ?_, ?_⟩
    · repeat (first | with_reducible assumption | with_reducible exact Below.refl _ _ | with_reducible refine Below.drew ?_ | with_reducible refine below_drewN ?_ _ | with_reducible refine bw_alloc ?_ _ | (with_reducible refine bw_set ?_ ?_ _; focus (dsimp only; omega)) | (with_reducible apply bw_behind; with_reducible assumption))
    · simp [go_sem]
    · simp [go_sem]
  rintro w0 ⟨hB0, c0, c4⟩
  have lB : ltB w.heap.size w0.heap.size = true := by unfold ltB; simpa using World.block_lt_of_cell? _ _ c0
  go_region_with (first | (go_at_call 66; (with_reducible refine (rows_any _).mono ?_); rintro e wa ⟨N, rfl, hN, hba, hRa⟩; obtain ⟨r0, r1, r2, r3, r4⟩ := hRa _ hj; rw [hs] at r1; have hra := below_reads hba; have hha := below_holds hba; obtain ⟨ma, hsa⟩ := below_grew hba))
  all_goals (
    have hBa := bw_behind hba (Below.drew hB0)
    clear c0 k1 k2 k5 k6 r0 r2 r3 r4 hRa
    go_wp2
    refine bodyPost_ret (v := .tuple #[.int .i64 T, .bool true]) (by simp (maxDischargeDepth := 4) [results, Tryz.results36, go_sem, *]) rfl ?_
    refine ⟨rfl, ?_⟩
    repeat (first | with_reducible assumption | with_reducible exact Below.refl _ _ | with_reducible refine Below.drew ?_ | with_reducible refine below_drewN ?_ _ | with_reducible refine bw_alloc ?_ _ | (with_reducible refine bw_set ?_ ?_ _; focus (dsimp only; omega)) | (with_reducible apply bw_behind; with_reducible assumption)))

set_option maxRecDepth 100000 in
set_option maxHeartbeats 8000000 in
theorem rgoes_B2 (j : Nat) (hj : j < 69) (x0 x1 x2 m : Int) (p n : Nat) (_hp : p ≤ 10000) (_hn : n ≤ 10000) (T : Int) (hs : shp (j + 1) = 66) (m4 : m.tmod 4 = 0) (e1 : IntKind.i64.wrap (m.tdiv 4) = m.tdiv 4) (_e2 : IntKind.i64.wrap ((p : Int) + m.tdiv 4) = T) (e3 : (p : Int) + m.tdiv 4 = T) (t1 : 0 ≤ T) (t2 : ¬ T ≤ (n : Int)) (w : World) :
    Calls Tryz.prog 36 #[.agg #[.int .i64 ((j : Int) + 1), .int .i64 x0, .int .i64 x1, .int .i64 x2, .int .i64 m], .int .i64 (p : Int), .int .i64 (n : Int)] w (Makes (.tuple #[.int .i64 T, .bool false]) w) := by
  obtain ⟨K, hK⟩ : ∃ K, (j : Int) + 1 = K := ⟨_, rfl⟩
  have k1 : IntKind.i64.wrap (K - 1) = (j : Int) := by rw [IntKind.wrap_i64]; omega
  have k7 : IntKind.i64.wrap (j : Int) = (j : Int) := by rw [IntKind.wrap_i64]; omega
  have k2 : K - 1 = (j : Int) := by omega
  have k3 : (j : Int) < 69 := by omega
  have k4 : (0 : Int) ≤ (j : Int) := by omega
  have k5 : K ≤ 69 := by omega
  have k6 : 1 ≤ K := by omega
  rw [hK]
  clear hK
  have e4 : IntKind.i64.wrap T = T := by
    have := _e2
    rw [e3] at this
    exact this
  have e5 : wrap64 T = T := (IntWalk.i64_left T).symm.trans e4
  have t3 : (n : Int) < T := by omega
  have SS := cell_same
  have LB' := ltB_add
  have LS := ltB_self
  have LA' := alloc_reads
  have LH := alloc_holds
  go_enter Tryz.func36, Tryz.ntmps36
  go_upto_region 1 with fail
  refine wp_abs (fun W => Below w.heap.size w W ∧ W.cell? ⟨w.heap.size, 0, none⟩ = some (.int .i64 K) ∧ W.cell? ⟨w.heap.size, 4, none⟩ = some (.int .i64 m)) ?_ ?_
  · refine ⟨?_, ?_, ?_⟩
    · repeat (first | with_reducible assumption | with_reducible exact Below.refl _ _ | with_reducible refine Below.drew ?_ | with_reducible refine below_drewN ?_ _ | with_reducible refine bw_alloc ?_ _ | (with_reducible refine bw_set ?_ ?_ _; focus (dsimp only; omega)) | (with_reducible apply bw_behind; with_reducible assumption))
    · simp [go_sem]
    · simp [go_sem]
  rintro w0 ⟨hB0, c0, c4⟩
  have lB : ltB w.heap.size w0.heap.size = true := by unfold ltB; simpa using World.block_lt_of_cell? _ _ c0
  go_region_with (first | (go_at_call 66; (with_reducible refine (rows_any _).mono ?_); rintro e wa ⟨N, rfl, hN, hba, hRa⟩; obtain ⟨r0, r1, r2, r3, r4⟩ := hRa _ hj; rw [hs] at r1; have hra := below_reads hba; have hha := below_holds hba; obtain ⟨ma, hsa⟩ := below_grew hba))
  all_goals (
    have hBa := bw_behind hba (Below.drew hB0)
    clear c0 k1 k2 k5 k6 r0 r2 r3 r4 hRa
    go_wp2
    refine bodyPost_ret (v := .tuple #[.int .i64 T, .bool false]) (by simp (maxDischargeDepth := 4) [results, Tryz.results36, go_sem, *]) rfl ?_
    refine ⟨rfl, ?_⟩
    repeat (first | with_reducible assumption | with_reducible exact Below.refl _ _ | with_reducible refine Below.drew ?_ | with_reducible refine below_drewN ?_ _ | with_reducible refine bw_alloc ?_ _ | (with_reducible refine bw_set ?_ ?_ _; focus (dsimp only; omega)) | (with_reducible apply bw_behind; with_reducible assumption)))

set_option maxRecDepth 100000 in
set_option maxHeartbeats 8000000 in
theorem rgoes_B3 (j : Nat) (hj : j < 69) (x0 x1 x2 m : Int) (p n : Nat) (_hp : p ≤ 10000) (_hn : n ≤ 10000) (T : Int) (hs : shp (j + 1) = 66) (m4 : m.tmod 4 = 0) (e1 : IntKind.i64.wrap (m.tdiv 4) = m.tdiv 4) (_e2 : IntKind.i64.wrap ((p : Int) + m.tdiv 4) = T) (e3 : (p : Int) + m.tdiv 4 = T) (t1 : ¬ 0 ≤ T) (w : World) :
    Calls Tryz.prog 36 #[.agg #[.int .i64 ((j : Int) + 1), .int .i64 x0, .int .i64 x1, .int .i64 x2, .int .i64 m], .int .i64 (p : Int), .int .i64 (n : Int)] w (Makes (.tuple #[.int .i64 T, .bool false]) w) := by
  obtain ⟨K, hK⟩ : ∃ K, (j : Int) + 1 = K := ⟨_, rfl⟩
  have k1 : IntKind.i64.wrap (K - 1) = (j : Int) := by rw [IntKind.wrap_i64]; omega
  have k7 : IntKind.i64.wrap (j : Int) = (j : Int) := by rw [IntKind.wrap_i64]; omega
  have k2 : K - 1 = (j : Int) := by omega
  have k3 : (j : Int) < 69 := by omega
  have k4 : (0 : Int) ≤ (j : Int) := by omega
  have k5 : K ≤ 69 := by omega
  have k6 : 1 ≤ K := by omega
  rw [hK]
  clear hK
  have e4 : IntKind.i64.wrap T = T := by
    have := _e2
    rw [e3] at this
    exact this
  have e5 : wrap64 T = T := (IntWalk.i64_left T).symm.trans e4
  have t3 : T < 0 := by omega
  have SS := cell_same
  have LB' := ltB_add
  have LS := ltB_self
  have LA' := alloc_reads
  have LH := alloc_holds
  go_enter Tryz.func36, Tryz.ntmps36
  go_upto_region 1 with fail
  refine wp_abs (fun W => Below w.heap.size w W ∧ W.cell? ⟨w.heap.size, 0, none⟩ = some (.int .i64 K) ∧ W.cell? ⟨w.heap.size, 4, none⟩ = some (.int .i64 m)) ?_ ?_
  · refine ⟨?_, ?_, ?_⟩
    · repeat (first | with_reducible assumption | with_reducible exact Below.refl _ _ | with_reducible refine Below.drew ?_ | with_reducible refine below_drewN ?_ _ | with_reducible refine bw_alloc ?_ _ | (with_reducible refine bw_set ?_ ?_ _; focus (dsimp only; omega)) | (with_reducible apply bw_behind; with_reducible assumption))
    · simp [go_sem]
    · simp [go_sem]
  rintro w0 ⟨hB0, c0, c4⟩
  have lB : ltB w.heap.size w0.heap.size = true := by unfold ltB; simpa using World.block_lt_of_cell? _ _ c0
  go_region_with (first | (go_at_call 66; (with_reducible refine (rows_any _).mono ?_); rintro e wa ⟨N, rfl, hN, hba, hRa⟩; obtain ⟨r0, r1, r2, r3, r4⟩ := hRa _ hj; rw [hs] at r1; have hra := below_reads hba; have hha := below_holds hba; obtain ⟨ma, hsa⟩ := below_grew hba))
  all_goals (
    have hBa := bw_behind hba (Below.drew hB0)
    clear c0 k1 k2 k5 k6 r0 r2 r3 r4 hRa
    go_wp2
    refine bodyPost_ret (v := .tuple #[.int .i64 T, .bool false]) (by simp (maxDischargeDepth := 4) [results, Tryz.results36, go_sem, *]) rfl ?_
    refine ⟨rfl, ?_⟩
    repeat (first | with_reducible assumption | with_reducible exact Below.refl _ _ | with_reducible refine Below.drew ?_ | with_reducible refine below_drewN ?_ _ | with_reducible refine bw_alloc ?_ _ | (with_reducible refine bw_set ?_ ?_ _; focus (dsimp only; omega)) | (with_reducible apply bw_behind; with_reducible assumption)))

set_option maxRecDepth 100000 in
set_option maxHeartbeats 8000000 in
theorem rgoes_J0 (j : Nat) (hj : j < 69) (x0 x1 x2 m : Int) (p n : Nat) (_hp : p ≤ 10000) (_hn : n ≤ 10000) (hs : shp (j + 1) = 74) (m4 : ¬ m.tmod 4 = 0) (w : World) :
    Calls Tryz.prog 36 #[.agg #[.int .i64 ((j : Int) + 1), .int .i64 x0, .int .i64 x1, .int .i64 x2, .int .i64 m], .int .i64 (p : Int), .int .i64 (n : Int)] w (Makes (.tuple #[.int .i64 0, .bool false]) w) := by
  obtain ⟨K, hK⟩ : ∃ K, (j : Int) + 1 = K := ⟨_, rfl⟩
  have k1 : IntKind.i64.wrap (K - 1) = (j : Int) := by rw [IntKind.wrap_i64]; omega
  have k7 : IntKind.i64.wrap (j : Int) = (j : Int) := by rw [IntKind.wrap_i64]; omega
  have k2 : K - 1 = (j : Int) := by omega
  have k3 : (j : Int) < 69 := by omega
  have k4 : (0 : Int) ≤ (j : Int) := by omega
  have k5 : K ≤ 69 := by omega
  have k6 : 1 ≤ K := by omega
  rw [hK]
  clear hK
  have m5 : (m.tmod 4 == 0) = false := by simpa using m4
  have SS := cell_same
  have LB' := ltB_add
  have LS := ltB_self
  have LA' := alloc_reads
  have LH := alloc_holds
  go_enter Tryz.func36, Tryz.ntmps36
  go_upto_region 1 with fail
  refine wp_abs (fun W => Below w.heap.size w W ∧ W.cell? ⟨w.heap.size, 0, none⟩ = some (.int .i64 K) ∧ W.cell? ⟨w.heap.size, 4, none⟩ = some (.int .i64 m)) ?_ ?_
  · refine ⟨?_, ?_, ?_⟩
    · repeat (first | with_reducible assumption | with_reducible exact Below.refl _ _ | with_reducible refine Below.drew ?_ | with_reducible refine below_drewN ?_ _ | with_reducible refine bw_alloc ?_ _ | (with_reducible refine bw_set ?_ ?_ _; focus (dsimp only; omega)) | (with_reducible apply bw_behind; with_reducible assumption))
    · simp [go_sem]
    · simp [go_sem]
  rintro w0 ⟨hB0, c0, c4⟩
  have lB : ltB w.heap.size w0.heap.size = true := by unfold ltB; simpa using World.block_lt_of_cell? _ _ c0
  go_region_with (first | (go_at_call 66; (with_reducible refine (rows_any _).mono ?_); rintro e wa ⟨N, rfl, hN, hba, hRa⟩; obtain ⟨r0, r1, r2, r3, r4⟩ := hRa _ hj; rw [hs] at r1; have hra := below_reads hba; have hha := below_holds hba; obtain ⟨ma, hsa⟩ := below_grew hba))
  all_goals (
    have hBa := bw_behind hba (Below.drew hB0)
    clear c0 k1 k2 k5 k6 r0 r2 r3 r4 hRa
    go_wp2
    refine bodyPost_ret (v := .tuple #[.int .i64 0, .bool false]) (by simp (maxDischargeDepth := 4) [results, Tryz.results36, go_sem, *]) rfl ?_
    refine ⟨rfl, ?_⟩
    repeat (first | with_reducible assumption | with_reducible exact Below.refl _ _ | with_reducible refine Below.drew ?_ | with_reducible refine below_drewN ?_ _ | with_reducible refine bw_alloc ?_ _ | (with_reducible refine bw_set ?_ ?_ _; focus (dsimp only; omega)) | (with_reducible apply bw_behind; with_reducible assumption)))

set_option maxRecDepth 100000 in
set_option maxHeartbeats 8000000 in
theorem rgoes_J1 (j : Nat) (hj : j < 69) (x0 x1 x2 m : Int) (p n : Nat) (_hp : p ≤ 10000) (_hn : n ≤ 10000) (T : Int) (hs : shp (j + 1) = 74) (m4 : m.tmod 4 = 0) (e1 : IntKind.i64.wrap (m.tdiv 4) = m.tdiv 4) (_e2 : IntKind.i64.wrap ((p : Int) + m.tdiv 4) = T) (e3 : (p : Int) + m.tdiv 4 = T) (t1 : 0 ≤ T) (t2 : T ≤ (n : Int)) (w : World) :
    Calls Tryz.prog 36 #[.agg #[.int .i64 ((j : Int) + 1), .int .i64 x0, .int .i64 x1, .int .i64 x2, .int .i64 m], .int .i64 (p : Int), .int .i64 (n : Int)] w (Makes (.tuple #[.int .i64 T, .bool true]) w) := by
  obtain ⟨K, hK⟩ : ∃ K, (j : Int) + 1 = K := ⟨_, rfl⟩
  have k1 : IntKind.i64.wrap (K - 1) = (j : Int) := by rw [IntKind.wrap_i64]; omega
  have k7 : IntKind.i64.wrap (j : Int) = (j : Int) := by rw [IntKind.wrap_i64]; omega
  have k2 : K - 1 = (j : Int) := by omega
  have k3 : (j : Int) < 69 := by omega
  have k4 : (0 : Int) ≤ (j : Int) := by omega
  have k5 : K ≤ 69 := by omega
  have k6 : 1 ≤ K := by omega
  rw [hK]
  clear hK
  have e4 : IntKind.i64.wrap T = T := by
    have := _e2
    rw [e3] at this
    exact this
  have e5 : wrap64 T = T := (IntWalk.i64_left T).symm.trans e4
  have SS := cell_same
  have LB' := ltB_add
  have LS := ltB_self
  have LA' := alloc_reads
  have LH := alloc_holds
  go_enter Tryz.func36, Tryz.ntmps36
  go_upto_region 1 with fail
  refine wp_abs (fun W => Below w.heap.size w W ∧ W.cell? ⟨w.heap.size, 0, none⟩ = some (.int .i64 K) ∧ W.cell? ⟨w.heap.size, 4, none⟩ = some (.int .i64 m)) ?_ ?_
  · refine ⟨?_, ?_, ?_⟩
    · repeat (first | with_reducible assumption | with_reducible exact Below.refl _ _ | with_reducible refine Below.drew ?_ | with_reducible refine below_drewN ?_ _ | with_reducible refine bw_alloc ?_ _ | (with_reducible refine bw_set ?_ ?_ _; focus (dsimp only; omega)) | (with_reducible apply bw_behind; with_reducible assumption))
    · simp [go_sem]
    · simp [go_sem]
  rintro w0 ⟨hB0, c0, c4⟩
  have lB : ltB w.heap.size w0.heap.size = true := by unfold ltB; simpa using World.block_lt_of_cell? _ _ c0
  go_region_with (first | (go_at_call 66; (with_reducible refine (rows_any _).mono ?_); rintro e wa ⟨N, rfl, hN, hba, hRa⟩; obtain ⟨r0, r1, r2, r3, r4⟩ := hRa _ hj; rw [hs] at r1; have hra := below_reads hba; have hha := below_holds hba; obtain ⟨ma, hsa⟩ := below_grew hba))
  all_goals (
    have hBa := bw_behind hba (Below.drew hB0)
    clear c0 k1 k2 k5 k6 r0 r2 r3 r4 hRa
    go_wp2
    refine bodyPost_ret (v := .tuple #[.int .i64 T, .bool true]) (by simp (maxDischargeDepth := 4) [results, Tryz.results36, go_sem, *]) rfl ?_
    refine ⟨rfl, ?_⟩
    repeat (first | with_reducible assumption | with_reducible exact Below.refl _ _ | with_reducible refine Below.drew ?_ | with_reducible refine below_drewN ?_ _ | with_reducible refine bw_alloc ?_ _ | (with_reducible refine bw_set ?_ ?_ _; focus (dsimp only; omega)) | (with_reducible apply bw_behind; with_reducible assumption)))

set_option maxRecDepth 100000 in
set_option maxHeartbeats 8000000 in
theorem rgoes_J2 (j : Nat) (hj : j < 69) (x0 x1 x2 m : Int) (p n : Nat) (_hp : p ≤ 10000) (_hn : n ≤ 10000) (T : Int) (hs : shp (j + 1) = 74) (m4 : m.tmod 4 = 0) (e1 : IntKind.i64.wrap (m.tdiv 4) = m.tdiv 4) (_e2 : IntKind.i64.wrap ((p : Int) + m.tdiv 4) = T) (e3 : (p : Int) + m.tdiv 4 = T) (t1 : 0 ≤ T) (t2 : ¬ T ≤ (n : Int)) (w : World) :
    Calls Tryz.prog 36 #[.agg #[.int .i64 ((j : Int) + 1), .int .i64 x0, .int .i64 x1, .int .i64 x2, .int .i64 m], .int .i64 (p : Int), .int .i64 (n : Int)] w (Makes (.tuple #[.int .i64 T, .bool false]) w) := by
  obtain ⟨K, hK⟩ : ∃ K, (j : Int) + 1 = K := ⟨_, rfl⟩
  have k1 : IntKind.i64.wrap (K - 1) = (j : Int) := by rw [IntKind.wrap_i64]; omega
  have k7 : IntKind.i64.wrap (j : Int) = (j : Int) := by rw [IntKind.wrap_i64]; omega
  have k2 : K - 1 = (j : Int) := by omega
  have k3 : (j : Int) < 69 := by omega
  have k4 : (0 : Int) ≤ (j : Int) := by omega
  have k5 : K ≤ 69 := by omega
  have k6 : 1 ≤ K := by omega
  rw [hK]
  clear hK
  have e4 : IntKind.i64.wrap T = T := by
    have := _e2
    rw [e3] at this
    exact this
  have e5 : wrap64 T = T := (IntWalk.i64_left T).symm.trans e4
  have t3 : (n : Int) < T := by omega
  have SS := cell_same
  have LB' := ltB_add
  have LS := ltB_self
  have LA' := alloc_reads
  have LH := alloc_holds
  go_enter Tryz.func36, Tryz.ntmps36
  go_upto_region 1 with fail
  refine wp_abs (fun W => Below w.heap.size w W ∧ W.cell? ⟨w.heap.size, 0, none⟩ = some (.int .i64 K) ∧ W.cell? ⟨w.heap.size, 4, none⟩ = some (.int .i64 m)) ?_ ?_
  · refine ⟨?_, ?_, ?_⟩
    · repeat (first | with_reducible assumption | with_reducible exact Below.refl _ _ | with_reducible refine Below.drew ?_ | with_reducible refine below_drewN ?_ _ | with_reducible refine bw_alloc ?_ _ | (with_reducible refine bw_set ?_ ?_ _; focus (dsimp only; omega)) | (with_reducible apply bw_behind; with_reducible assumption))
    · simp [go_sem]
    · simp [go_sem]
  rintro w0 ⟨hB0, c0, c4⟩
  have lB : ltB w.heap.size w0.heap.size = true := by unfold ltB; simpa using World.block_lt_of_cell? _ _ c0
  go_region_with (first | (go_at_call 66; (with_reducible refine (rows_any _).mono ?_); rintro e wa ⟨N, rfl, hN, hba, hRa⟩; obtain ⟨r0, r1, r2, r3, r4⟩ := hRa _ hj; rw [hs] at r1; have hra := below_reads hba; have hha := below_holds hba; obtain ⟨ma, hsa⟩ := below_grew hba))
  all_goals (
    have hBa := bw_behind hba (Below.drew hB0)
    clear c0 k1 k2 k5 k6 r0 r2 r3 r4 hRa
    go_wp2
    refine bodyPost_ret (v := .tuple #[.int .i64 T, .bool false]) (by simp (maxDischargeDepth := 4) [results, Tryz.results36, go_sem, *]) rfl ?_
    refine ⟨rfl, ?_⟩
    repeat (first | with_reducible assumption | with_reducible exact Below.refl _ _ | with_reducible refine Below.drew ?_ | with_reducible refine below_drewN ?_ _ | with_reducible refine bw_alloc ?_ _ | (with_reducible refine bw_set ?_ ?_ _; focus (dsimp only; omega)) | (with_reducible apply bw_behind; with_reducible assumption)))

set_option maxRecDepth 100000 in
set_option maxHeartbeats 8000000 in
theorem rgoes_J3 (j : Nat) (hj : j < 69) (x0 x1 x2 m : Int) (p n : Nat) (_hp : p ≤ 10000) (_hn : n ≤ 10000) (T : Int) (hs : shp (j + 1) = 74) (m4 : m.tmod 4 = 0) (e1 : IntKind.i64.wrap (m.tdiv 4) = m.tdiv 4) (_e2 : IntKind.i64.wrap ((p : Int) + m.tdiv 4) = T) (e3 : (p : Int) + m.tdiv 4 = T) (t1 : ¬ 0 ≤ T) (w : World) :
    Calls Tryz.prog 36 #[.agg #[.int .i64 ((j : Int) + 1), .int .i64 x0, .int .i64 x1, .int .i64 x2, .int .i64 m], .int .i64 (p : Int), .int .i64 (n : Int)] w (Makes (.tuple #[.int .i64 T, .bool false]) w) := by
  obtain ⟨K, hK⟩ : ∃ K, (j : Int) + 1 = K := ⟨_, rfl⟩
  have k1 : IntKind.i64.wrap (K - 1) = (j : Int) := by rw [IntKind.wrap_i64]; omega
  have k7 : IntKind.i64.wrap (j : Int) = (j : Int) := by rw [IntKind.wrap_i64]; omega
  have k2 : K - 1 = (j : Int) := by omega
  have k3 : (j : Int) < 69 := by omega
  have k4 : (0 : Int) ≤ (j : Int) := by omega
  have k5 : K ≤ 69 := by omega
  have k6 : 1 ≤ K := by omega
  rw [hK]
  clear hK
  have e4 : IntKind.i64.wrap T = T := by
    have := _e2
    rw [e3] at this
    exact this
  have e5 : wrap64 T = T := (IntWalk.i64_left T).symm.trans e4
  have t3 : T < 0 := by omega
  have SS := cell_same
  have LB' := ltB_add
  have LS := ltB_self
  have LA' := alloc_reads
  have LH := alloc_holds
  go_enter Tryz.func36, Tryz.ntmps36
  go_upto_region 1 with fail
  refine wp_abs (fun W => Below w.heap.size w W ∧ W.cell? ⟨w.heap.size, 0, none⟩ = some (.int .i64 K) ∧ W.cell? ⟨w.heap.size, 4, none⟩ = some (.int .i64 m)) ?_ ?_
  · refine ⟨?_, ?_, ?_⟩
    · repeat (first | with_reducible assumption | with_reducible exact Below.refl _ _ | with_reducible refine Below.drew ?_ | with_reducible refine below_drewN ?_ _ | with_reducible refine bw_alloc ?_ _ | (with_reducible refine bw_set ?_ ?_ _; focus (dsimp only; omega)) | (with_reducible apply bw_behind; with_reducible assumption))
    · simp [go_sem]
    · simp [go_sem]
  rintro w0 ⟨hB0, c0, c4⟩
  have lB : ltB w.heap.size w0.heap.size = true := by unfold ltB; simpa using World.block_lt_of_cell? _ _ c0
  go_region_with (first | (go_at_call 66; (with_reducible refine (rows_any _).mono ?_); rintro e wa ⟨N, rfl, hN, hba, hRa⟩; obtain ⟨r0, r1, r2, r3, r4⟩ := hRa _ hj; rw [hs] at r1; have hra := below_reads hba; have hha := below_holds hba; obtain ⟨ma, hsa⟩ := below_grew hba))
  all_goals (
    have hBa := bw_behind hba (Below.drew hB0)
    clear c0 k1 k2 k5 k6 r0 r2 r3 r4 hRa
    go_wp2
    refine bodyPost_ret (v := .tuple #[.int .i64 T, .bool false]) (by simp (maxDischargeDepth := 4) [results, Tryz.results36, go_sem, *]) rfl ?_
    refine ⟨rfl, ?_⟩
    repeat (first | with_reducible assumption | with_reducible exact Below.refl _ _ | with_reducible refine Below.drew ?_ | with_reducible refine below_drewN ?_ _ | with_reducible refine bw_alloc ?_ _ | (with_reducible refine bw_set ?_ ?_ _; focus (dsimp only; omega)) | (with_reducible apply bw_behind; with_reducible assumption)))

theorem goes_none {q : Option Nat} {T : Int} {w : World} {e : Ending} {w' : World} (hq : q = none) (h : Makes (.tuple #[.int .i64 T, .bool false]) w e w') : GoesR q w e w' := ⟨T, by rw [hq]; exact h.1, fun t ht => (by rw [hq] at ht; cases ht), h.2⟩
theorem goes_some {q : Option Nat} {T : Int} {t : Nat} {w : World} {e : Ending} {w' : World} (hq : q = some t) (hT : T = (t : Int)) (h : Makes (.tuple #[.int .i64 T, .bool true]) w e w') : GoesR q w e w' := ⟨T, by rw [hq]; exact h.1, fun u hu => (by rw [hq] at hu; injection hu with hu; rw [← hu]; exact hT), h.2⟩
theorem rgoes_any (j : Nat) (hj : j < 69) (x0 x1 x2 m : Int) (hm : -100000000000 < m ∧ m < 100000000000) (p n : Nat) (hp : p ≤ 10000) (hn : n ≤ 10000) (w : World) :
    Calls Tryz.prog 36 #[.agg #[.int .i64 ((j : Int) + 1), .int .i64 x0, .int .i64 x1, .int .i64 x2, .int .i64 m], .int .i64 (p : Int), .int .i64 (n : Int)] w (GoesR (goesQ (j + 1) m p n) w) := by
  have hd : m.tmod 4 = 0 → m.tdiv 4 * 4 = m := fun h => by
    have := Int.mul_tdiv_add_tmod m 4
    omega
  have h3 : ¬ m.tmod 4 = 0 → ¬ m % 4 = 0 := fun h h2 => h (by
    have : (4 : Int) ∣ m := Int.dvd_of_emod_eq_zero h2
    exact Int.tmod_eq_zero_of_dvd this)
  have e1 : m.tmod 4 = 0 → IntKind.i64.wrap (m.tdiv 4) = m.tdiv 4 := fun h => by
    have := hd h
    rw [IntKind.wrap_i64]
    omega
  have e2 : m.tmod 4 = 0 → IntKind.i64.wrap ((p : Int) + m.tdiv 4) = (p : Int) + m.tdiv 4 := fun h => by
    have := hd h
    rw [IntKind.wrap_i64]
    omega
  by_cases s1 : shp (j + 1) = 66
  · have hb : brB (shp (j + 1)) = true := by rw [s1]; rfl
    by_cases m4 : m.tmod 4 = 0
    · have h4 := hd m4
      by_cases t1 : 0 ≤ (p : Int) + m.tdiv 4
      · by_cases t2 : (p : Int) + m.tdiv 4 ≤ (n : Int)
        · refine (rgoes_B1 j hj x0 x1 x2 m p n hp hn _ s1 m4 (e1 m4) (e2 m4) rfl t1 t2 w).mono fun e w' h => goes_some (t := ((4 * (p : Int) + m) / 4).toNat) ?_ ?_ h
          · unfold goesQ
            rw [if_pos ⟨hb, by omega, by omega, by omega⟩]
          · omega
        · refine (rgoes_B2 j hj x0 x1 x2 m p n hp hn _ s1 m4 (e1 m4) (e2 m4) rfl t1 t2 w).mono fun e w' h => goes_none ?_ h
          unfold goesQ
          rw [if_neg (fun h => by have := h.2.2.1; omega)]
      · refine (rgoes_B3 j hj x0 x1 x2 m p n hp hn _ s1 m4 (e1 m4) (e2 m4) rfl t1 w).mono fun e w' h => goes_none ?_ h
        unfold goesQ
        rw [if_neg (fun h => by have := h.2.1; omega)]
    · refine (rgoes_B0 j hj x0 x1 x2 m p n hp hn s1 m4 w).mono fun e w' h => goes_none ?_ h
      have := h3 m4
      unfold goesQ
      rw [if_neg (fun h => by have := h.2.2.2; omega)]
  by_cases s2 : shp (j + 1) = 74
  · have hb : brB (shp (j + 1)) = true := by rw [s2]; rfl
    by_cases m4 : m.tmod 4 = 0
    · have h4 := hd m4
      by_cases t1 : 0 ≤ (p : Int) + m.tdiv 4
      · by_cases t2 : (p : Int) + m.tdiv 4 ≤ (n : Int)
        · refine (rgoes_J1 j hj x0 x1 x2 m p n hp hn _ s2 m4 (e1 m4) (e2 m4) rfl t1 t2 w).mono fun e w' h => goes_some (t := ((4 * (p : Int) + m) / 4).toNat) ?_ ?_ h
          · unfold goesQ
            rw [if_pos ⟨hb, by omega, by omega, by omega⟩]
          · omega
        · refine (rgoes_J2 j hj x0 x1 x2 m p n hp hn _ s2 m4 (e1 m4) (e2 m4) rfl t1 t2 w).mono fun e w' h => goes_none ?_ h
          unfold goesQ
          rw [if_neg (fun h => by have := h.2.2.1; omega)]
      · refine (rgoes_J3 j hj x0 x1 x2 m p n hp hn _ s2 m4 (e1 m4) (e2 m4) rfl t1 w).mono fun e w' h => goes_none ?_ h
        unfold goesQ
        rw [if_neg (fun h => by have := h.2.1; omega)]
    · refine (rgoes_J0 j hj x0 x1 x2 m p n hp hn s2 m4 w).mono fun e w' h => goes_none ?_ h
      have := h3 m4
      unfold goesQ
      rw [if_neg (fun h => by have := h.2.2.2; omega)]
  · refine (rgoes_A j hj x0 x1 x2 m p n hp hn (shp (j + 1)) rfl s1 s2 w).mono fun e w' h => goes_none ?_ h
    unfold goesQ
    rw [if_neg (fun h => by
      have := h.1
      unfold brB at this
      simp at this
      omega)]

end Go.Proofs.YtlommbeokbicjaaGreatDoor
