/-
  What Without, Count, Any, Aligned answer.
-/
import Derived.Test.YtpikipfchkhnbaaTag3
namespace Go.Proofs.Ytpikipfchkhnbaa
open Go.RowKit Words

/-- One that the loop has come to, or not yet. -/
def sel (k j : Nat) (R A : Int) : Int := if j < k then R else A

set_option maxHeartbeats 4000000 in
theorem without_let (A0 A1 A2 A3 B0 B1 B2 B3 R0 R1 R2 R3 : Int) (_h0 : bits .andNot .u64 A0 B0 = R0) (_h1 : bits .andNot .u64 A1 B1 = R1) (_h2 : bits .andNot .u64 A2 B2 = R2) (_h3 : bits .andNot .u64 A3 B3 = R3) (w : World) :
    Calls Try.prog 15 #[.agg #[.int .u64 A0, .int .u64 A1, .int .u64 A2, .int .u64 A3], .agg #[.int .u64 B0, .int .u64 B1, .int .u64 B2, .int .u64 B3]] w (Makes (.agg #[.int .u64 R0, .int .u64 R1, .int .u64 R2, .int .u64 R3]) w) := by
  have SS := cell_same
  have LB' := ltB_add
  have LS := ltB_self
  have LA' := alloc_reads
  have LH := alloc_holds
  go_enter Try.func15, Try.ntmps15
  go_wp2
  go_loopw [6] (fun i wr => ∃ k : Nat, k ≤ 4 ∧ i = .int .i64 (k : Int) ∧ wr.cell? ⟨w.heap.size, 0, none⟩ = some (.int .u64 (sel k 0 R0 A0)) ∧ wr.cell? ⟨w.heap.size, 1, none⟩ = some (.int .u64 (sel k 1 R1 A1)) ∧ wr.cell? ⟨w.heap.size, 2, none⟩ = some (.int .u64 (sel k 2 R2 A2)) ∧ wr.cell? ⟨w.heap.size, 3, none⟩ = some (.int .u64 (sel k 3 R3 A3)) ∧ wr.cell? ⟨w.heap.size + 1, 0, none⟩ = some (.int .u64 B0) ∧ wr.cell? ⟨w.heap.size + 1, 1, none⟩ = some (.int .u64 B1) ∧ wr.cell? ⟨w.heap.size + 1, 2, none⟩ = some (.int .u64 B2) ∧ wr.cell? ⟨w.heap.size + 1, 3, none⟩ = some (.int .u64 B3) ∧ Own wr w.heap.size 4 ∧ Own wr (w.heap.size + 1 + 1) 4 ∧ Below w.heap.size w wr) (fun i _ => 4 - (intOf i).toNat)
  case atStart =>
    refine ⟨0, by omega, rfl, ?_, ?_, ?_, ?_, ?_, ?_, ?_, ?_, ?_, ?_, ?_⟩
    all_goals (first | (first | with_reducible assumption | ((repeat (first | with_reducible assumption | with_reducible refine c_dr _ ?_ | with_reducible refine c_d1 ?_ | with_reducible refine c_al _ ?_ | (with_reducible refine c_set ?_ ?_; focus (dsimp only; omega)) | (with_reducible apply c_be; with_reducible assumption))); done) | ((repeat (first | with_reducible assumption | with_reducible refine o_dr _ ?_ | with_reducible refine o_d1 ?_ | with_reducible refine o_set ?_ | (with_reducible refine o_new ?_ ?_; (focus (simp)); (focus (simp))) | with_reducible refine o_al _ ?_ | (with_reducible apply o_be; with_reducible assumption))); done) | ((repeat (first | with_reducible assumption | with_reducible exact Below.refl _ _ | with_reducible refine Below.drew ?_ | with_reducible refine below_drewN ?_ _ | with_reducible refine bw_alloc ?_ _ | (with_reducible refine bw_set ?_ ?_ _; focus (dsimp only; omega)) | (with_reducible apply bw_behind; with_reducible assumption))); done) | (simp [go_sem, *]; omega) | (simp (maxDischargeDepth := 4) [go_sem, *]; done)) | (simp [sel, go_sem]; done))
  case round =>
    obtain ⟨k, hk, rfl, c0, c1, c2, c3, d0, d1, d2, d3, hO, hO2, hB⟩ := hrel
    have hk5 : k = 0 ∨ k = 1 ∨ k = 2 ∨ k = 3 ∨ k = 4 := by omega
    rcases hk5 with rfl | rfl | rfl | rfl | rfl
    · replace c0 : wr.cell? ⟨w.heap.size, 0, none⟩ = some (.int .u64 A0) := c0
      replace c1 : wr.cell? ⟨w.heap.size, 1, none⟩ = some (.int .u64 A1) := c1
      replace c2 : wr.cell? ⟨w.heap.size, 2, none⟩ = some (.int .u64 A2) := c2
      replace c3 : wr.cell? ⟨w.heap.size, 3, none⟩ = some (.int .u64 A3) := c3
      have f0 := hO.free 0 (by omega)
      go_wp2
      go_region
      go_wp2
      go_roundw
      case rel =>
        refine ⟨1, by omega, rfl, ?_, ?_, ?_, ?_, ?_, ?_, ?_, ?_, ?_, ?_, ?_⟩
        · show _ = some (Value.int .u64 R0)
          (first | with_reducible assumption | ((repeat (first | with_reducible assumption | with_reducible refine c_dr _ ?_ | with_reducible refine c_d1 ?_ | with_reducible refine c_al _ ?_ | (with_reducible refine c_set ?_ ?_; focus (dsimp only; omega)) | (with_reducible apply c_be; with_reducible assumption))); done) | ((repeat (first | with_reducible assumption | with_reducible refine o_dr _ ?_ | with_reducible refine o_d1 ?_ | with_reducible refine o_set ?_ | (with_reducible refine o_new ?_ ?_; (focus (simp)); (focus (simp))) | with_reducible refine o_al _ ?_ | (with_reducible apply o_be; with_reducible assumption))); done) | ((repeat (first | with_reducible assumption | with_reducible exact Below.refl _ _ | with_reducible refine Below.drew ?_ | with_reducible refine below_drewN ?_ _ | with_reducible refine bw_alloc ?_ _ | (with_reducible refine bw_set ?_ ?_ _; focus (dsimp only; omega)) | (with_reducible apply bw_behind; with_reducible assumption))); done) | (simp [go_sem, *]; omega) | (simp (maxDischargeDepth := 4) [go_sem, *]; done))
        · show _ = some (Value.int .u64 A1)
          (first | with_reducible assumption | ((repeat (first | with_reducible assumption | with_reducible refine c_dr _ ?_ | with_reducible refine c_d1 ?_ | with_reducible refine c_al _ ?_ | (with_reducible refine c_set ?_ ?_; focus (dsimp only; omega)) | (with_reducible apply c_be; with_reducible assumption))); done) | ((repeat (first | with_reducible assumption | with_reducible refine o_dr _ ?_ | with_reducible refine o_d1 ?_ | with_reducible refine o_set ?_ | (with_reducible refine o_new ?_ ?_; (focus (simp)); (focus (simp))) | with_reducible refine o_al _ ?_ | (with_reducible apply o_be; with_reducible assumption))); done) | ((repeat (first | with_reducible assumption | with_reducible exact Below.refl _ _ | with_reducible refine Below.drew ?_ | with_reducible refine below_drewN ?_ _ | with_reducible refine bw_alloc ?_ _ | (with_reducible refine bw_set ?_ ?_ _; focus (dsimp only; omega)) | (with_reducible apply bw_behind; with_reducible assumption))); done) | (simp [go_sem, *]; omega) | (simp (maxDischargeDepth := 4) [go_sem, *]; done))
        · show _ = some (Value.int .u64 A2)
          (first | with_reducible assumption | ((repeat (first | with_reducible assumption | with_reducible refine c_dr _ ?_ | with_reducible refine c_d1 ?_ | with_reducible refine c_al _ ?_ | (with_reducible refine c_set ?_ ?_; focus (dsimp only; omega)) | (with_reducible apply c_be; with_reducible assumption))); done) | ((repeat (first | with_reducible assumption | with_reducible refine o_dr _ ?_ | with_reducible refine o_d1 ?_ | with_reducible refine o_set ?_ | (with_reducible refine o_new ?_ ?_; (focus (simp)); (focus (simp))) | with_reducible refine o_al _ ?_ | (with_reducible apply o_be; with_reducible assumption))); done) | ((repeat (first | with_reducible assumption | with_reducible exact Below.refl _ _ | with_reducible refine Below.drew ?_ | with_reducible refine below_drewN ?_ _ | with_reducible refine bw_alloc ?_ _ | (with_reducible refine bw_set ?_ ?_ _; focus (dsimp only; omega)) | (with_reducible apply bw_behind; with_reducible assumption))); done) | (simp [go_sem, *]; omega) | (simp (maxDischargeDepth := 4) [go_sem, *]; done))
        · show _ = some (Value.int .u64 A3)
          (first | with_reducible assumption | ((repeat (first | with_reducible assumption | with_reducible refine c_dr _ ?_ | with_reducible refine c_d1 ?_ | with_reducible refine c_al _ ?_ | (with_reducible refine c_set ?_ ?_; focus (dsimp only; omega)) | (with_reducible apply c_be; with_reducible assumption))); done) | ((repeat (first | with_reducible assumption | with_reducible refine o_dr _ ?_ | with_reducible refine o_d1 ?_ | with_reducible refine o_set ?_ | (with_reducible refine o_new ?_ ?_; (focus (simp)); (focus (simp))) | with_reducible refine o_al _ ?_ | (with_reducible apply o_be; with_reducible assumption))); done) | ((repeat (first | with_reducible assumption | with_reducible exact Below.refl _ _ | with_reducible refine Below.drew ?_ | with_reducible refine below_drewN ?_ _ | with_reducible refine bw_alloc ?_ _ | (with_reducible refine bw_set ?_ ?_ _; focus (dsimp only; omega)) | (with_reducible apply bw_behind; with_reducible assumption))); done) | (simp [go_sem, *]; omega) | (simp (maxDischargeDepth := 4) [go_sem, *]; done))
        all_goals (first | with_reducible assumption | ((repeat (first | with_reducible assumption | with_reducible refine c_dr _ ?_ | with_reducible refine c_d1 ?_ | with_reducible refine c_al _ ?_ | (with_reducible refine c_set ?_ ?_; focus (dsimp only; omega)) | (with_reducible apply c_be; with_reducible assumption))); done) | ((repeat (first | with_reducible assumption | with_reducible refine o_dr _ ?_ | with_reducible refine o_d1 ?_ | with_reducible refine o_set ?_ | (with_reducible refine o_new ?_ ?_; (focus (simp)); (focus (simp))) | with_reducible refine o_al _ ?_ | (with_reducible apply o_be; with_reducible assumption))); done) | ((repeat (first | with_reducible assumption | with_reducible exact Below.refl _ _ | with_reducible refine Below.drew ?_ | with_reducible refine below_drewN ?_ _ | with_reducible refine bw_alloc ?_ _ | (with_reducible refine bw_set ?_ ?_ _; focus (dsimp only; omega)) | (with_reducible apply bw_behind; with_reducible assumption))); done) | (simp [go_sem, *]; omega) | (simp (maxDischargeDepth := 4) [go_sem, *]; done))
      case measure => simp [intOf]
    · replace c0 : wr.cell? ⟨w.heap.size, 0, none⟩ = some (.int .u64 R0) := c0
      replace c1 : wr.cell? ⟨w.heap.size, 1, none⟩ = some (.int .u64 A1) := c1
      replace c2 : wr.cell? ⟨w.heap.size, 2, none⟩ = some (.int .u64 A2) := c2
      replace c3 : wr.cell? ⟨w.heap.size, 3, none⟩ = some (.int .u64 A3) := c3
      have f1 := hO.free 1 (by omega)
      go_wp2
      go_region
      go_wp2
      go_roundw
      case rel =>
        refine ⟨2, by omega, rfl, ?_, ?_, ?_, ?_, ?_, ?_, ?_, ?_, ?_, ?_, ?_⟩
        · show _ = some (Value.int .u64 R0)
          (first | with_reducible assumption | ((repeat (first | with_reducible assumption | with_reducible refine c_dr _ ?_ | with_reducible refine c_d1 ?_ | with_reducible refine c_al _ ?_ | (with_reducible refine c_set ?_ ?_; focus (dsimp only; omega)) | (with_reducible apply c_be; with_reducible assumption))); done) | ((repeat (first | with_reducible assumption | with_reducible refine o_dr _ ?_ | with_reducible refine o_d1 ?_ | with_reducible refine o_set ?_ | (with_reducible refine o_new ?_ ?_; (focus (simp)); (focus (simp))) | with_reducible refine o_al _ ?_ | (with_reducible apply o_be; with_reducible assumption))); done) | ((repeat (first | with_reducible assumption | with_reducible exact Below.refl _ _ | with_reducible refine Below.drew ?_ | with_reducible refine below_drewN ?_ _ | with_reducible refine bw_alloc ?_ _ | (with_reducible refine bw_set ?_ ?_ _; focus (dsimp only; omega)) | (with_reducible apply bw_behind; with_reducible assumption))); done) | (simp [go_sem, *]; omega) | (simp (maxDischargeDepth := 4) [go_sem, *]; done))
        · show _ = some (Value.int .u64 R1)
          (first | with_reducible assumption | ((repeat (first | with_reducible assumption | with_reducible refine c_dr _ ?_ | with_reducible refine c_d1 ?_ | with_reducible refine c_al _ ?_ | (with_reducible refine c_set ?_ ?_; focus (dsimp only; omega)) | (with_reducible apply c_be; with_reducible assumption))); done) | ((repeat (first | with_reducible assumption | with_reducible refine o_dr _ ?_ | with_reducible refine o_d1 ?_ | with_reducible refine o_set ?_ | (with_reducible refine o_new ?_ ?_; (focus (simp)); (focus (simp))) | with_reducible refine o_al _ ?_ | (with_reducible apply o_be; with_reducible assumption))); done) | ((repeat (first | with_reducible assumption | with_reducible exact Below.refl _ _ | with_reducible refine Below.drew ?_ | with_reducible refine below_drewN ?_ _ | with_reducible refine bw_alloc ?_ _ | (with_reducible refine bw_set ?_ ?_ _; focus (dsimp only; omega)) | (with_reducible apply bw_behind; with_reducible assumption))); done) | (simp [go_sem, *]; omega) | (simp (maxDischargeDepth := 4) [go_sem, *]; done))
        · show _ = some (Value.int .u64 A2)
          (first | with_reducible assumption | ((repeat (first | with_reducible assumption | with_reducible refine c_dr _ ?_ | with_reducible refine c_d1 ?_ | with_reducible refine c_al _ ?_ | (with_reducible refine c_set ?_ ?_; focus (dsimp only; omega)) | (with_reducible apply c_be; with_reducible assumption))); done) | ((repeat (first | with_reducible assumption | with_reducible refine o_dr _ ?_ | with_reducible refine o_d1 ?_ | with_reducible refine o_set ?_ | (with_reducible refine o_new ?_ ?_; (focus (simp)); (focus (simp))) | with_reducible refine o_al _ ?_ | (with_reducible apply o_be; with_reducible assumption))); done) | ((repeat (first | with_reducible assumption | with_reducible exact Below.refl _ _ | with_reducible refine Below.drew ?_ | with_reducible refine below_drewN ?_ _ | with_reducible refine bw_alloc ?_ _ | (with_reducible refine bw_set ?_ ?_ _; focus (dsimp only; omega)) | (with_reducible apply bw_behind; with_reducible assumption))); done) | (simp [go_sem, *]; omega) | (simp (maxDischargeDepth := 4) [go_sem, *]; done))
        · show _ = some (Value.int .u64 A3)
          (first | with_reducible assumption | ((repeat (first | with_reducible assumption | with_reducible refine c_dr _ ?_ | with_reducible refine c_d1 ?_ | with_reducible refine c_al _ ?_ | (with_reducible refine c_set ?_ ?_; focus (dsimp only; omega)) | (with_reducible apply c_be; with_reducible assumption))); done) | ((repeat (first | with_reducible assumption | with_reducible refine o_dr _ ?_ | with_reducible refine o_d1 ?_ | with_reducible refine o_set ?_ | (with_reducible refine o_new ?_ ?_; (focus (simp)); (focus (simp))) | with_reducible refine o_al _ ?_ | (with_reducible apply o_be; with_reducible assumption))); done) | ((repeat (first | with_reducible assumption | with_reducible exact Below.refl _ _ | with_reducible refine Below.drew ?_ | with_reducible refine below_drewN ?_ _ | with_reducible refine bw_alloc ?_ _ | (with_reducible refine bw_set ?_ ?_ _; focus (dsimp only; omega)) | (with_reducible apply bw_behind; with_reducible assumption))); done) | (simp [go_sem, *]; omega) | (simp (maxDischargeDepth := 4) [go_sem, *]; done))
        all_goals (first | with_reducible assumption | ((repeat (first | with_reducible assumption | with_reducible refine c_dr _ ?_ | with_reducible refine c_d1 ?_ | with_reducible refine c_al _ ?_ | (with_reducible refine c_set ?_ ?_; focus (dsimp only; omega)) | (with_reducible apply c_be; with_reducible assumption))); done) | ((repeat (first | with_reducible assumption | with_reducible refine o_dr _ ?_ | with_reducible refine o_d1 ?_ | with_reducible refine o_set ?_ | (with_reducible refine o_new ?_ ?_; (focus (simp)); (focus (simp))) | with_reducible refine o_al _ ?_ | (with_reducible apply o_be; with_reducible assumption))); done) | ((repeat (first | with_reducible assumption | with_reducible exact Below.refl _ _ | with_reducible refine Below.drew ?_ | with_reducible refine below_drewN ?_ _ | with_reducible refine bw_alloc ?_ _ | (with_reducible refine bw_set ?_ ?_ _; focus (dsimp only; omega)) | (with_reducible apply bw_behind; with_reducible assumption))); done) | (simp [go_sem, *]; omega) | (simp (maxDischargeDepth := 4) [go_sem, *]; done))
      case measure => simp [intOf]
    · replace c0 : wr.cell? ⟨w.heap.size, 0, none⟩ = some (.int .u64 R0) := c0
      replace c1 : wr.cell? ⟨w.heap.size, 1, none⟩ = some (.int .u64 R1) := c1
      replace c2 : wr.cell? ⟨w.heap.size, 2, none⟩ = some (.int .u64 A2) := c2
      replace c3 : wr.cell? ⟨w.heap.size, 3, none⟩ = some (.int .u64 A3) := c3
      have f2 := hO.free 2 (by omega)
      go_wp2
      go_region
      go_wp2
      go_roundw
      case rel =>
        refine ⟨3, by omega, rfl, ?_, ?_, ?_, ?_, ?_, ?_, ?_, ?_, ?_, ?_, ?_⟩
        · show _ = some (Value.int .u64 R0)
          (first | with_reducible assumption | ((repeat (first | with_reducible assumption | with_reducible refine c_dr _ ?_ | with_reducible refine c_d1 ?_ | with_reducible refine c_al _ ?_ | (with_reducible refine c_set ?_ ?_; focus (dsimp only; omega)) | (with_reducible apply c_be; with_reducible assumption))); done) | ((repeat (first | with_reducible assumption | with_reducible refine o_dr _ ?_ | with_reducible refine o_d1 ?_ | with_reducible refine o_set ?_ | (with_reducible refine o_new ?_ ?_; (focus (simp)); (focus (simp))) | with_reducible refine o_al _ ?_ | (with_reducible apply o_be; with_reducible assumption))); done) | ((repeat (first | with_reducible assumption | with_reducible exact Below.refl _ _ | with_reducible refine Below.drew ?_ | with_reducible refine below_drewN ?_ _ | with_reducible refine bw_alloc ?_ _ | (with_reducible refine bw_set ?_ ?_ _; focus (dsimp only; omega)) | (with_reducible apply bw_behind; with_reducible assumption))); done) | (simp [go_sem, *]; omega) | (simp (maxDischargeDepth := 4) [go_sem, *]; done))
        · show _ = some (Value.int .u64 R1)
          (first | with_reducible assumption | ((repeat (first | with_reducible assumption | with_reducible refine c_dr _ ?_ | with_reducible refine c_d1 ?_ | with_reducible refine c_al _ ?_ | (with_reducible refine c_set ?_ ?_; focus (dsimp only; omega)) | (with_reducible apply c_be; with_reducible assumption))); done) | ((repeat (first | with_reducible assumption | with_reducible refine o_dr _ ?_ | with_reducible refine o_d1 ?_ | with_reducible refine o_set ?_ | (with_reducible refine o_new ?_ ?_; (focus (simp)); (focus (simp))) | with_reducible refine o_al _ ?_ | (with_reducible apply o_be; with_reducible assumption))); done) | ((repeat (first | with_reducible assumption | with_reducible exact Below.refl _ _ | with_reducible refine Below.drew ?_ | with_reducible refine below_drewN ?_ _ | with_reducible refine bw_alloc ?_ _ | (with_reducible refine bw_set ?_ ?_ _; focus (dsimp only; omega)) | (with_reducible apply bw_behind; with_reducible assumption))); done) | (simp [go_sem, *]; omega) | (simp (maxDischargeDepth := 4) [go_sem, *]; done))
        · show _ = some (Value.int .u64 R2)
          (first | with_reducible assumption | ((repeat (first | with_reducible assumption | with_reducible refine c_dr _ ?_ | with_reducible refine c_d1 ?_ | with_reducible refine c_al _ ?_ | (with_reducible refine c_set ?_ ?_; focus (dsimp only; omega)) | (with_reducible apply c_be; with_reducible assumption))); done) | ((repeat (first | with_reducible assumption | with_reducible refine o_dr _ ?_ | with_reducible refine o_d1 ?_ | with_reducible refine o_set ?_ | (with_reducible refine o_new ?_ ?_; (focus (simp)); (focus (simp))) | with_reducible refine o_al _ ?_ | (with_reducible apply o_be; with_reducible assumption))); done) | ((repeat (first | with_reducible assumption | with_reducible exact Below.refl _ _ | with_reducible refine Below.drew ?_ | with_reducible refine below_drewN ?_ _ | with_reducible refine bw_alloc ?_ _ | (with_reducible refine bw_set ?_ ?_ _; focus (dsimp only; omega)) | (with_reducible apply bw_behind; with_reducible assumption))); done) | (simp [go_sem, *]; omega) | (simp (maxDischargeDepth := 4) [go_sem, *]; done))
        · show _ = some (Value.int .u64 A3)
          (first | with_reducible assumption | ((repeat (first | with_reducible assumption | with_reducible refine c_dr _ ?_ | with_reducible refine c_d1 ?_ | with_reducible refine c_al _ ?_ | (with_reducible refine c_set ?_ ?_; focus (dsimp only; omega)) | (with_reducible apply c_be; with_reducible assumption))); done) | ((repeat (first | with_reducible assumption | with_reducible refine o_dr _ ?_ | with_reducible refine o_d1 ?_ | with_reducible refine o_set ?_ | (with_reducible refine o_new ?_ ?_; (focus (simp)); (focus (simp))) | with_reducible refine o_al _ ?_ | (with_reducible apply o_be; with_reducible assumption))); done) | ((repeat (first | with_reducible assumption | with_reducible exact Below.refl _ _ | with_reducible refine Below.drew ?_ | with_reducible refine below_drewN ?_ _ | with_reducible refine bw_alloc ?_ _ | (with_reducible refine bw_set ?_ ?_ _; focus (dsimp only; omega)) | (with_reducible apply bw_behind; with_reducible assumption))); done) | (simp [go_sem, *]; omega) | (simp (maxDischargeDepth := 4) [go_sem, *]; done))
        all_goals (first | with_reducible assumption | ((repeat (first | with_reducible assumption | with_reducible refine c_dr _ ?_ | with_reducible refine c_d1 ?_ | with_reducible refine c_al _ ?_ | (with_reducible refine c_set ?_ ?_; focus (dsimp only; omega)) | (with_reducible apply c_be; with_reducible assumption))); done) | ((repeat (first | with_reducible assumption | with_reducible refine o_dr _ ?_ | with_reducible refine o_d1 ?_ | with_reducible refine o_set ?_ | (with_reducible refine o_new ?_ ?_; (focus (simp)); (focus (simp))) | with_reducible refine o_al _ ?_ | (with_reducible apply o_be; with_reducible assumption))); done) | ((repeat (first | with_reducible assumption | with_reducible exact Below.refl _ _ | with_reducible refine Below.drew ?_ | with_reducible refine below_drewN ?_ _ | with_reducible refine bw_alloc ?_ _ | (with_reducible refine bw_set ?_ ?_ _; focus (dsimp only; omega)) | (with_reducible apply bw_behind; with_reducible assumption))); done) | (simp [go_sem, *]; omega) | (simp (maxDischargeDepth := 4) [go_sem, *]; done))
      case measure => simp [intOf]
    · replace c0 : wr.cell? ⟨w.heap.size, 0, none⟩ = some (.int .u64 R0) := c0
      replace c1 : wr.cell? ⟨w.heap.size, 1, none⟩ = some (.int .u64 R1) := c1
      replace c2 : wr.cell? ⟨w.heap.size, 2, none⟩ = some (.int .u64 R2) := c2
      replace c3 : wr.cell? ⟨w.heap.size, 3, none⟩ = some (.int .u64 A3) := c3
      have f3 := hO.free 3 (by omega)
      go_wp2
      go_region
      go_wp2
      go_roundw
      case rel =>
        refine ⟨4, by omega, rfl, ?_, ?_, ?_, ?_, ?_, ?_, ?_, ?_, ?_, ?_, ?_⟩
        · show _ = some (Value.int .u64 R0)
          (first | with_reducible assumption | ((repeat (first | with_reducible assumption | with_reducible refine c_dr _ ?_ | with_reducible refine c_d1 ?_ | with_reducible refine c_al _ ?_ | (with_reducible refine c_set ?_ ?_; focus (dsimp only; omega)) | (with_reducible apply c_be; with_reducible assumption))); done) | ((repeat (first | with_reducible assumption | with_reducible refine o_dr _ ?_ | with_reducible refine o_d1 ?_ | with_reducible refine o_set ?_ | (with_reducible refine o_new ?_ ?_; (focus (simp)); (focus (simp))) | with_reducible refine o_al _ ?_ | (with_reducible apply o_be; with_reducible assumption))); done) | ((repeat (first | with_reducible assumption | with_reducible exact Below.refl _ _ | with_reducible refine Below.drew ?_ | with_reducible refine below_drewN ?_ _ | with_reducible refine bw_alloc ?_ _ | (with_reducible refine bw_set ?_ ?_ _; focus (dsimp only; omega)) | (with_reducible apply bw_behind; with_reducible assumption))); done) | (simp [go_sem, *]; omega) | (simp (maxDischargeDepth := 4) [go_sem, *]; done))
        · show _ = some (Value.int .u64 R1)
          (first | with_reducible assumption | ((repeat (first | with_reducible assumption | with_reducible refine c_dr _ ?_ | with_reducible refine c_d1 ?_ | with_reducible refine c_al _ ?_ | (with_reducible refine c_set ?_ ?_; focus (dsimp only; omega)) | (with_reducible apply c_be; with_reducible assumption))); done) | ((repeat (first | with_reducible assumption | with_reducible refine o_dr _ ?_ | with_reducible refine o_d1 ?_ | with_reducible refine o_set ?_ | (with_reducible refine o_new ?_ ?_; (focus (simp)); (focus (simp))) | with_reducible refine o_al _ ?_ | (with_reducible apply o_be; with_reducible assumption))); done) | ((repeat (first | with_reducible assumption | with_reducible exact Below.refl _ _ | with_reducible refine Below.drew ?_ | with_reducible refine below_drewN ?_ _ | with_reducible refine bw_alloc ?_ _ | (with_reducible refine bw_set ?_ ?_ _; focus (dsimp only; omega)) | (with_reducible apply bw_behind; with_reducible assumption))); done) | (simp [go_sem, *]; omega) | (simp (maxDischargeDepth := 4) [go_sem, *]; done))
        · show _ = some (Value.int .u64 R2)
          (first | with_reducible assumption | ((repeat (first | with_reducible assumption | with_reducible refine c_dr _ ?_ | with_reducible refine c_d1 ?_ | with_reducible refine c_al _ ?_ | (with_reducible refine c_set ?_ ?_; focus (dsimp only; omega)) | (with_reducible apply c_be; with_reducible assumption))); done) | ((repeat (first | with_reducible assumption | with_reducible refine o_dr _ ?_ | with_reducible refine o_d1 ?_ | with_reducible refine o_set ?_ | (with_reducible refine o_new ?_ ?_; (focus (simp)); (focus (simp))) | with_reducible refine o_al _ ?_ | (with_reducible apply o_be; with_reducible assumption))); done) | ((repeat (first | with_reducible assumption | with_reducible exact Below.refl _ _ | with_reducible refine Below.drew ?_ | with_reducible refine below_drewN ?_ _ | with_reducible refine bw_alloc ?_ _ | (with_reducible refine bw_set ?_ ?_ _; focus (dsimp only; omega)) | (with_reducible apply bw_behind; with_reducible assumption))); done) | (simp [go_sem, *]; omega) | (simp (maxDischargeDepth := 4) [go_sem, *]; done))
        · show _ = some (Value.int .u64 R3)
          (first | with_reducible assumption | ((repeat (first | with_reducible assumption | with_reducible refine c_dr _ ?_ | with_reducible refine c_d1 ?_ | with_reducible refine c_al _ ?_ | (with_reducible refine c_set ?_ ?_; focus (dsimp only; omega)) | (with_reducible apply c_be; with_reducible assumption))); done) | ((repeat (first | with_reducible assumption | with_reducible refine o_dr _ ?_ | with_reducible refine o_d1 ?_ | with_reducible refine o_set ?_ | (with_reducible refine o_new ?_ ?_; (focus (simp)); (focus (simp))) | with_reducible refine o_al _ ?_ | (with_reducible apply o_be; with_reducible assumption))); done) | ((repeat (first | with_reducible assumption | with_reducible exact Below.refl _ _ | with_reducible refine Below.drew ?_ | with_reducible refine below_drewN ?_ _ | with_reducible refine bw_alloc ?_ _ | (with_reducible refine bw_set ?_ ?_ _; focus (dsimp only; omega)) | (with_reducible apply bw_behind; with_reducible assumption))); done) | (simp [go_sem, *]; omega) | (simp (maxDischargeDepth := 4) [go_sem, *]; done))
        all_goals (first | with_reducible assumption | ((repeat (first | with_reducible assumption | with_reducible refine c_dr _ ?_ | with_reducible refine c_d1 ?_ | with_reducible refine c_al _ ?_ | (with_reducible refine c_set ?_ ?_; focus (dsimp only; omega)) | (with_reducible apply c_be; with_reducible assumption))); done) | ((repeat (first | with_reducible assumption | with_reducible refine o_dr _ ?_ | with_reducible refine o_d1 ?_ | with_reducible refine o_set ?_ | (with_reducible refine o_new ?_ ?_; (focus (simp)); (focus (simp))) | with_reducible refine o_al _ ?_ | (with_reducible apply o_be; with_reducible assumption))); done) | ((repeat (first | with_reducible assumption | with_reducible exact Below.refl _ _ | with_reducible refine Below.drew ?_ | with_reducible refine below_drewN ?_ _ | with_reducible refine bw_alloc ?_ _ | (with_reducible refine bw_set ?_ ?_ _; focus (dsimp only; omega)) | (with_reducible apply bw_behind; with_reducible assumption))); done) | (simp [go_sem, *]; omega) | (simp (maxDischargeDepth := 4) [go_sem, *]; done))
      case measure => simp [intOf]
    · replace c0 : wr.cell? ⟨w.heap.size, 0, none⟩ = some (.int .u64 R0) := c0
      replace c1 : wr.cell? ⟨w.heap.size, 1, none⟩ = some (.int .u64 R1) := c1
      replace c2 : wr.cell? ⟨w.heap.size, 2, none⟩ = some (.int .u64 R2) := c2
      replace c3 : wr.cell? ⟨w.heap.size, 3, none⟩ = some (.int .u64 R3) := c3
      obtain ⟨v0, e0⟩ := hO2.val 0 (by omega)
      have f0 := hO2.free 0 (by omega)
      obtain ⟨v1, e1⟩ := hO2.val 1 (by omega)
      have f1 := hO2.free 1 (by omega)
      obtain ⟨v2, e2⟩ := hO2.val 2 (by omega)
      have f2 := hO2.free 2 (by omega)
      obtain ⟨v3, e3⟩ := hO2.val 3 (by omega)
      have f3 := hO2.free 3 (by omega)
      go_wp2
      refine bodyPost_ret (v := .agg #[.int .u64 R0, .int .u64 R1, .int .u64 R2, .int .u64 R3]) (by simp (maxDischargeDepth := 4) [results, Try.results15, go_sem, *]) rfl ?_
      refine ⟨rfl, ?_⟩
      repeat (first | with_reducible assumption | with_reducible exact Below.refl _ _ | with_reducible refine Below.drew ?_ | with_reducible refine below_drewN ?_ _ | with_reducible refine bw_alloc ?_ _ | (with_reducible refine bw_set ?_ ?_ _; focus (dsimp only; omega)) | (with_reducible apply bw_behind; with_reducible assumption))

theorem without_any (s t : BitVec 256) (w : World) : Calls Try.prog 15 #[.agg #[.int .u64 ((wd s 0).toNat : Int), .int .u64 ((wd s 1).toNat : Int), .int .u64 ((wd s 2).toNat : Int), .int .u64 ((wd s 3).toNat : Int)], .agg #[.int .u64 ((wd t 0).toNat : Int), .int .u64 ((wd t 1).toNat : Int), .int .u64 ((wd t 2).toNat : Int), .int .u64 ((wd t 3).toNat : Int)]] w (Makes (.agg #[.int .u64 ((wd (lessS s t) 0).toNat : Int), .int .u64 ((wd (lessS s t) 1).toNat : Int), .int .u64 ((wd (lessS s t) 2).toNat : Int), .int .u64 ((wd (lessS s t) 3).toNat : Int)]) w) := by
  rw [wd_less s t 0 (by omega), wd_less s t 1 (by omega), wd_less s t 2 (by omega), wd_less s t 3 (by omega)]
  exact without_let _ _ _ _ _ _ _ _ _ _ _ _ (andNot_bv _ _) (andNot_bv _ _) (andNot_bv _ _) (andNot_bv _ _) w

def nth4 (a b c d : Int) (k : Nat) : Int := if k = 0 then a else if k = 1 then b else if k = 2 then c else d
def psum (P : Nat → Nat) : Nat → Nat
  | 0 => 0
  | k + 1 => psum P k + P k
theorem psum_le (P : Nat → Nat) (h : ∀ k, P k ≤ 64) : ∀ k, psum P k ≤ 64 * k
  | 0 => Nat.le_refl _
  | k + 1 => by have := psum_le P h k; have := h k; rw [psum]; omega
theorem index4 (a b c d : Int) (k : Nat) (h : k < 4) (W : World) : (Instr.index 24 (.agg #[.int .u64 a, .int .u64 b, .int .u64 c, .int .u64 d]) (.int .i64 (k : Int))).run Try.prog W = .ok (.int .u64 (nth4 a b c d k)) W := by
  match k, h with
  | 0, _ => rfl
  | 1, _ => rfl
  | 2, _ => rfl
  | 3, _ => rfl

set_option maxHeartbeats 4000000 in
theorem count_let (A0 A1 A2 A3 : Int) (P : Nat → Nat) (c1 : ∀ k, k < 4 → ∀ W, Calls Try.prog 19 #[.int .u64 (nth4 A0 A1 A2 A3 k)] W (Quiet (.int .i64 (P k : Int)) W)) (_hP : ∀ k, P k ≤ 64) (w : World) :
    Calls Try.prog 9 #[.agg #[.int .u64 A0, .int .u64 A1, .int .u64 A2, .int .u64 A3]] w (Makes (.int .i64 (psum P 4 : Int)) w) := by
  have Cc1 := hide c1
  clear c1
  have SS := cell_same
  have LB' := ltB_add
  have LS := ltB_self
  have LA' := alloc_reads
  have LH := alloc_holds
  go_enter Try.func9, Try.ntmps9
  go_wp2
  go_loopw [3, 7] (fun n i wr => ∃ k : Nat, k ≤ 4 ∧ i = .int .i64 (k : Int) ∧ n = .int .i64 (psum P k : Int) ∧ Below w.heap.size w wr) (fun _ i _ => 4 - (intOf i).toNat)
  case atStart => exact ⟨0, by omega, rfl, rfl, by repeat (first | with_reducible assumption | with_reducible exact Below.refl _ _ | with_reducible refine Below.drew ?_ | with_reducible refine below_drewN ?_ _ | with_reducible refine bw_alloc ?_ _ | (with_reducible refine bw_set ?_ ?_ _; focus (dsimp only; omega)) | (with_reducible apply bw_behind; with_reducible assumption))⟩
  case round n =>
    obtain ⟨k, hk, rfl, rfl, hB⟩ := hrel
    by_cases h : k < 4
    · have hi := index4 A0 A1 A2 A3 k h
      have C1 := hide (Cc1.out k h)
      have h1 := psum_le P _hP k
      have h2 := _hP k
      have HH := hide (show psum P (k + 1) = psum P k + P k from rfl)
      generalize psum P k = N at *
      generalize P k = M at *
      have h3 : IntKind.i64.wrap ((N : Int) + (M : Int)) = ((N + M : Nat) : Int) := by rw [IntKind.wrap_i64]; omega
      go_wp2_with (first | (go_at_call 19; (with_reducible first | refine (C1.out _).mono ?_); rintro e w' ⟨rfl, n1, rfl⟩))
      go_roundw
      case rel =>
        refine ⟨k + 1, by omega, by go_num, ?_, ?_⟩
        · rw [HH.out]; first | rfl | go_num | (congr 1; omega)
        · repeat (first | with_reducible assumption | with_reducible exact Below.refl _ _ | with_reducible refine Below.drew ?_ | with_reducible refine below_drewN ?_ _ | with_reducible refine bw_alloc ?_ _ | (with_reducible refine bw_set ?_ ?_ _; focus (dsimp only; omega)) | (with_reducible apply bw_behind; with_reducible assumption))
      case measure => simp [intOf]; omega
    · have : k = 4 := by omega
      subst this
      go_wp2
      refine bodyPost_ret (v := .int .i64 (psum P 4 : Int)) (by simp (maxDischargeDepth := 4) [results, Try.results9, go_sem, *]) rfl ?_
      refine ⟨rfl, ?_⟩
      repeat (first | with_reducible assumption | with_reducible exact Below.refl _ _ | with_reducible refine Below.drew ?_ | with_reducible refine below_drewN ?_ _ | with_reducible refine bw_alloc ?_ _ | (with_reducible refine bw_set ?_ ?_ _; focus (dsimp only; omega)) | (with_reducible apply bw_behind; with_reducible assumption))

theorem count_any (s : BitVec 256) (w : World) : Calls Try.prog 9 #[.agg #[.int .u64 ((wd s 0).toNat : Int), .int .u64 ((wd s 1).toNat : Int), .int .u64 ((wd s 2).toNat : Int), .int .u64 ((wd s 3).toNat : Int)]] w (Makes (.int .i64 (cntS s : Int)) w) := by
  have h := count_let _ _ _ _ (fun k => popW (wd s k)) (fun k hk W => (by
    rcases four_of hk with rfl | rfl | rfl | rfl
    · exact ones64_any (wd s 0) W
    · exact ones64_any (wd s 1) W
    · exact ones64_any (wd s 2) W
    · exact ones64_any (wd s 3) W)) (fun k => pop_le _) w
  rw [show cntS s = psum (fun k => popW (wd s k)) 4 by rw [cnt_words]; simp [psum]]
  exact h

theorem wd_zero (q : Nat) : wd 0#256 q = 0#64 := by
  refine ext64 (fun j hj => ?_)
  rw [wd_bit _ _ _ hj]
  simp
theorem ne_none (s : BitVec 256) : ∀ W, (binOp .neq 24 (.agg #[.int .u64 ((wd s 0).toNat : Int), .int .u64 ((wd s 1).toNat : Int), .int .u64 ((wd s 2).toNat : Int), .int .u64 ((wd s 3).toNat : Int)]) (.agg #[.int .u64 0, .int .u64 0, .int .u64 0, .int .u64 0])).run Try.prog W = .ok (.bool (!decide (s = 0#256))) W := fun W => by
  have h := ne_set s 0#256 W
  rw [wd_zero, wd_zero, wd_zero, wd_zero] at h
  exact h
theorem eq_none (s : BitVec 256) : ∀ W, (binOp .eql 24 (.agg #[.int .u64 ((wd s 0).toNat : Int), .int .u64 ((wd s 1).toNat : Int), .int .u64 ((wd s 2).toNat : Int), .int .u64 ((wd s 3).toNat : Int)]) (.agg #[.int .u64 0, .int .u64 0, .int .u64 0, .int .u64 0])).run Try.prog W = .ok (.bool (decide (s = 0#256))) W := fun W => by
  have h := eq_set s 0#256 W
  rw [wd_zero, wd_zero, wd_zero, wd_zero] at h
  exact h

set_option maxHeartbeats 4000000 in
theorem any_let (A0 A1 A2 A3 : Int) (R : Bool) (_hN : ∀ W, (binOp .neq 24 (.agg #[.int .u64 A0, .int .u64 A1, .int .u64 A2, .int .u64 A3]) (.agg #[.int .u64 0, .int .u64 0, .int .u64 0, .int .u64 0])).run Try.prog W = .ok (.bool R) W) (w : World) :
    Calls Try.prog 10 #[.agg #[.int .u64 A0, .int .u64 A1, .int .u64 A2, .int .u64 A3]] w (Makes (.bool R) w) := by
  have SS := cell_same
  have LB' := ltB_add
  have LS := ltB_self
  have LA' := alloc_reads
  have LH := alloc_holds
  go_enter Try.func10, Try.ntmps10
  go_wp2
  refine bodyPost_ret (v := .bool R) (by simp (maxDischargeDepth := 4) [results, Try.results10, go_sem, *]) rfl ?_
  refine ⟨rfl, ?_⟩
  repeat (first | with_reducible assumption | with_reducible exact Below.refl _ _ | with_reducible refine Below.drew ?_ | with_reducible refine below_drewN ?_ _ | with_reducible refine bw_alloc ?_ _ | (with_reducible refine bw_set ?_ ?_ _; focus (dsimp only; omega)) | (with_reducible apply bw_behind; with_reducible assumption))

theorem any_any (s : BitVec 256) (w : World) : Calls Try.prog 10 #[.agg #[.int .u64 ((wd s 0).toNat : Int), .int .u64 ((wd s 1).toNat : Int), .int .u64 ((wd s 2).toNat : Int), .int .u64 ((wd s 3).toNat : Int)]] w (Makes (.bool (!decide (s = 0#256))) w) := any_let _ _ _ _ _ (ne_none s) w

def alignB (off : Int) : Bool := decide (0 ≤ off) && (decide (off < 4096) && decide (off % 16 = 0))

set_option maxHeartbeats 4000000 in
theorem aligned_yes (X Q : Int) (c1 : ∀ W, Calls Try.prog 20 #[.int .i64 Q] W (Quiet (.bool true) W)) (_hq : RowKit.wrap64 (X.tdiv 16) = Q) (_hm : X.tmod 16 = 0) (w : World) :
    Calls Try.prog 16 #[.int .i64 X] w (Makes (.tuple #[.int .i64 Q, .bool true]) w) := by
  have Cc1 := hide c1
  clear c1
  have SS := cell_same
  have LB' := ltB_add
  have LS := ltB_self
  have LA' := alloc_reads
  have LH := alloc_holds
  go_enter Try.func16, Try.ntmps16
  go_wp2_with (first | (go_at_call 20; (with_reducible first | refine (Cc1.out _).mono ?_); rintro e w' ⟨rfl, n1, rfl⟩))
  refine bodyPost_ret (v := .tuple #[.int .i64 Q, .bool true]) (by simp (maxDischargeDepth := 4) [results, Try.results16, go_sem, *]) rfl ?_
  refine ⟨rfl, ?_⟩
  repeat (first | with_reducible assumption | with_reducible exact Below.refl _ _ | with_reducible refine Below.drew ?_ | with_reducible refine below_drewN ?_ _ | with_reducible refine bw_alloc ?_ _ | (with_reducible refine bw_set ?_ ?_ _; focus (dsimp only; omega)) | (with_reducible apply bw_behind; with_reducible assumption))

set_option maxHeartbeats 4000000 in
theorem aligned_no (X Q : Int) (c1 : ∀ W, Calls Try.prog 20 #[.int .i64 Q] W (Quiet (.bool false) W)) (_hq : RowKit.wrap64 (X.tdiv 16) = Q) (_hm : X.tmod 16 = 0) (w : World) :
    Calls Try.prog 16 #[.int .i64 X] w (Makes (.tuple #[.int .i64 0, .bool false]) w) := by
  have Cc1 := hide c1
  clear c1
  have SS := cell_same
  have LB' := ltB_add
  have LS := ltB_self
  have LA' := alloc_reads
  have LH := alloc_holds
  go_enter Try.func16, Try.ntmps16
  go_wp2_with (first | (go_at_call 20; (with_reducible first | refine (Cc1.out _).mono ?_); rintro e w' ⟨rfl, n1, rfl⟩))
  refine bodyPost_ret (v := .tuple #[.int .i64 0, .bool false]) (by simp (maxDischargeDepth := 4) [results, Try.results16, go_sem, *]) rfl ?_
  refine ⟨rfl, ?_⟩
  repeat (first | with_reducible assumption | with_reducible exact Below.refl _ _ | with_reducible refine Below.drew ?_ | with_reducible refine below_drewN ?_ _ | with_reducible refine bw_alloc ?_ _ | (with_reducible refine bw_set ?_ ?_ _; focus (dsimp only; omega)) | (with_reducible apply bw_behind; with_reducible assumption))

set_option maxHeartbeats 4000000 in
theorem aligned_odd (X M : Int) (_hm : X.tmod 16 = M) (_hne : M ≠ 0) (_hnb : (M == 0) = false) (w : World) :
    Calls Try.prog 16 #[.int .i64 X] w (Makes (.tuple #[.int .i64 0, .bool false]) w) := by
  have SS := cell_same
  have LB' := ltB_add
  have LS := ltB_self
  have LA' := alloc_reads
  have LH := alloc_holds
  go_enter Try.func16, Try.ntmps16
  go_wp2
  refine bodyPost_ret (v := .tuple #[.int .i64 0, .bool false]) (by simp (maxDischargeDepth := 4) [results, Try.results16, go_sem, *]) rfl ?_
  refine ⟨rfl, ?_⟩
  repeat (first | with_reducible assumption | with_reducible exact Below.refl _ _ | with_reducible refine Below.drew ?_ | with_reducible refine below_drewN ?_ _ | with_reducible refine bw_alloc ?_ _ | (with_reducible refine bw_set ?_ ?_ _; focus (dsimp only; omega)) | (with_reducible apply bw_behind; with_reducible assumption))

theorem tmod_zero (X : Int) : X.tmod 16 = 0 ↔ X % 16 = 0 := by
  constructor
  · intro h
    exact Int.emod_eq_zero_of_dvd (Int.dvd_of_tmod_eq_zero h)
  · intro h
    exact Int.tmod_eq_zero_of_dvd (Int.dvd_of_emod_eq_zero h)
theorem aligned_any (X : Int) (hlo : -9223372036854775808 ≤ X) (hhi : X < 9223372036854775808) (w : World) : Calls Try.prog 16 #[.int .i64 X] w (Makes (.tuple #[.int .i64 (if alignB X then X / 16 else 0), .bool (alignB X)]) w) := by
  by_cases hm : X % 16 = 0
  · have ht := (tmod_zero X).2 hm
    have hw : RowKit.wrap64 (X / 16) = X / 16 := by unfold RowKit.wrap64; omega
    have hd : X.tdiv 16 = X / 16 := by
      have := Int.mul_tdiv_add_tmod X 16
      omega
    cases hg : granB (X / 16) with
    | true =>
      have h2 : 0 ≤ X / 16 ∧ X / 16 < 256 := by simpa [granB] using hg
      have ha : alignB X = true := by unfold alignB; simp; omega
      rw [ha, if_pos rfl]
      exact aligned_yes X _ (gran_yes hg) (by rw [hd]; exact hw) ht w
    | false =>
      have h2 : ¬ (0 ≤ X / 16 ∧ X / 16 < 256) := by simpa [granB] using hg
      have ha : alignB X = false := by unfold alignB; simp; omega
      rw [ha, if_neg (by simp)]
      exact aligned_no X _ (gran_no hg) (by rw [hd]; exact hw) ht w
  · have ha : alignB X = false := by unfold alignB; simp [hm]
    have ht : X.tmod 16 ≠ 0 := fun e => hm ((tmod_zero X).1 e)
    rw [ha, if_neg (by simp)]
    exact aligned_odd X _ rfl ht (by simpa using ht) w
end Go.Proofs.Ytpikipfchkhnbaa
