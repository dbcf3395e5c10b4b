/-
  What the statements' Own answers: the same cells.
-/
import Derived.Test.YtnbfjaocakghkaaDoorReg2
namespace Go.Proofs.YtnbfjaocakghkaaDoor
open Go.RowKit

/-- The first k of R, the Pcc, and else nothing. -/
def ownR (R : Nat → C3) (k : Nat) : Nat → C3 := fun i => if i < k ∨ i = 32 then R i else zC
theorem ownR_0 (R : Nat → C3) : ownR R 0 = updC (fun _ => zC) 32 (R 32) := funext fun i => by
  unfold updC ownR
  by_cases h : i = 32
  · subst h; simp
  · simp [h]
theorem ownR_succ (R : Nat → C3) (k : Nat) (hk : k < 32) : updC (ownR R k) k (R k) = ownR R (k + 1) := funext fun i => by
  unfold updC ownR
  by_cases h : i = k
  · subst h; simp
  · rw [if_neg h]
    have : (i < k ∨ i = 32) ↔ (i < k + 1 ∨ i = 32) := by omega
    simp only [this]
theorem ownR_32 (R : Nat → C3) : ctxL (ownR R 32) = ctxL R := ctxL_congr fun i hi => by
  unfold ownR
  rw [if_pos (by omega)]
theorem ownA_32 (R : Nat → C3) : ctxA (ownR R 32) = ctxA R := by rw [ctxA, ctxA, ownR_32]

set_option maxRecDepth 100000 in
set_option maxHeartbeats 2000000 in
theorem own_all (R : Nat → C3) (w : World) : Calls Tryd.prog 6 #[.agg (ctxA R)] w (Makes (.agg (ctxA R)) w) := by
  obtain ⟨Z, hz, hZe⟩ := ctx_zero ctx_d
  have hZs := ctxA_size (fun _ => zC)
  rw [← hZe] at hZs
  obtain ⟨z0, z1, z2⟩ := ctxA_cells R 32 (by omega)
  have hpv := (R 32).1
  have hY : ctxA (updC (fun _ => zC) 32 (R 32)) = (((Z.setIfInBounds 96 (.bool (R 32).1)).setIfInBounds 97 (.int .u64 ((R 32).2.1 : Int))).setIfInBounds 98 (.int .u64 ((R 32).2.2 : Int))) := by rw [hZe]; exact zero_cells _ _ _
  clear hZe
  have HY := hide hY
  clear hY
  generalize hcs : ctxA R = cs at z0 z1 z2 ⊢
  have HC := hide hcs
  clear hcs
  go_enter Tryd.func6, Tryd.ntmps6
  go_wp2_with (first | ((refine wpList_store_ctxE rfl ctx_d rfl rfl rfl HY.out ?_ ?_); (focus ((repeat (first | with_reducible assumption | exact Ctx.own (by with_reducible assumption) | with_reducible refine o_dr _ ?_ | with_reducible refine o_d1 ?_ | with_reducible refine o_set ?_ | with_reducible refine o_sc ?_ | (with_reducible refine o_new ?_ ?_; (focus (first | rfl | (simp [*]; done) | (simp [*]; omega))); (focus (first | omega | (simp; done)))) | with_reducible refine o_al _ ?_ | (with_reducible apply o_be; with_reducible assumption))); done))))
  go_loopw [4] (fun i wr => ∃ k : Nat, k ≤ 32 ∧ i = .int .i64 (k : Int) ∧ Ctx wr w.heap.size R ∧ Ctx wr (w.heap.size + 2) (ownR R k) ∧ Own wr (w.heap.size + 1) 99 ∧ Below w.heap.size w wr) (fun i _ => 32 - (intOf i).toNat)
  case atStart =>
    refine ⟨0, by omega, rfl, ?_, ?_, ?_, ?_⟩
    · repeat (first | with_reducible assumption | with_reducible refine Ctx.dr ?_ _ | with_reducible refine Ctx.d1 ?_ | with_reducible exact ctx_newE HC.out rfl | (with_reducible refine ctx_newE HC.out ?_; focus (simp [*]; done)) | with_reducible refine Ctx.al ?_ _ | (with_reducible refine x_set ?_ ?_; focus (dsimp only; omega)) | (with_reducible refine x_sc ?_ ?_; focus omega) | (with_reducible refine x_be (by with_reducible assumption) ?_))
    · rw [ownR_0 R]
      refine ctx_store ?_ _
      (repeat (first | with_reducible assumption | exact Ctx.own (by with_reducible assumption) | with_reducible refine o_dr _ ?_ | with_reducible refine o_d1 ?_ | with_reducible refine o_set ?_ | with_reducible refine o_sc ?_ | (with_reducible refine o_new ?_ ?_; (focus (first | rfl | (simp [*]; done) | (simp [*]; omega))); (focus (first | omega | (simp; done)))) | with_reducible refine o_al _ ?_ | (with_reducible apply o_be; with_reducible assumption)))
    · repeat (first | with_reducible assumption | exact Ctx.own (by with_reducible assumption) | with_reducible refine o_dr _ ?_ | with_reducible refine o_d1 ?_ | with_reducible refine o_set ?_ | with_reducible refine o_sc ?_ | (with_reducible refine o_new ?_ ?_; (focus (first | rfl | (simp [*]; done) | (simp [*]; omega))); (focus (first | omega | (simp; done)))) | with_reducible refine o_al _ ?_ | (with_reducible apply o_be; with_reducible assumption))
    · repeat (first | with_reducible assumption | with_reducible exact Below.refl _ _ | with_reducible refine Below.drew ?_ | with_reducible refine below_drewN ?_ _ | with_reducible refine bw_alloc ?_ _ | (with_reducible refine bw_set ?_ ?_ _; focus (dsimp only; omega)) | (with_reducible apply bw_behind; with_reducible assumption) | (with_reducible refine bw_sc _ ?_ ?_; focus omega))
  case round =>
    obtain ⟨k, hk, rfl, hX, hY, hO, hB⟩ := hrel
    by_cases hlt : k < 32
    · have e1 : (k : Int) < 32 := by omega
      have e2 : (0 : Int) ≤ (k : Int) := by omega
      have c0 := hX.c0 (i := k) (by omega)
      have c1 := hX.c1 (i := k) (by omega)
      have c2 := hX.c2 (i := k) (by omega)
      rw [Nat.mul_comm] at c0 c1 c2
      have HR := hide (ownR_succ R k hlt)
      go_wp2_with (first | ((refine wpList_store_cap rfl cap_d rfl (R k) k rfl rfl (by omega) (by omega) hY ?_)))
      go_roundw
      case rel =>
        refine ⟨k + 1, by omega, by go_num, ?_, ?_, ?_, ?_⟩
        · exact hX.sc (by omega) _
        · rw [← HR.out]
          exact ctx_put hY (by omega) _
        · exact o_sc hO
        · exact hB.trans (be_sc _ (by omega))
      case measure => simp [intOf]; omega
    · obtain rfl : k = 32 := by omega
      go_wp2_with (first | ((refine wpList_load_ctx rfl ctx_d rfl rfl hY ?_)) | ((refine wpList_store_ctx rfl ctx_d rfl rfl rfl hO ?_)))
      refine bodyPost_ret (results_ctx rfl ctx_d rfl (R := ownR R 32) (ctx_store hO _)) rfl ⟨?_, ?_⟩
      · rw [ownA_32, HC.out]
      · exact hB.trans (be_sc _ (by omega))

end Go.Proofs.YtnbfjaocakghkaaDoor
