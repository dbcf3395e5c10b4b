/-
  Walk, for every root and every address.
-/
import Derived.Test.YtkajndonefkegaaDoorWalkWalk
namespace Go.Proofs.YtkajndonefkegaaDoor
open Go.RowKit Words FieldMath PteMath

set_option maxRecDepth 100000 in
set_option maxHeartbeats 4000000 in
theorem walk_may (R : Nat) (V T : Int) (cM : ∀ W, Calls Tryd.prog 29 #[.int .u64 V] W (Quiet (.bool false) W)) (w : World) : Calls Tryd.prog 41 #[.pointer (some ⟨R, 0, none⟩), .int .u64 T, .int .u64 V] w (Makes (.tuple #[.agg #[.bool false, .bool false, .bool false, .bool false, .bool false, .bool false, .bool false, .bool false, .bool false, .bool false, .bool false, .bool false, .int .u64 0, .int .u64 0], .int .i64 1]) w) := by
  have SS := cell_same
  have LB' := ltB_add
  have LS := ltB_self
  have LA' := alloc_reads
  have LH := alloc_holds
  have CM := hide cM
  clear cM
  go_enter Tryd.func41, Tryd.ntmps41
  go_wp2
  go_step3
  go_wp2_with (first | (go_at_call 29; (with_reducible refine (CM.out _).mono ?_); rintro e w' ⟨rfl, n1, rfl⟩))
  refine bodyPost_ret (v := .tuple #[.agg #[.bool false, .bool false, .bool false, .bool false, .bool false, .bool false, .bool false, .bool false, .bool false, .bool false, .bool false, .bool false, .int .u64 0, .int .u64 0], .int .i64 1]) (by simp (maxDischargeDepth := 4) [results, Tryd.results41, go_sem, *]) rfl ?_
  refine ⟨rfl, ?_⟩
  repeat (first | with_reducible assumption | with_reducible exact Below.refl _ _ | with_reducible refine Below.drew ?_ | with_reducible refine below_drewN ?_ _ | with_reducible refine bw_alloc ?_ _ | (with_reducible refine bw_set ?_ ?_ _; focus (dsimp only; omega)) | (with_reducible apply bw_behind; with_reducible assumption))

set_option maxRecDepth 100000 in
set_option maxHeartbeats 4000000 in
theorem walk_root (R N C : Nat) (V T : Int) (cM : ∀ W, Calls Tryd.prog 29 #[.int .u64 V] W (Quiet (.bool true) W)) (cX : ∀ W, W.cell? ⟨R, 0, none⟩ = some (.slice (some ⟨N, 0, none⟩) C C) → Calls Tryd.prog 71 #[.pointer (some ⟨R, 0, none⟩), .int .u64 T] W (Quiet (.bool false) W)) (w : World) (hc : w.cell? ⟨R, 0, none⟩ = some (.slice (some ⟨N, 0, none⟩) C C)) : Calls Tryd.prog 41 #[.pointer (some ⟨R, 0, none⟩), .int .u64 T, .int .u64 V] w (Makes (.tuple #[.agg #[.bool false, .bool false, .bool false, .bool false, .bool false, .bool false, .bool false, .bool false, .bool false, .bool false, .bool false, .bool false, .int .u64 0, .int .u64 0], .int .i64 1]) w) := by
  have SS := cell_same
  have LB' := ltB_add
  have LS := ltB_self
  have LA' := alloc_reads
  have LH := alloc_holds
  have CM := hide cM
  have CX := hide cX
  clear cM cX
  go_enter Tryd.func41, Tryd.ntmps41
  go_wp2
  go_step3
  go_wp2_with (first | (go_at_call 29; (with_reducible refine (CM.out _).mono ?_); rintro e w' ⟨rfl, n1, rfl⟩) | (go_at_call 71; (with_reducible refine (CX.out _ ?_).mono ?_); (focus (repeat (first | with_reducible assumption | with_reducible refine c_dr _ ?_ | with_reducible refine c_d1 ?_ | with_reducible refine c_al _ ?_ | (with_reducible refine c_set ?_ ?_; focus (dsimp only; omega)) | (with_reducible apply c_be; with_reducible assumption)))); rintro e w' ⟨rfl, n2, rfl⟩))
  refine bodyPost_ret (v := .tuple #[.agg #[.bool false, .bool false, .bool false, .bool false, .bool false, .bool false, .bool false, .bool false, .bool false, .bool false, .bool false, .bool false, .int .u64 0, .int .u64 0], .int .i64 1]) (by simp (maxDischargeDepth := 4) [results, Tryd.results41, go_sem, *]) rfl ?_
  refine ⟨rfl, ?_⟩
  repeat (first | with_reducible assumption | with_reducible exact Below.refl _ _ | with_reducible refine Below.drew ?_ | with_reducible refine below_drewN ?_ _ | with_reducible refine bw_alloc ?_ _ | (with_reducible refine bw_set ?_ ?_ _; focus (dsimp only; omega)) | (with_reducible apply bw_behind; with_reducible assumption))

theorem walk_any (R N C : Nat) (hC : C ≤ 64) (M : Nat → Nat → BitVec 64) (root v : BitVec 64) (w : World) (hT : Tab w) (hM : MemW w R N C M) : Calls Tryd.prog 41 #[.pointer (some ⟨R, 0, none⟩), .int .u64 (root.toNat : Int), .int .u64 (v.toNat : Int)] w (Makes (walkV (walkM M C root.toNat v.toNat)) w) := by
  unfold walkM
  by_cases hv : v.toNat < 274877906944
  · have cM := fun W => may_any v W
    rw [decide_eq_true (show (v.toNat : Int) < 274877906944 by omega)] at cM
    by_cases hr : root.toNat < C
    · rw [if_pos ⟨hv, hr⟩]
      exact walk_let R N C M v.toNat _ root.toNat _ rfl cM (fun l W => index_any v l W) (fun p k W hp hk h1 h2 => read_any hp hk hC R N M W h1 h2) (fun b0 b1 b2 b3 b4 b5 b6 b7 b8 b9 b10 b11 F W h => right_any b0 b1 b2 b3 b4 b5 b6 b7 b8 b9 b10 b11 F W h) (fun b0 b1 b2 b3 b4 b5 b6 b7 b8 b9 b10 b11 F W => leaf_any b0 b1 b2 b3 b4 b5 b6 b7 b8 b9 b10 b11 F W) (fun F W h => exists_any R N C F hC W h) hr w hT hM
    · rw [if_neg (fun h => hr h.2)]
      have cX := fun W h => exists_any R N C (root.toNat : Int) hC W h
      rw [decide_eq_false (show ¬ ((root.toNat : Int) < (C : Int)) by omega)] at cX
      exact walk_root R N C _ _ cM cX w hM.ram
  · rw [if_neg (fun h => hv h.1)]
    have cM := fun W => may_any v W
    rw [decide_eq_false (show ¬ ((v.toNat : Int) < 274877906944) by omega)] at cM
    exact walk_may R _ _ cM w
end Go.Proofs.YtkajndonefkegaaDoor
