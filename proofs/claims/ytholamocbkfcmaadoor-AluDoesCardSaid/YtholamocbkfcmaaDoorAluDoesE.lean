/-
  AluDoes where the number of the instruction is one of addi to srai: the walk.
-/
import Derived.Test.YtholamocbkfcmaaDoorAluLaw
namespace Go.Proofs.YtholamocbkfcmaaDoor.AluDoes
open Go.RowKit Words FieldMath

set_option maxRecDepth 100000 in
set_option maxHeartbeats 8000000 in
theorem walkE (op : Int) (h1 : 22 ≤ op) (h2 : op ≤ 30) (a b X Z : BitVec 64) (k t u : Bool) (V : Int) (c1 : ∀ W, Calls Tryd.prog 5 #[.int .i64 op, .int .u64 (a.toNat : Int), .int .u64 (b.toNat : Int)] W (Makes (.tuple #[.int .u64 (X.toNat : Int), .bool k]) W)) (c2 : ∀ W, Calls Tryd.prog 6 #[.int .i64 op, .int .u64 (a.toNat : Int), .int .u64 (b.toNat : Int)] W (Makes (.tuple #[.int .u64 (X.toNat : Int), .bool k]) W)) (c3 : ∀ W, Calls Tryd.prog 7 #[.int .i64 op, .int .u64 (a.toNat : Int), .int .u64 (b.toNat : Int)] W (Makes (.tuple #[.bool t, .bool u]) W)) (c4 : ∀ W, Calls Tryd.prog 8 #[.int .i64 op, .int .u64 (a.toNat : Int), .int .u64 (b.toNat : Int)] W (Makes (.tuple #[.bool t, .bool u]) W)) (c5 : ∀ W, Tab W → Calls Tryd.prog 9 #[.int .i64 op] W (Makes (.int .i64 V) W)) (c6 : ∀ W, Calls Tryd.prog 10 #[.int .i64 op] W (Makes (.int .i64 V) W)) (c7 : ∀ W, Tab W → Calls Tryd.prog 11 #[.int .i64 op, .int .u64 (a.toNat : Int)] W (Makes (.int .u64 (Z.toNat : Int)) W)) (c8 : ∀ W, Calls Tryd.prog 12 #[.int .i64 op, .int .u64 (a.toNat : Int)] W (Makes (.int .u64 (Z.toNat : Int)) W)) (w : World) (hT : Tab w) : Calls Tryd.prog 3 #[.int .i64 op, .int .u64 (a.toNat : Int), .int .u64 (b.toNat : Int)] w (Makes (.bool true) w) := by
  have g0 : 11 ≤ op := by omega
  have g1 : 17 < op := by omega
  have dLoads := loads_hi op (by omega) (by omega)
  have g2 : 18 ≤ op := by omega
  have g3 : 21 < op := by omega
  have dStores := stores_hi op (by omega) (by omega)
  have g4 : 5 ≤ op := by omega
  have g5 : 10 < op := by omega
  have dBranches := branches_hi op (by omega) (by omega)
  have g6 : 22 ≤ op := by omega
  have g7 : op ≤ 30 := by omega
  have dImmediate := immediate_yes op (by omega) (by omega)
  have o1 := one_any
  have Cc1 := hide c1
  have Cc2 := hide c2
  have Cc3 := hide c3
  have Cc4 := hide c4
  have Cc5 := hide c5
  have Cc6 := hide c6
  have Cc7 := hide c7
  have Cc8 := hide c8
  have CdLoads := hide dLoads
  have CdStores := hide dStores
  have CdBranches := hide dBranches
  have CdImmediate := hide dImmediate
  have Co1 := hide o1
  clear c1 c2 c3 c4 c5 c6 c7 c8 dLoads dStores dBranches dImmediate o1 h1 h2
  go_enter Tryd.func3, Tryd.ntmps3
  go_wp2_with (first | (go_at_call 5; (with_reducible first | refine (Cc1.out _).mono ?_); rintro e w1 ⟨rfl, hb1⟩) | (go_at_call 6; (with_reducible first | refine (Cc2.out _).mono ?_); rintro e w2 ⟨rfl, hb2⟩) | (go_at_call 7; (with_reducible first | refine (Cc3.out _).mono ?_); rintro e w3 ⟨rfl, hb3⟩) | (go_at_call 8; (with_reducible first | refine (Cc4.out _).mono ?_); rintro e w4 ⟨rfl, hb4⟩) | (go_at_call 9; (with_reducible refine (Cc5.out _ ?_).mono ?_); (refine hT.behind ?_; repeat (first | with_reducible assumption | with_reducible exact Below.refl _ _ | with_reducible refine Below.drew ?_ | with_reducible refine below_drewN ?_ _ | with_reducible refine bw_alloc ?_ _ | (with_reducible refine bw_set ?_ ?_ _; focus (dsimp only; omega)) | (with_reducible apply bw_behind; with_reducible assumption))); rintro e w5 ⟨rfl, hb5⟩) | (go_at_call 10; (with_reducible first | refine (Cc6.out _).mono ?_); rintro e w6 ⟨rfl, hb6⟩) | (go_at_call 11; (with_reducible refine (Cc7.out _ ?_).mono ?_); (refine hT.behind ?_; repeat (first | with_reducible assumption | with_reducible exact Below.refl _ _ | with_reducible refine Below.drew ?_ | with_reducible refine below_drewN ?_ _ | with_reducible refine bw_alloc ?_ _ | (with_reducible refine bw_set ?_ ?_ _; focus (dsimp only; omega)) | (with_reducible apply bw_behind; with_reducible assumption))); rintro e w7 ⟨rfl, hb7⟩) | (go_at_call 12; (with_reducible first | refine (Cc8.out _).mono ?_); rintro e w8 ⟨rfl, hb8⟩) | (go_at_call 13; (with_reducible first | refine (CdLoads.out _).mono ?_); rintro e w9 ⟨rfl, hb9⟩) | (go_at_call 14; (with_reducible first | refine (CdStores.out _).mono ?_); rintro e w10 ⟨rfl, hb10⟩) | (go_at_call 15; (with_reducible first | refine (CdBranches.out _).mono ?_); rintro e w11 ⟨rfl, hb11⟩) | (go_at_call 16; (with_reducible first | refine (CdImmediate.out _).mono ?_); rintro e w12 ⟨rfl, hb12⟩) | (go_at_call 17; (with_reducible first | refine (Co1.out _).mono ?_); rintro e w13 ⟨rfl, hb13⟩))
  refine bodyPost_ret (v := .bool true) (by simp (maxDischargeDepth := 4) [results, Tryd.results3, go_sem, *]) rfl ?_
  refine ⟨rfl, ?_⟩
  repeat (first | with_reducible assumption | with_reducible exact Below.refl _ _ | with_reducible refine Below.drew ?_ | with_reducible refine below_drewN ?_ _ | with_reducible refine bw_alloc ?_ _ | (with_reducible refine bw_set ?_ ?_ _; focus (dsimp only; omega)) | (with_reducible apply bw_behind; with_reducible assumption))
end Go.Proofs.YtholamocbkfcmaaDoor.AluDoes
