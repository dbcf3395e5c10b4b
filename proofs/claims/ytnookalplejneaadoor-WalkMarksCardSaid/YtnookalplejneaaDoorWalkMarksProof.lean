/-
  WalkMarks holds: for every l, va and how the law returns true and turns nothing that was there, where the table of places holds what the program's text lays.
-/
import Derived.Test.YtnookalplejneaaDoorWalkMath2
import Derived.Test.YtnookalplejneaaDoorWalkOne
import Derived.Test.YtnookalplejneaaDoorWalkArg
import Derived.Test.YtnookalplejneaaDoorPteEq
import Derived.Deep.QuietTactic
import Derived.BigQuiet
namespace Go.Proofs.YtnookalplejneaaDoor.WalkMarks
open Go.RowKit Words FieldMath PteMath

set_option maxRecDepth 100000 in
set_option maxHeartbeats 8000000 in
theorem way_none (t1 : Bool) (V k H H1 : Int) (sl : Value) (M : Nat → Nat → BitVec 64) (w : World) (hT : Tab w) (c1 : ∀ W, Below w.heap.size w W → Calls Tryd.prog 8 #[sl] W (fun e W' => ∃ R N sa na ca sb nb cb, e = .returned (.tuple #[.pointer (some ⟨R, 0, none⟩), .agg #[.int .i64 8, .slice sa na ca, .slice sb nb cb, .slice none 0 0]]) ∧ MemW W' R N 8 M ∧ Below W.heap.size W W' ∧ W.heap.size ≤ R ∧ W.heap.size ≤ N)) (c2 : ∀ R N W, Tab W → MemW W R N 8 M → Calls Tryd.prog 9 #[.pointer (some ⟨R, 0, none⟩), .int .u64 0, .int .u64 V] W (Makes (.tuple #[.agg #[.bool false, .bool false, .bool false, .bool false, .bool false, .bool false, .bool false, .bool false, .bool false, .bool false, .bool false, .bool false, .int .u64 0, .int .u64 0], .int .i64 1]) W)) (co : ∀ W, Tab W → Calls Tryd.prog 11 #[] W (Makes (.bool true) W)) (g1 : bits .and .i64 H 1 = H1) (g3 : (H1 == 1) = t1) : Calls Tryd.prog 5 #[sl, .int .u64 V, .agg #[.int .i64 k, .int .i64 H]] w (Makes (.bool true) w) := by
  have Co := hide co
  have Cc1 := hide c1
  have Cc2 := hide c2
  clear c1 c2
  have SS := cell_same
  have LB' := ltB_add
  have LS := ltB_self
  have LA' := alloc_reads
  have LH := alloc_holds
  clear co
  go_enter Tryd.func5, Tryd.ntmps5
  go_upto_region 2 with (first | (go_at_call 8; (with_reducible refine (Cc1.out _ ?_).mono ?_); (focus (repeat (first | with_reducible assumption | with_reducible exact Below.refl _ _ | with_reducible refine Below.drew ?_ | with_reducible refine below_drewN ?_ _ | with_reducible refine bw_alloc ?_ _ | (with_reducible refine bw_set ?_ ?_ _; focus (dsimp only; omega)) | (with_reducible apply bw_behind; with_reducible assumption)))); rintro _ w1 ⟨R1, N1, sa1, na1, ca1, sb1, nb1, cb1, rfl, hM1, hb1, hR1, hN1⟩; have hr1 := below_reads hb1; have hh1 := below_holds hb1; obtain ⟨m1, hs1⟩ := below_grew hb1))
  go_quiet (fail)
  go_wp2_with (first | (go_at_call 9; (first | ((with_reducible refine (Cc2.out _ N1 _ ?_ ?_).mono ?_); (refine hT.behind ?_; repeat (first | with_reducible assumption | with_reducible exact Below.refl _ _ | with_reducible refine Below.drew ?_ | with_reducible refine below_drewN ?_ _ | with_reducible refine bw_alloc ?_ _ | (with_reducible refine bw_set ?_ ?_ _; focus (dsimp only; omega)) | (with_reducible apply bw_behind; with_reducible assumption))); (focus (repeat (first | with_reducible assumption | with_reducible refine mw_dr _ ?_ | with_reducible refine mw_d1 ?_ | with_reducible refine mw_al _ ?_ | (with_reducible apply mw_be; with_reducible assumption)))))); rintro _ w2 ⟨rfl, hb2⟩; have hr2 := below_reads hb2; have hh2 := below_holds hb2; obtain ⟨m2, hs2⟩ := below_grew hb2) | (go_at_call 11; (with_reducible refine (Co.out _ ?_).mono ?_); (refine hT.behind ?_; repeat (first | with_reducible assumption | with_reducible exact Below.refl _ _ | with_reducible refine Below.drew ?_ | with_reducible refine below_drewN ?_ _ | with_reducible refine bw_alloc ?_ _ | (with_reducible refine bw_set ?_ ?_ _; focus (dsimp only; omega)) | (with_reducible apply bw_behind; with_reducible assumption))); rintro _ w3 ⟨rfl, hb3⟩; have hr3 := below_reads hb3; have hh3 := below_holds hb3; obtain ⟨m3, hs3⟩ := below_grew hb3))
  go_ret
  refine ⟨rfl, ?_⟩
  repeat (first | with_reducible assumption | with_reducible exact Below.refl _ _ | with_reducible refine Below.drew ?_ | with_reducible refine below_drewN ?_ _ | with_reducible refine bw_alloc ?_ _ | (with_reducible refine bw_set ?_ ?_ _; focus (dsimp only; omega)) | (with_reducible apply bw_behind; with_reducible assumption))

set_option maxRecDepth 100000 in
set_option maxHeartbeats 8000000 in
theorem way_not (b0 b1 b2 b3 b4 b5 b6 b7 b8 b9 b10 b11 t1 t2 : Bool) (F A V k H H1 H2 Q : Int) (sl : Value) (M : Nat → Nat → BitVec 64) (w : World) (hT : Tab w) (c1 : ∀ W, Below w.heap.size w W → Calls Tryd.prog 8 #[sl] W (fun e W' => ∃ R N sa na ca sb nb cb, e = .returned (.tuple #[.pointer (some ⟨R, 0, none⟩), .agg #[.int .i64 8, .slice sa na ca, .slice sb nb cb, .slice none 0 0]]) ∧ MemW W' R N 8 M ∧ Below W.heap.size W W' ∧ W.heap.size ≤ R ∧ W.heap.size ≤ N)) (c2 : ∀ R N W, Tab W → MemW W R N 8 M → Calls Tryd.prog 9 #[.pointer (some ⟨R, 0, none⟩), .int .u64 0, .int .u64 V] W (Makes (.tuple #[.agg #[.bool b0, .bool b1, .bool b2, .bool b3, .bool b4, .bool b5, .bool b6, .bool b7, .bool b8, .bool b9, .bool b10, .bool b11, .int .u64 F, .int .u64 A], .int .i64 0]) W)) (c3 : ∀ W, Calls Tryd.prog 12 #[.agg #[.bool b0, .bool b1, .bool b2, .bool b3, .bool b4, .bool b5, .bool b6, .bool b7, .bool b8, .bool b9, .bool b10, .bool b11, .int .u64 F], .int .i64 k, .bool t1, .bool t2] W (Makes (.int .i64 Q) W)) (co : ∀ W, Tab W → Calls Tryd.prog 11 #[] W (Makes (.bool true) W)) (hQ : (Q != 0) = true) (g1 : bits .and .i64 H 1 = H1) (g2 : bits .and .i64 H 2 = H2) (g3 : (H1 == 1) = t1) (g4 : (H2 == 2) = t2) : Calls Tryd.prog 5 #[sl, .int .u64 V, .agg #[.int .i64 k, .int .i64 H]] w (Makes (.bool true) w) := by
  have Co := hide co
  have Cc1 := hide c1
  have Cc2 := hide c2
  have Cc3 := hide c3
  clear c1 c2 c3
  have SS := cell_same
  have LB' := ltB_add
  have LS := ltB_self
  have LA' := alloc_reads
  have LH := alloc_holds
  clear co
  go_enter Tryd.func5, Tryd.ntmps5
  go_upto_region 2 with (first | (go_at_call 8; (with_reducible refine (Cc1.out _ ?_).mono ?_); (focus (repeat (first | with_reducible assumption | with_reducible exact Below.refl _ _ | with_reducible refine Below.drew ?_ | with_reducible refine below_drewN ?_ _ | with_reducible refine bw_alloc ?_ _ | (with_reducible refine bw_set ?_ ?_ _; focus (dsimp only; omega)) | (with_reducible apply bw_behind; with_reducible assumption)))); rintro _ w1 ⟨R1, N1, sa1, na1, ca1, sb1, nb1, cb1, rfl, hM1, hb1, hR1, hN1⟩; have hr1 := below_reads hb1; have hh1 := below_holds hb1; obtain ⟨m1, hs1⟩ := below_grew hb1))
  go_quiet (fail)
  go_wp2_with (first | (go_at_call 9; (first | ((with_reducible refine (Cc2.out _ N1 _ ?_ ?_).mono ?_); (refine hT.behind ?_; repeat (first | with_reducible assumption | with_reducible exact Below.refl _ _ | with_reducible refine Below.drew ?_ | with_reducible refine below_drewN ?_ _ | with_reducible refine bw_alloc ?_ _ | (with_reducible refine bw_set ?_ ?_ _; focus (dsimp only; omega)) | (with_reducible apply bw_behind; with_reducible assumption))); (focus (repeat (first | with_reducible assumption | with_reducible refine mw_dr _ ?_ | with_reducible refine mw_d1 ?_ | with_reducible refine mw_al _ ?_ | (with_reducible apply mw_be; with_reducible assumption)))))); rintro _ w2 ⟨rfl, hb2⟩; have hr2 := below_reads hb2; have hh2 := below_holds hb2; obtain ⟨m2, hs2⟩ := below_grew hb2) | (go_at_call 12; (with_reducible first | refine (Cc3.out _).mono ?_); rintro _ w4 ⟨rfl, hb4⟩; have hr4 := below_reads hb4; have hh4 := below_holds hb4; obtain ⟨m4, hs4⟩ := below_grew hb4) | (go_at_call 11; (with_reducible refine (Co.out _ ?_).mono ?_); (refine hT.behind ?_; repeat (first | with_reducible assumption | with_reducible exact Below.refl _ _ | with_reducible refine Below.drew ?_ | with_reducible refine below_drewN ?_ _ | with_reducible refine bw_alloc ?_ _ | (with_reducible refine bw_set ?_ ?_ _; focus (dsimp only; omega)) | (with_reducible apply bw_behind; with_reducible assumption))); rintro _ w3 ⟨rfl, hb3⟩; have hr3 := below_reads hb3; have hh3 := below_holds hb3; obtain ⟨m3, hs3⟩ := below_grew hb3))
  go_ret
  refine ⟨rfl, ?_⟩
  repeat (first | with_reducible assumption | with_reducible exact Below.refl _ _ | with_reducible refine Below.drew ?_ | with_reducible refine below_drewN ?_ _ | with_reducible refine bw_alloc ?_ _ | (with_reducible refine bw_set ?_ ?_ _; focus (dsimp only; omega)) | (with_reducible apply bw_behind; with_reducible assumption))

set_option maxRecDepth 100000 in
set_option maxHeartbeats 4000000 in
theorem eqi_found (d0 d1 d2 d3 d4 d5 d6 d7 d8 d9 d10 d11 : Bool) (F A : Int) : ∀ W, (Op.equalIn 10000 34 (.agg #[.bool d0, .bool d1, .bool d2, .bool d3, .bool d4, .bool d5, .bool d6, .bool d7, .bool d8, .bool d9, .bool d10, .bool d11, .int .u64 F, .int .u64 A]) (.agg #[.bool d0, .bool d1, .bool d2, .bool d3, .bool d4, .bool d5, .bool d6, .bool d7, .bool d8, .bool d9, .bool d10, .bool d11, .int .u64 F, .int .u64 A])).run Tryd.prog W = .ok true W := by
  intro W
  simp [go_sem]
set_option maxRecDepth 100000 in
set_option maxHeartbeats 16000000 in
theorem way_all (b0 b1 b2 b3 b4 b5 b6 b7 b8 b9 b10 b11 D X t1 t2 : Bool) (F A V k H H1 H2 : Int) (o : Nat) (sl : Value) (M M2 : Nat → Nat → BitVec 64) (w : World) (hT : Tab w) (c1 : ∀ W, Below w.heap.size w W → Calls Tryd.prog 8 #[sl] W (fun e W' => ∃ R N sa na ca sb nb cb, e = .returned (.tuple #[.pointer (some ⟨R, 0, none⟩), .agg #[.int .i64 8, .slice sa na ca, .slice sb nb cb, .slice none 0 0]]) ∧ MemW W' R N 8 M ∧ Below W.heap.size W W' ∧ W.heap.size ≤ R ∧ W.heap.size ≤ N)) (c2 : ∀ R N W, Tab W → MemW W R N 8 M → Calls Tryd.prog 9 #[.pointer (some ⟨R, 0, none⟩), .int .u64 0, .int .u64 V] W (Makes (.tuple #[.agg #[.bool b0, .bool b1, .bool b2, .bool b3, .bool b4, .bool b5, .bool b6, .bool b7, .bool b8, .bool b9, .bool b10, .bool b11, .int .u64 F, .int .u64 A], .int .i64 0]) W)) (c3 : ∀ W, Calls Tryd.prog 12 #[.agg #[.bool b0, .bool b1, .bool b2, .bool b3, .bool b4, .bool b5, .bool b6, .bool b7, .bool b8, .bool b9, .bool b10, .bool b11, .int .u64 F], .int .i64 k, .bool t1, .bool t2] W (Makes (.int .i64 0) W)) (cm : ∀ R N W, Tab W → MemW W R N 8 M → Calls Tryd.prog 17 #[.pointer (some ⟨R, 0, none⟩), .agg #[.bool b0, .bool b1, .bool b2, .bool b3, .bool b4, .bool b5, .bool b6, .bool b7, .bool b8, .bool b9, .bool b10, .bool b11, .int .u64 F, .int .u64 A], .int .i64 k, .bool t1] W fun e w' => e = .returned (.agg #[.bool b0, .bool b1, .bool b2, .bool b3, .bool b4, .bool b5, .bool true, .bool D, .bool b8, .bool b9, .bool X, .bool b11, .int .u64 F, .int .u64 A]) ∧ MemW w' R N 8 M2 ∧ Out N o W w') (c4 : ∀ R N W, Tab W → MemW W R N 8 M2 → Calls Tryd.prog 9 #[.pointer (some ⟨R, 0, none⟩), .int .u64 0, .int .u64 V] W (Makes (.tuple #[.agg #[.bool b0, .bool b1, .bool b2, .bool b3, .bool b4, .bool b5, .bool true, .bool D, .bool b8, .bool b9, .bool X, .bool b11, .int .u64 F, .int .u64 A], .int .i64 0]) W)) (c5 : ∀ W, Tab W → Calls Tryd.prog 14 #[.agg #[.bool b0, .bool b1, .bool b2, .bool b3, .bool b4, .bool b5, .bool b6, .bool b7, .bool b8, .bool b9, .bool b10, .bool b11, .int .u64 F], .int .i64 k, .bool t1] W (Makes (.agg #[.bool b0, .bool b1, .bool b2, .bool b3, .bool b4, .bool b5, .bool true, .bool D, .bool b8, .bool b9, .bool X, .bool b11, .int .u64 F]) W)) (c6 : ∀ W, Tab W → Calls Tryd.prog 14 #[.agg #[.bool b0, .bool b1, .bool b2, .bool b3, .bool b4, .bool b5, .bool true, .bool D, .bool b8, .bool b9, .bool X, .bool b11, .int .u64 F], .int .i64 k, .bool t1] W (Makes (.agg #[.bool b0, .bool b1, .bool b2, .bool b3, .bool b4, .bool b5, .bool true, .bool D, .bool b8, .bool b9, .bool X, .bool b11, .int .u64 F]) W)) (c7 : ∀ W, Calls Tryd.prog 12 #[.agg #[.bool b0, .bool b1, .bool b2, .bool b3, .bool b4, .bool b5, .bool true, .bool D, .bool b8, .bool b9, .bool X, .bool b11, .int .u64 F], .int .i64 k, .bool t1, .bool t2] W (Makes (.int .i64 0) W)) (c8 : ∀ W, Tab W → Calls Tryd.prog 18 #[.agg #[.bool b0, .bool b1, .bool b2, .bool b3, .bool b4, .bool b5, .bool true, .bool D, .bool b8, .bool b9, .bool X, .bool b11, .int .u64 F]] W (Makes (.bool true) W)) (co : ∀ W, Tab W → Calls Tryd.prog 11 #[] W (Makes (.bool true) W)) (g1 : bits .and .i64 H 1 = H1) (g2 : bits .and .i64 H 2 = H2) (g3 : (H1 == 1) = t1) (g4 : (H2 == 2) = t2) : Calls Tryd.prog 5 #[sl, .int .u64 V, .agg #[.int .i64 k, .int .i64 H]] w (Makes (.bool true) w) := by
  have Co := hide co
  have Cm := hide cm
  have Cc1 := hide c1
  have Cc2 := hide c2
  have Cc3 := hide c3
  have Cc4 := hide c4
  have Cc5 := hide c5
  have Cc6 := hide c6
  have Cc7 := hide c7
  have Cc8 := hide c8
  clear c1 c2 c3 c4 c5 c6 c7 c8
  have SS := cell_same
  have LB' := ltB_add
  have LS := ltB_self
  have LA' := alloc_reads
  have LH := alloc_holds
  clear co cm
  have EIE : ∀ W, (Op.equalIn 10000 32 (.agg #[.bool b0, .bool b1, .bool b2, .bool b3, .bool b4, .bool b5, .bool true, .bool D, .bool b8, .bool b9, .bool X, .bool b11, .int .u64 F]) (.agg #[.bool b0, .bool b1, .bool b2, .bool b3, .bool b4, .bool b5, .bool true, .bool D, .bool b8, .bool b9, .bool X, .bool b11, .int .u64 F])).run Tryd.prog W = .ok true W := fun W => by rw [eqi_e, decide_eq_true rfl]
  have NEE : ∀ W, (binOp .neq 32 (.agg #[.bool b0, .bool b1, .bool b2, .bool b3, .bool b4, .bool b5, .bool true, .bool D, .bool b8, .bool b9, .bool X, .bool b11, .int .u64 F]) (.agg #[.bool b0, .bool b1, .bool b2, .bool b3, .bool b4, .bool b5, .bool true, .bool D, .bool b8, .bool b9, .bool X, .bool b11, .int .u64 F])).run Tryd.prog W = .ok (.bool false) W := fun W => by rw [ne_e, decide_eq_true rfl]; rfl
  have EQB : ∀ W, (binOp .eql 32 (.agg #[.bool b0, .bool b1, .bool b2, .bool b3, .bool b4, .bool b5, .bool b6, .bool b7, .bool b8, .bool b9, .bool b10, .bool b11, .int .u64 F]) (.agg #[.bool b0, .bool b1, .bool b2, .bool b3, .bool b4, .bool b5, .bool b6, .bool b7, .bool b8, .bool b9, .bool b10, .bool b11, .int .u64 F])).run Tryd.prog W = .ok (.bool true) W := fun W => by rw [eq_e, decide_eq_true rfl]
  have EIF : ∀ W, (Op.equalIn 10000 34 (.agg #[.bool b0, .bool b1, .bool b2, .bool b3, .bool b4, .bool b5, .bool true, .bool D, .bool b8, .bool b9, .bool X, .bool b11, .int .u64 F, .int .u64 A]) (.agg #[.bool b0, .bool b1, .bool b2, .bool b3, .bool b4, .bool b5, .bool true, .bool D, .bool b8, .bool b9, .bool X, .bool b11, .int .u64 F, .int .u64 A])).run Tryd.prog W = .ok true W := eqi_found b0 b1 b2 b3 b4 b5 true D b8 b9 X b11 F A
  have NEF : ∀ W, (binOp .neq 34 (.agg #[.bool b0, .bool b1, .bool b2, .bool b3, .bool b4, .bool b5, .bool true, .bool D, .bool b8, .bool b9, .bool X, .bool b11, .int .u64 F, .int .u64 A]) (.agg #[.bool b0, .bool b1, .bool b2, .bool b3, .bool b4, .bool b5, .bool true, .bool D, .bool b8, .bool b9, .bool X, .bool b11, .int .u64 F, .int .u64 A])).run Tryd.prog W = .ok (.bool false) W := fun W => by rw [run_neq_struct, EIF]; rfl
  go_enter Tryd.func5, Tryd.ntmps5
  go_upto_region 2 with (first | (go_at_call 8; (with_reducible refine (Cc1.out _ ?_).mono ?_); (focus (repeat (first | with_reducible assumption | with_reducible exact Below.refl _ _ | with_reducible refine Below.drew ?_ | with_reducible refine below_drewN ?_ _ | with_reducible refine bw_alloc ?_ _ | (with_reducible refine bw_set ?_ ?_ _; focus (dsimp only; omega)) | (with_reducible apply bw_behind; with_reducible assumption)))); rintro _ w1 ⟨R1, N1, sa1, na1, ca1, sb1, nb1, cb1, rfl, hM1, hb1, hR1, hN1⟩; have hr1 := below_reads hb1; have hh1 := below_holds hb1; obtain ⟨m1, hs1⟩ := below_grew hb1))
  go_quiet (fail)
  go_upto_region 4 with (first | (go_at_call 9; (first | ((with_reducible refine (Cc2.out _ N1 _ ?_ ?_).mono ?_); (refine hT.behind ?_; repeat (first | with_reducible assumption | with_reducible exact Below.refl _ _ | with_reducible refine Below.drew ?_ | with_reducible refine below_drewN ?_ _ | with_reducible refine bw_alloc ?_ _ | (with_reducible refine bw_set ?_ ?_ _; focus (dsimp only; omega)) | (with_reducible apply bw_behind; with_reducible assumption))); (focus (repeat (first | with_reducible assumption | with_reducible refine mw_dr _ ?_ | with_reducible refine mw_d1 ?_ | with_reducible refine mw_al _ ?_ | (with_reducible apply mw_be; with_reducible assumption)))))); rintro _ w2 ⟨rfl, hb2⟩; have hr2 := below_reads hb2; have hh2 := below_holds hb2; obtain ⟨m2, hs2⟩ := below_grew hb2) | (go_at_call 12; (with_reducible first | refine (Cc3.out _).mono ?_); rintro _ w4 ⟨rfl, hb4⟩; have hr4 := below_reads hb4; have hh4 := below_holds hb4; obtain ⟨m4, hs4⟩ := below_grew hb4))
  have hNl : N1 < w1.heap.size := by
    obtain ⟨B, S, hm, _⟩ := hM1
    exact (hm.page 0 (by omega)).here
  refine wp_abs (fun W => MemW W R1 N1 8 M ∧ Below w.heap.size w W ∧ W.cell? ⟨w.heap.size, 0, none⟩ = some (.int .i64 k) ∧ W.cell? ⟨w.heap.size, 1, none⟩ = some (.int .i64 H) ∧ W.cell? ⟨w.heap.size + 1 + m1 + 1 + m2, 0, none⟩ = some (.bool b0) ∧ W.cell? ⟨w.heap.size + 1 + m1 + 1 + m2, 1, none⟩ = some (.bool b1) ∧ W.cell? ⟨w.heap.size + 1 + m1 + 1 + m2, 2, none⟩ = some (.bool b2) ∧ W.cell? ⟨w.heap.size + 1 + m1 + 1 + m2, 3, none⟩ = some (.bool b3) ∧ W.cell? ⟨w.heap.size + 1 + m1 + 1 + m2, 4, none⟩ = some (.bool b4) ∧ W.cell? ⟨w.heap.size + 1 + m1 + 1 + m2, 5, none⟩ = some (.bool b5) ∧ W.cell? ⟨w.heap.size + 1 + m1 + 1 + m2, 6, none⟩ = some (.bool b6) ∧ W.cell? ⟨w.heap.size + 1 + m1 + 1 + m2, 7, none⟩ = some (.bool b7) ∧ W.cell? ⟨w.heap.size + 1 + m1 + 1 + m2, 8, none⟩ = some (.bool b8) ∧ W.cell? ⟨w.heap.size + 1 + m1 + 1 + m2, 9, none⟩ = some (.bool b9) ∧ W.cell? ⟨w.heap.size + 1 + m1 + 1 + m2, 10, none⟩ = some (.bool b10) ∧ W.cell? ⟨w.heap.size + 1 + m1 + 1 + m2, 11, none⟩ = some (.bool b11) ∧ W.cell? ⟨w.heap.size + 1 + m1 + 1 + m2, 12, none⟩ = some (.int .u64 F) ∧ W.cell? ⟨w.heap.size + 1 + m1 + 1 + m2, 13, none⟩ = some (.int .u64 A)) ?_ ?_
  · refine ⟨?_, ?_, ?_, ?_, ?_, ?_, ?_, ?_, ?_, ?_, ?_, ?_, ?_, ?_, ?_, ?_, ?_, ?_⟩
    · repeat (first | with_reducible assumption | with_reducible refine mw_dr _ ?_ | with_reducible refine mw_d1 ?_ | with_reducible refine mw_al _ ?_ | (with_reducible apply mw_be; with_reducible assumption))
    all_goals (first | with_reducible assumption | ((repeat (first | with_reducible assumption | with_reducible refine c_dr _ ?_ | with_reducible refine c_d1 ?_ | with_reducible refine c_al _ ?_ | (with_reducible refine c_set ?_ ?_; focus (dsimp only; omega)) | (with_reducible apply c_be; with_reducible assumption))); done) | ((repeat (first | with_reducible assumption | with_reducible refine o_dr _ ?_ | with_reducible refine o_d1 ?_ | with_reducible refine o_set ?_ | (with_reducible refine o_new ?_ ?_; (focus (simp)); (focus (simp))) | with_reducible refine o_al _ ?_ | (with_reducible apply o_be; with_reducible assumption))); done) | ((repeat (first | with_reducible assumption | with_reducible exact Below.refl _ _ | with_reducible refine Below.drew ?_ | with_reducible refine below_drewN ?_ _ | with_reducible refine bw_alloc ?_ _ | (with_reducible refine bw_set ?_ ?_ _; focus (dsimp only; omega)) | (with_reducible apply bw_behind; with_reducible assumption))); done) | (simp [go_sem, *]; omega) | (simp (maxDischargeDepth := 4) [go_sem, *]; done))
  rintro wf ⟨hMf, hBf, j0, j1, f0, f1, f2, f3, f4, f5, f6, f7, f8, f9, f10, f11, f12, f13⟩
  have hNh : w.heap.size < N1 := by simp at hN1; omega
  have hNf : N1 < w.heap.size + 1 + m1 + 1 + m2 := by simp at hs1; omega
  have qh : ltB w.heap.size wf.heap.size = true := decide_eq_true (World.block_lt_of_cell? wf _ j0)
  have qf : ltB (w.heap.size + 1 + m1 + 1 + m2) wf.heap.size = true := decide_eq_true (World.block_lt_of_cell? wf _ f0)
  clear hM1 hb1 hr1 hh1 hs1 hR1 hN1 hb2 hr2 hh2 hs2 hNl
  generalize w.heap.size + 1 + m1 + 1 + m2 = fb at *
  clear w2
  go_upto_region 9 with (first | (go_at_call 9; (first | ((with_reducible refine (Cc2.out _ N1 _ ?_ ?_).mono ?_); (refine hT.behind ?_; repeat (first | with_reducible assumption | with_reducible exact Below.refl _ _ | with_reducible refine Below.drew ?_ | with_reducible refine below_drewN ?_ _ | with_reducible refine bw_alloc ?_ _ | (with_reducible refine bw_set ?_ ?_ _; focus (dsimp only; omega)) | (with_reducible apply bw_behind; with_reducible assumption))); (focus (repeat (first | with_reducible assumption | with_reducible refine mw_dr _ ?_ | with_reducible refine mw_d1 ?_ | with_reducible refine mw_al _ ?_ | (with_reducible apply mw_be; with_reducible assumption)))))); rintro _ w2 ⟨rfl, hb2⟩; have hr2 := below_reads hb2; have hh2 := below_holds hb2; obtain ⟨m2, hs2⟩ := below_grew hb2) | (go_at_call 12; (with_reducible first | refine (Cc3.out _).mono ?_); rintro _ w4 ⟨rfl, hb4⟩; have hr4 := below_reads hb4; have hh4 := below_holds hb4; obtain ⟨m4, hs4⟩ := below_grew hb4))
  go_upto_region 10 with (first | (go_at_call 17; (with_reducible refine (Cm.out _ N1 _ ?_ ?_).mono ?_); (refine hT.behind ?_; repeat (first | with_reducible assumption | with_reducible exact Below.refl _ _ | with_reducible refine Below.drew ?_ | with_reducible refine below_drewN ?_ _ | with_reducible refine bw_alloc ?_ _ | (with_reducible refine bw_set ?_ ?_ _; focus (dsimp only; omega)) | (with_reducible apply bw_behind; with_reducible assumption))); (focus (repeat (first | with_reducible assumption | with_reducible refine mw_dr _ ?_ | with_reducible refine mw_d1 ?_ | with_reducible refine mw_al _ ?_ | (with_reducible apply mw_be; with_reducible assumption)))); rintro _ w5 ⟨rfl, hM5, ho5⟩))
  refine wp_abs (fun W => MemW W R1 N1 8 M2 ∧ Below w.heap.size w W ∧ W.cell? ⟨w.heap.size, 1, none⟩ = some (.int .i64 H) ∧ W.cell? ⟨fb, 0, none⟩ = some (.bool b0) ∧ W.cell? ⟨fb, 1, none⟩ = some (.bool b1) ∧ W.cell? ⟨fb, 2, none⟩ = some (.bool b2) ∧ W.cell? ⟨fb, 3, none⟩ = some (.bool b3) ∧ W.cell? ⟨fb, 4, none⟩ = some (.bool b4) ∧ W.cell? ⟨fb, 5, none⟩ = some (.bool b5) ∧ W.cell? ⟨fb, 6, none⟩ = some (.bool b6) ∧ W.cell? ⟨fb, 7, none⟩ = some (.bool b7) ∧ W.cell? ⟨fb, 8, none⟩ = some (.bool b8) ∧ W.cell? ⟨fb, 9, none⟩ = some (.bool b9) ∧ W.cell? ⟨fb, 10, none⟩ = some (.bool b10) ∧ W.cell? ⟨fb, 11, none⟩ = some (.bool b11) ∧ W.cell? ⟨fb, 12, none⟩ = some (.int .u64 F) ∧ W.cell? ⟨fb, 13, none⟩ = some (.int .u64 A) ∧ W.cell? ⟨w5.heap.size, 0, none⟩ = some (.bool b0) ∧ W.cell? ⟨w5.heap.size, 1, none⟩ = some (.bool b1) ∧ W.cell? ⟨w5.heap.size, 2, none⟩ = some (.bool b2) ∧ W.cell? ⟨w5.heap.size, 3, none⟩ = some (.bool b3) ∧ W.cell? ⟨w5.heap.size, 4, none⟩ = some (.bool b4) ∧ W.cell? ⟨w5.heap.size, 5, none⟩ = some (.bool b5) ∧ W.cell? ⟨w5.heap.size, 6, none⟩ = some (.bool true) ∧ W.cell? ⟨w5.heap.size, 7, none⟩ = some (.bool D) ∧ W.cell? ⟨w5.heap.size, 8, none⟩ = some (.bool b8) ∧ W.cell? ⟨w5.heap.size, 9, none⟩ = some (.bool b9) ∧ W.cell? ⟨w5.heap.size, 10, none⟩ = some (.bool X) ∧ W.cell? ⟨w5.heap.size, 11, none⟩ = some (.bool b11) ∧ W.cell? ⟨w5.heap.size, 12, none⟩ = some (.int .u64 F) ∧ W.cell? ⟨w5.heap.size, 13, none⟩ = some (.int .u64 A)) ?_ ?_
  · refine ⟨?_, ?_, ?_, ?_, ?_, ?_, ?_, ?_, ?_, ?_, ?_, ?_, ?_, ?_, ?_, ?_, ?_, ?_, ?_, ?_, ?_, ?_, ?_, ?_, ?_, ?_, ?_, ?_, ?_, ?_, ?_⟩
    · repeat (first | with_reducible assumption | with_reducible refine mw_dr _ ?_ | with_reducible refine mw_d1 ?_ | with_reducible refine mw_al _ ?_ | (with_reducible apply mw_be; with_reducible assumption))
    · have hf : Below w.heap.size w w4 := by
        repeat (first | with_reducible assumption | with_reducible exact Below.refl _ _ | with_reducible refine Below.drew ?_ | with_reducible refine below_drewN ?_ _ | with_reducible refine bw_alloc ?_ _ | (with_reducible refine bw_set ?_ ?_ _; focus (dsimp only; omega)) | (with_reducible apply bw_behind; with_reducible assumption))
      have hg : Below w.heap.size w w5 := hf.trans (ho5.below (by omega) hf.size)
      clear hf
      repeat (first | with_reducible assumption | with_reducible exact Below.refl _ _ | with_reducible refine Below.drew ?_ | with_reducible refine below_drewN ?_ _ | with_reducible refine bw_alloc ?_ _ | (with_reducible refine bw_set ?_ ?_ _; focus (dsimp only; omega)) | (with_reducible apply bw_behind; with_reducible assumption))
    all_goals first | ((repeat (first | with_reducible assumption | with_reducible refine c_dr _ ?_ | with_reducible refine c_d1 ?_ | with_reducible refine c_al _ ?_ | (with_reducible refine c_set ?_ ?_; focus (dsimp only; omega)) | (with_reducible apply c_be; with_reducible assumption) | (with_reducible refine Out.reads (by with_reducible assumption) ?_ ?_; (focus (dsimp only; omega))))); done) | (first | with_reducible assumption | ((repeat (first | with_reducible assumption | with_reducible refine c_dr _ ?_ | with_reducible refine c_d1 ?_ | with_reducible refine c_al _ ?_ | (with_reducible refine c_set ?_ ?_; focus (dsimp only; omega)) | (with_reducible apply c_be; with_reducible assumption))); done) | ((repeat (first | with_reducible assumption | with_reducible refine o_dr _ ?_ | with_reducible refine o_d1 ?_ | with_reducible refine o_set ?_ | (with_reducible refine o_new ?_ ?_; (focus (simp)); (focus (simp))) | with_reducible refine o_al _ ?_ | (with_reducible apply o_be; with_reducible assumption))); done) | ((repeat (first | with_reducible assumption | with_reducible exact Below.refl _ _ | with_reducible refine Below.drew ?_ | with_reducible refine below_drewN ?_ _ | with_reducible refine bw_alloc ?_ _ | (with_reducible refine bw_set ?_ ?_ _; focus (dsimp only; omega)) | (with_reducible apply bw_behind; with_reducible assumption))); done) | (simp [go_sem, *]; omega) | (simp (maxDischargeDepth := 4) [go_sem, *]; done))
  clear qh qf
  rintro wj ⟨hMj, hBj, j0, f0, f1, f2, f3, f4, f5, f6, f7, f8, f9, f10, f11, f12, f13, g_0, g_1, g_2, g_3, g_4, g_5, g_6, g_7, g_8, g_9, g_10, g_11, g_12, g_13⟩
  clear hb4 hr4 hh4 hs4 hM5 ho5
  have qh : ltB w.heap.size wj.heap.size = true := decide_eq_true (World.block_lt_of_cell? wj _ j0)
  have qf : ltB fb wj.heap.size = true := decide_eq_true (World.block_lt_of_cell? wj _ f0)
  have qg : ltB w5.heap.size wj.heap.size = true := decide_eq_true (World.block_lt_of_cell? wj _ g_0)
  generalize w5.heap.size = gb at *
  clear w5 w4
  go_upto_region 11 with (first | (go_at_call 9; (first | ((with_reducible refine (Cc4.out _ N1 _ ?_ ?_).mono ?_); (refine hT.behind ?_; repeat (first | with_reducible assumption | with_reducible exact Below.refl _ _ | with_reducible refine Below.drew ?_ | with_reducible refine below_drewN ?_ _ | with_reducible refine bw_alloc ?_ _ | (with_reducible refine bw_set ?_ ?_ _; focus (dsimp only; omega)) | (with_reducible apply bw_behind; with_reducible assumption))); (focus (repeat (first | with_reducible assumption | with_reducible refine mw_dr _ ?_ | with_reducible refine mw_d1 ?_ | with_reducible refine mw_al _ ?_ | (with_reducible apply mw_be; with_reducible assumption)))))); rintro _ w6 ⟨rfl, hb6⟩; have hr6 := below_reads hb6; have hh6 := below_holds hb6; obtain ⟨m6, hs6⟩ := below_grew hb6))
  refine wp_abs (fun W => Tab W ∧ Below w.heap.size w W ∧ W.cell? ⟨w.heap.size, 1, none⟩ = some (.int .i64 H) ∧ W.cell? ⟨fb, 0, none⟩ = some (.bool b0) ∧ W.cell? ⟨fb, 1, none⟩ = some (.bool b1) ∧ W.cell? ⟨fb, 2, none⟩ = some (.bool b2) ∧ W.cell? ⟨fb, 3, none⟩ = some (.bool b3) ∧ W.cell? ⟨fb, 4, none⟩ = some (.bool b4) ∧ W.cell? ⟨fb, 5, none⟩ = some (.bool b5) ∧ W.cell? ⟨fb, 6, none⟩ = some (.bool b6) ∧ W.cell? ⟨fb, 7, none⟩ = some (.bool b7) ∧ W.cell? ⟨fb, 8, none⟩ = some (.bool b8) ∧ W.cell? ⟨fb, 9, none⟩ = some (.bool b9) ∧ W.cell? ⟨fb, 10, none⟩ = some (.bool b10) ∧ W.cell? ⟨fb, 11, none⟩ = some (.bool b11) ∧ W.cell? ⟨fb, 12, none⟩ = some (.int .u64 F) ∧ W.cell? ⟨fb, 13, none⟩ = some (.int .u64 A) ∧ W.cell? ⟨gb, 0, none⟩ = some (.bool b0) ∧ W.cell? ⟨gb, 1, none⟩ = some (.bool b1) ∧ W.cell? ⟨gb, 2, none⟩ = some (.bool b2) ∧ W.cell? ⟨gb, 3, none⟩ = some (.bool b3) ∧ W.cell? ⟨gb, 4, none⟩ = some (.bool b4) ∧ W.cell? ⟨gb, 5, none⟩ = some (.bool b5) ∧ W.cell? ⟨gb, 6, none⟩ = some (.bool true) ∧ W.cell? ⟨gb, 7, none⟩ = some (.bool D) ∧ W.cell? ⟨gb, 8, none⟩ = some (.bool b8) ∧ W.cell? ⟨gb, 9, none⟩ = some (.bool b9) ∧ W.cell? ⟨gb, 10, none⟩ = some (.bool X) ∧ W.cell? ⟨gb, 11, none⟩ = some (.bool b11) ∧ W.cell? ⟨gb, 12, none⟩ = some (.int .u64 F) ∧ W.cell? ⟨gb, 13, none⟩ = some (.int .u64 A) ∧ W.cell? ⟨wj.heap.size + m6, 0, none⟩ = some (.bool b0) ∧ W.cell? ⟨wj.heap.size + m6, 1, none⟩ = some (.bool b1) ∧ W.cell? ⟨wj.heap.size + m6, 2, none⟩ = some (.bool b2) ∧ W.cell? ⟨wj.heap.size + m6, 3, none⟩ = some (.bool b3) ∧ W.cell? ⟨wj.heap.size + m6, 4, none⟩ = some (.bool b4) ∧ W.cell? ⟨wj.heap.size + m6, 5, none⟩ = some (.bool b5) ∧ W.cell? ⟨wj.heap.size + m6, 6, none⟩ = some (.bool true) ∧ W.cell? ⟨wj.heap.size + m6, 7, none⟩ = some (.bool D) ∧ W.cell? ⟨wj.heap.size + m6, 8, none⟩ = some (.bool b8) ∧ W.cell? ⟨wj.heap.size + m6, 9, none⟩ = some (.bool b9) ∧ W.cell? ⟨wj.heap.size + m6, 10, none⟩ = some (.bool X) ∧ W.cell? ⟨wj.heap.size + m6, 11, none⟩ = some (.bool b11) ∧ W.cell? ⟨wj.heap.size + m6, 12, none⟩ = some (.int .u64 F) ∧ W.cell? ⟨wj.heap.size + m6, 13, none⟩ = some (.int .u64 A)) ?_ ?_
  · refine ⟨?_, ?_, ?_, ?_, ?_, ?_, ?_, ?_, ?_, ?_, ?_, ?_, ?_, ?_, ?_, ?_, ?_, ?_, ?_, ?_, ?_, ?_, ?_, ?_, ?_, ?_, ?_, ?_, ?_, ?_, ?_, ?_, ?_, ?_, ?_, ?_, ?_, ?_, ?_, ?_, ?_, ?_, ?_, ?_, ?_⟩
    all_goals (first | with_reducible assumption | ((repeat (first | with_reducible assumption | with_reducible refine c_dr _ ?_ | with_reducible refine c_d1 ?_ | with_reducible refine c_al _ ?_ | (with_reducible refine c_set ?_ ?_; focus (dsimp only; omega)) | (with_reducible apply c_be; with_reducible assumption))); done) | ((repeat (first | with_reducible assumption | with_reducible refine o_dr _ ?_ | with_reducible refine o_d1 ?_ | with_reducible refine o_set ?_ | (with_reducible refine o_new ?_ ?_; (focus (simp)); (focus (simp))) | with_reducible refine o_al _ ?_ | (with_reducible apply o_be; with_reducible assumption))); done) | ((repeat (first | with_reducible assumption | with_reducible exact Below.refl _ _ | with_reducible refine Below.drew ?_ | with_reducible refine below_drewN ?_ _ | with_reducible refine bw_alloc ?_ _ | (with_reducible refine bw_set ?_ ?_ _; focus (dsimp only; omega)) | (with_reducible apply bw_behind; with_reducible assumption))); done) | (refine hT.behind ?_; (repeat (first | with_reducible assumption | with_reducible exact Below.refl _ _ | with_reducible refine Below.drew ?_ | with_reducible refine below_drewN ?_ _ | with_reducible refine bw_alloc ?_ _ | (with_reducible refine bw_set ?_ ?_ _; focus (dsimp only; omega)) | (with_reducible apply bw_behind; with_reducible assumption))); done) | (simp [go_sem, *]; omega) | (simp (maxDischargeDepth := 4) [go_sem, *]; done))
  rintro w0z ⟨hT0z, hB0z, cz0, cz1, cz2, cz3, cz4, cz5, cz6, cz7, cz8, cz9, cz10, cz11, cz12, cz13, cz14, cz15, cz16, cz17, cz18, cz19, cz20, cz21, cz22, cz23, cz24, cz25, cz26, cz27, cz28, cz29, cz30, cz31, cz32, cz33, cz34, cz35, cz36, cz37, cz38, cz39, cz40, cz41, cz42⟩
  have yz0 := behind_cell0 cz0
  have yz1 := behind_cell0 cz1
  have yz2 := behind_cell0 cz2
  have yz3 := behind_cell0 cz3
  have yz4 := behind_cell0 cz4
  have yz5 := behind_cell0 cz5
  have yz6 := behind_cell0 cz6
  have yz7 := behind_cell0 cz7
  have yz8 := behind_cell0 cz8
  have yz9 := behind_cell0 cz9
  have yz10 := behind_cell0 cz10
  have yz11 := behind_cell0 cz11
  have yz12 := behind_cell0 cz12
  have yz13 := behind_cell0 cz13
  have yz14 := behind_cell0 cz14
  have yz15 := behind_cell0 cz15
  have yz16 := behind_cell0 cz16
  have yz17 := behind_cell0 cz17
  have yz18 := behind_cell0 cz18
  have yz19 := behind_cell0 cz19
  have yz20 := behind_cell0 cz20
  have yz21 := behind_cell0 cz21
  have yz22 := behind_cell0 cz22
  have yz23 := behind_cell0 cz23
  have yz24 := behind_cell0 cz24
  have yz25 := behind_cell0 cz25
  have yz26 := behind_cell0 cz26
  have yz27 := behind_cell0 cz27
  have yz28 := behind_cell0 cz28
  have yz29 := behind_cell0 cz29
  have yz30 := behind_cell0 cz30
  have yz31 := behind_cell0 cz31
  have yz32 := behind_cell0 cz32
  have yz33 := behind_cell0 cz33
  have yz34 := behind_cell0 cz34
  have yz35 := behind_cell0 cz35
  have yz36 := behind_cell0 cz36
  have yz37 := behind_cell0 cz37
  have yz38 := behind_cell0 cz38
  have yz39 := behind_cell0 cz39
  have yz40 := behind_cell0 cz40
  have yz41 := behind_cell0 cz41
  have yz42 := behind_cell0 cz42
  have hsome := Behind.any w0z
  clear cz0 cz1 cz2 cz3 cz4 cz5 cz6 cz7 cz8 cz9 cz10 cz11 cz12 cz13 cz14 cz15 cz16 cz17 cz18 cz19 cz20 cz21 cz22 cz23 cz24 cz25 cz26 cz27 cz28 cz29 cz30 cz31 cz32 cz33 cz34 cz35 cz36 cz37 cz38 cz39 cz40 cz41 cz42
  refine wp_region_behind w0z (by kernel_rfl) (by kernel_rfl) (Below.refl _ _) ?_
  repeat (go_big_quiet_step (first | (go_at_call 14; with_reducible first | exact behind_call Cc5.out hT0z _ | exact behind_call Cc6.out hT0z _)))
  refine wpQuiet_nil ?_
  rintro _ ⟨y, rfl⟩
  have hTy := hT0z.behind y.below
  have hBy := bw_behind y.below hB0z
  have xz0 := yz0 y
  have xz1 := yz1 y
  have xz2 := yz2 y
  have xz3 := yz3 y
  have xz4 := yz4 y
  have xz5 := yz5 y
  have xz6 := yz6 y
  have xz7 := yz7 y
  have xz8 := yz8 y
  have xz9 := yz9 y
  have xz10 := yz10 y
  have xz11 := yz11 y
  have xz12 := yz12 y
  have xz13 := yz13 y
  have xz14 := yz14 y
  have xz15 := yz15 y
  have xz16 := yz16 y
  have xz17 := yz17 y
  have xz18 := yz18 y
  have xz19 := yz19 y
  have xz20 := yz20 y
  have xz21 := yz21 y
  have xz22 := yz22 y
  have xz23 := yz23 y
  have xz24 := yz24 y
  have xz25 := yz25 y
  have xz26 := yz26 y
  have xz27 := yz27 y
  have xz28 := yz28 y
  have xz29 := yz29 y
  have xz30 := yz30 y
  have xz31 := yz31 y
  have xz32 := yz32 y
  have xz33 := yz33 y
  have xz34 := yz34 y
  have xz35 := yz35 y
  have xz36 := yz36 y
  have xz37 := yz37 y
  have xz38 := yz38 y
  have xz39 := yz39 y
  have xz40 := yz40 y
  have xz41 := yz41 y
  have xz42 := yz42 y
  clear hsome yz0 yz1 yz2 yz3 yz4 yz5 yz6 yz7 yz8 yz9 yz10 yz11 yz12 yz13 yz14 yz15 yz16 yz17 yz18 yz19 yz20 yz21 yz22 yz23 yz24 yz25 yz26 yz27 yz28 yz29 yz30 yz31 yz32 yz33 yz34 yz35 yz36 yz37 yz38 yz39 yz40 yz41 yz42
  obtain ⟨w1z, hw1⟩ : ∃ W, W = y.world := ⟨_, rfl⟩
  rw [← hw1] at hTy hBy xz0 xz1 xz2 xz3 xz4 xz5 xz6 xz7 xz8 xz9 xz10 xz11 xz12 xz13 xz14 xz15 xz16 xz17 xz18 xz19 xz20 xz21 xz22 xz23 xz24 xz25 xz26 xz27 xz28 xz29 xz30 xz31 xz32 xz33 xz34 xz35 xz36 xz37 xz38 xz39 xz40 xz41 xz42 ⊢
  clear hw1 y hT0z hB0z
  have qh2 : ltB w.heap.size w1z.heap.size = true := decide_eq_true (World.block_lt_of_cell? w1z _ xz0)
  have qf2 : ltB fb w1z.heap.size = true := decide_eq_true (World.block_lt_of_cell? w1z _ xz1)
  have qg2 : ltB gb w1z.heap.size = true := decide_eq_true (World.block_lt_of_cell? w1z _ xz15)
  go_upto_region 14 with fail
  go_region
  go_wp2_with (first | (go_at_call 12; (with_reducible first | refine (Cc7.out _).mono ?_); rintro _ w7 ⟨rfl, hb7⟩; have hr7 := below_reads hb7; have hh7 := below_holds hb7; obtain ⟨m7, hs7⟩ := below_grew hb7) | (go_at_call 18; (first | ((with_reducible refine (Cc8.out _ ?_).mono ?_); (refine hT.behind ?_; repeat (first | with_reducible assumption | with_reducible exact Below.refl _ _ | with_reducible refine Below.drew ?_ | with_reducible refine below_drewN ?_ _ | with_reducible refine bw_alloc ?_ _ | (with_reducible refine bw_set ?_ ?_ _; focus (dsimp only; omega)) | (with_reducible apply bw_behind; with_reducible assumption))))); rintro _ w8 ⟨rfl, hb8⟩; have hr8 := below_reads hb8; have hh8 := below_holds hb8; obtain ⟨m8, hs8⟩ := below_grew hb8) | (go_at_call 11; (with_reducible refine (Co.out _ ?_).mono ?_); (refine hT.behind ?_; repeat (first | with_reducible assumption | with_reducible exact Below.refl _ _ | with_reducible refine Below.drew ?_ | with_reducible refine below_drewN ?_ _ | with_reducible refine bw_alloc ?_ _ | (with_reducible refine bw_set ?_ ?_ _; focus (dsimp only; omega)) | (with_reducible apply bw_behind; with_reducible assumption))); rintro _ w9 ⟨rfl, hb9⟩; have hr9 := below_reads hb9; have hh9 := below_holds hb9; obtain ⟨m9, hs9⟩ := below_grew hb9))
  go_ret
  refine ⟨rfl, ?_⟩
  repeat (first | with_reducible assumption | with_reducible exact Below.refl _ _ | with_reducible refine Below.drew ?_ | with_reducible refine below_drewN ?_ _ | with_reducible refine bw_alloc ?_ _ | (with_reducible refine bw_set ?_ ?_ _; focus (dsimp only; omega)) | (with_reducible apply bw_behind; with_reducible assumption))

theorem markD_twice (b : Bool) (k : Int) : markD (markD b k) k = markD b k := by
  unfold markD
  cases b <;> cases (k == 2) <;> cases (k == 4) <;> rfl
theorem markC_twice (b : Bool) (k : Int) (t : Bool) : markC (markC b k t) k t = markC b k t := by
  unfold markC
  cases b <;> cases (k == 4) <;> cases t <;> rfl
/-- The walk behind a mark. -/
theorem walk_marked (b0 b1 b2 b3 b4 b5 b6 b7 b8 b9 b10 b11 t1 : Bool) (F : BitVec 64) (k : Int) (M : Nat → Nat → BitVec 64) (p i v a : Nat) (x : BitVec 64) (hw : walkM M 8 0 v = some (x, a)) (hV : goodQ (markW b0 b1 b2 b3 b4 b5 b6 b7 b8 b9 b10 b11 k t1 F) true 8 = true → walkM (putM M p i (markW b0 b1 b2 b3 b4 b5 b6 b7 b8 b9 b10 b11 k t1 F)) 8 0 v = some (markW b0 b1 b2 b3 b4 b5 b6 b7 b8 b9 b10 b11 k t1 F, a)) (hg : goodQ x true 8 = true)
    (hF : getB x 10 44 = F) (h0 : (x.getLsbD 0) = b0) (h1 : (x.getLsbD 1) = b1) (h2 : (x.getLsbD 2) = b2) (h3 : (x.getLsbD 3) = b3) (h4 : (x.getLsbD 4) = b4) (h5 : (x.getLsbD 5) = b5) (h6 : (x.getLsbD 6) = b6) (h7 : (x.getLsbD 7) = b7) (h8 : (x.getLsbD 58) = b8) (h9 : (x.getLsbD 59) = b9) (h10 : (x.getLsbD 60) = b10) (h11 : (x.getLsbD 61) = b11) : walkV (walkM (if sameQ b6 b7 b10 k t1 = true then M else putM M p i (markW b0 b1 b2 b3 b4 b5 b6 b7 b8 b9 b10 b11 k t1 F)) 8 0 v) = .tuple #[.agg #[.bool b0, .bool b1, .bool b2, .bool b3, .bool b4, .bool b5, .bool true, .bool (markD b7 k), .bool b8, .bool b9, .bool (markC b10 k t1), .bool b11, .int .u64 (F.toNat : Int), .int .u64 (a : Int)], .int .i64 0] := by
  have hFF : F &&& maskB 44 = F := by rw [← hF]; exact frame_small x
  cases hs : sameQ b6 b7 b10 k t1 with
  | true =>
    rw [if_pos rfl, hw]
    unfold sameQ at hs
    simp only [Bool.and_eq_true, beq_iff_eq] at hs
    obtain ⟨⟨s6, s7⟩, s10⟩ := hs
    simp only [walkV, hF, h0, h1, h2, h3, h4, h5, h6, h7, h8, h9, h10, h11, s6, s7, s10]
  | false =>
    obtain ⟨w0, w1, w2, w3, w4, w5, w6, w7, w8, w9, w10, w11⟩ := word_bits b0 b1 b2 b3 b4 b5 true (markD b7 k) b8 b9 (markC b10 k t1) b11 F
    have wf : getB (markW b0 b1 b2 b3 b4 b5 b6 b7 b8 b9 b10 b11 k t1 F) 10 44 = F := (word_frame _ F).trans hFF
    have hgV : goodQ (markW b0 b1 b2 b3 b4 b5 b6 b7 b8 b9 b10 b11 k t1 F) true 8 = true := by
      unfold goodQ at hg ⊢
      rw [hF, h0, h1, h2, h3, h4, h5, h6, h7, h8, h9, h10, h11] at hg
      simp only [Bool.and_eq_true] at hg
      obtain ⟨⟨⟨g0, gr⟩, gl⟩, gf⟩ := hg
      have hL : (b0 && (b1 || b2 || b3)) = true := by simpa using gl
      rw [wf]
      unfold markW
      rw [w0, w1, w2, w3, w4, w5, w6, w7, w8, w9, w10, w11]
      rw [right_marks b0 b1 b2 b3 b4 b5 b6 b7 b8 b9 b10 b11 true (markD b7 k) (markC b10 k t1) _ hL, gr, hL, g0, gf]
      rfl
    rw [if_neg (by simp), hV hgV]
    simp only [walkV, wf]
    unfold markW
    rw [w0, w1, w2, w3, w4, w5, w6, w7, w8, w9, w10, w11]
theorem walk (sl : Value) (v : BitVec 64) (k H : Int) (w : World) (hT : Tab w) (hl : ∃ l, IsLays w l sl) : Calls Tryd.prog 5 #[sl, .int .u64 (v.toNat : Int), .agg #[.int .i64 k, .int .i64 H]] w (Makes (.bool true) w) := by
  obtain ⟨l, hl⟩ := hl
  obtain ⟨t1, ht1⟩ : ∃ t1, (bits .and .i64 H 1 == 1) = t1 := ⟨_, rfl⟩
  obtain ⟨t2, ht2⟩ : ∃ t2, (bits .and .i64 H 2 == 2) = t2 := ⟨_, rfl⟩
  have c1 : ∀ W, Below w.heap.size w W → Calls Tryd.prog 8 #[sl] W (fun e W' => ∃ R N sa na ca sb nb cb, e = .returned (.tuple #[.pointer (some ⟨R, 0, none⟩), .agg #[.int .i64 8, .slice sa na ca, .slice sb nb cb, .slice none 0 0]]) ∧ MemW W' R N 8 (laidM (l.take 60)) ∧ Below W.heap.size W W' ∧ W.heap.size ≤ R ∧ W.heap.size ≤ N) := fun W hb => (laid_arg hl hT W hb).mono (by
    rintro e W' ⟨R, N, sa, na, ca, sb, nb, cb, rfl, h1, _, _, h4, h5, h6⟩
    exact ⟨R, N, sa, na, ca, sb, nb, cb, rfl, h1, h4, h5, h6⟩)
  have c2 := fun R N W h1 h2 => walk_any R N 8 (by omega) (laidM (l.take 60)) 0#64 v W h1 h2
  rw [show (0#64).toNat = 0 from rfl] at c2
  have co := fun W h => one_any W h
  generalize laidM (l.take 60) = M at *
  cases hw : walkM M 8 0 v.toNat with
  | none =>
    rw [hw] at c2
    exact way_none t1 _ k H _ sl M w hT c1 c2 co rfl ht1
  | some y =>
    obtain ⟨x, a⟩ := y
    obtain ⟨F, hF⟩ : ∃ F, getB x 10 44 = F := ⟨_, rfl⟩
    obtain ⟨b0, h0⟩ : ∃ b, (x.getLsbD 0) = b := ⟨_, rfl⟩
    obtain ⟨b1, h1⟩ : ∃ b, (x.getLsbD 1) = b := ⟨_, rfl⟩
    obtain ⟨b2, h2⟩ : ∃ b, (x.getLsbD 2) = b := ⟨_, rfl⟩
    obtain ⟨b3, h3⟩ : ∃ b, (x.getLsbD 3) = b := ⟨_, rfl⟩
    obtain ⟨b4, h4⟩ : ∃ b, (x.getLsbD 4) = b := ⟨_, rfl⟩
    obtain ⟨b5, h5⟩ : ∃ b, (x.getLsbD 5) = b := ⟨_, rfl⟩
    obtain ⟨b6, h6⟩ : ∃ b, (x.getLsbD 6) = b := ⟨_, rfl⟩
    obtain ⟨b7, h7⟩ : ∃ b, (x.getLsbD 7) = b := ⟨_, rfl⟩
    obtain ⟨b8, h8⟩ : ∃ b, (x.getLsbD 58) = b := ⟨_, rfl⟩
    obtain ⟨b9, h9⟩ : ∃ b, (x.getLsbD 59) = b := ⟨_, rfl⟩
    obtain ⟨b10, h10⟩ : ∃ b, (x.getLsbD 60) = b := ⟨_, rfl⟩
    obtain ⟨b11, h11⟩ : ∃ b, (x.getLsbD 61) = b := ⟨_, rfl⟩
    obtain ⟨p, i, hp, hi, ha, hx, hg, hV⟩ := walk_put M 8 0 v.toNat (markW b0 b1 b2 b3 b4 b5 b6 b7 b8 b9 b10 b11 k t1 F) x a hw
    have hwm := walk_marked b0 b1 b2 b3 b4 b5 b6 b7 b8 b9 b10 b11 t1 F k M p i v.toNat a x hw hV hg hF h0 h1 h2 h3 h4 h5 h6 h7 h8 h9 h10 h11
    rw [hw] at c2
    simp only [walkV, hF, h0, h1, h2, h3, h4, h5, h6, h7, h8, h9, h10, h11] at c2
    unfold goodQ at hg
    rw [hF, h0, h1, h2, h3, h4, h5, h6, h7, h8, h9, h10, h11] at hg
    simp only [Bool.and_eq_true] at hg
    obtain ⟨⟨⟨g0, gr⟩, gl⟩, gf⟩ := hg
    have hL : (b0 && (b1 || b2 || b3)) = true := by simpa using gl
    have c3 := fun W => check_any b0 b1 b2 b3 b4 b5 b6 b7 b8 b9 b10 b11 t1 t2 F k W
    by_cases hQ : checkQ (b0 && (b1 || b2 || b3)) b4 (allowQ k b1 b2 b3) b8 b9 b11 k t1 t2 = 0
    · rw [hQ] at c3
      have c7 := fun W => check_any b0 b1 b2 b3 b4 b5 true (markD b7 k) b8 b9 (markC b10 k t1) b11 t1 t2 F k W
      rw [hQ] at c7
      have c6 := fun W (_ : Tab W) => marked_any b0 b1 b2 b3 b4 b5 true (markD b7 k) b8 b9 (markC b10 k t1) b11 t1 (F.toNat : Int) k W
      rw [markD_twice, markC_twice] at c6
      have c8 := fun W h => right_any b0 b1 b2 b3 b4 b5 true (markD b7 k) b8 b9 (markC b10 k t1) b11 F W h
      rw [right_marks b0 b1 b2 b3 b4 b5 b6 b7 b8 b9 b10 b11 true (markD b7 k) (markC b10 k t1) _ hL, gr] at c8
      have c4 := fun R N W h1 h2 => walk_any R N 8 (by omega) (if sameQ b6 b7 b10 k t1 = true then M else putM M p i (markW b0 b1 b2 b3 b4 b5 b6 b7 b8 b9 b10 b11 k t1 F)) 0#64 v W h1 h2
      rw [show (0#64).toNat = 0 from rfl, hwm] at c4
      have cm := fun R N W h1 h2 => mark_any hp hi (by omega : 8 ≤ 64) b0 b1 b2 b3 b4 b5 b6 b7 b8 b9 b10 b11 t1 F k R N M W h1 h2
      rw [← ha] at cm
      exact way_all b0 b1 b2 b3 b4 b5 b6 b7 b8 b9 b10 b11 _ _ t1 t2 _ _ _ k H _ _ (p * 4100) sl M _ w hT c1 c2 c3 cm c4 (fun W _ => marked_any b0 b1 b2 b3 b4 b5 b6 b7 b8 b9 b10 b11 t1 _ k W) c6 c7 c8 co rfl rfl ht1 ht2
    · exact way_not b0 b1 b2 b3 b4 b5 b6 b7 b8 b9 b10 b11 t1 t2 _ _ _ k H _ _ _ sl M w hT c1 c2 c3 co (by simpa using hQ) rfl rfl ht1 ht2

open Go.ChangeShapes Go.WideShapes Go.ChangeAt
set_option maxRecDepth 100000 in
theorem walks : Frame.WalksLaid [("mintmark/pte.places", Rows.laid_mintmark_pte_places)] 5 Tryd.f5 := by
  intro H enc W base args ds ps hL hval hA
  rw [Tryd.params5] at hA hval
  obtain ⟨v0, v1, v2, d0, d1, d2, p0, p1, p2, hargs, rfl, rfl, h0, h1, h2⟩ := trodAll_three hA
  obtain rfl : args = #[v0, v1, v2] := by cases args; simp_all
  have e0 := open_lays (hval 0 22 v0 rfl rfl) h0
  obtain ⟨x1, rfl, rfl, rfl, w1⟩ := open_int Tryd.underlying23 (hval 1 23 v1 rfl rfl) h1
  obtain ⟨zs2, rfl, hl2, hz2⟩ := Frame.open_arr Tryd.underlying49 Tryd.underlying3 (by kernel_rfl) (by kernel_rfl) (hval 2 49 v2 rfl rfl) h2
  obtain ⟨z2_0, z2_1, rfl⟩ := Frame.arr2 hl2
  obtain ⟨X1, rfl⟩ := Frame.wf_u64 w1
  exact walk v0 X1 z2_0 z2_1 W (tab_of_laid hL) e0
set_option maxRecDepth 100000 in
theorem said : Rows.WalkMarksSaid :=
  OpenClaim.holds_of_wide 5 Tryd.f5 rfl rfl rfl rfl rfl rfl rfl ⟨rfl, rfl, rfl, rfl, rfl⟩ rfl rfl rfl rfl rfl (by kernel_rfl) Tryd.func5 (by kernel_rfl)
    (of_decide_eq_true (by kernel_rfl)) (by unfold Func.isWrapper; first | (rw [if_pos (by decide +kernel)]; kernel_rfl) | (rw [if_neg (by decide +kernel)]; exact ⟨rfl, rfl⟩))
    (fun os started H enc _ => Frame.liftLaid [("mintmark/pte.places", Rows.laid_mintmark_pte_places)] os started H enc _ _ Rows.walkMarksSpec 4 (by kernel_rfl) Tryd.func5 Tryd.underlying4 (by kernel_rfl) rfl (by kernel_rfl)
      (fun ds h => by match ds, h with | [_, _, _], _ => exact ⟨rfl, rfl, rfl⟩)
      (ChangeSpec.witness_shaped (enc := enc) (C := Tryd.checked) (os := os) (X := fun w _ => laidMetH Tryd.prog [("mintmark/pte.places", Rows.laid_mintmark_pte_places)] w) false (World.doorLaid Tryd.prog 400 os) #[.slice none 0 0, .int .u64 0, .agg #[.int .i64 0, .int .i64 0]] 8 rfl (World.shaped_of_RefB (by kernel_rfl) (by kernel_rfl)) (by kernel_rfl) (by kernel_rfl) (by kernel_rfl) (door_met os _)) walks)
set_option maxRecDepth 100000 in
theorem proved : Rows.WalkMarksCardSaid :=
  Claim7.holds_tied_plain_at .later [] [.data] true _ false said (fun _ h => by cases h) (by kernel_rfl) (fun _ h => by cases h) walkMarks_row_tie rfl ⟨rfl, rfl⟩ (by kernel_rfl) rfl
    (fun f fn hf hfn => by
      obtain rfl : f = 5 := Option.some.inj ((show Tryd.prog.funcNamed "mintmark/mintmarklaw10.WalkMarks" = some 5 by kernel_rfl).symm.trans hf) |>.symm
      obtain rfl : fn = Tryd.f5 := (Option.some.inj (Tryd.func5.symm.trans hfn)).symm
      exact ⟨by kernel_rfl, fun j t ht => by
        rw [Tryd.params5] at ht
        have hm : t ∈ [22, 23, 49] := by have := Array.mem_of_getElem? ht; simp at this; simp; first | omega | grind
        have hall : ([22, 23, 49].all fun u => !Tryd.prog.wantsStandIn u) = true := by kernel_rfl
        exact (show Tryd.prog.wantsStandIn t = false by simpa using List.all_eq_true.1 hall t hm)⟩)
    (by kernel_rfl)
end Go.Proofs.YtnookalplejneaaDoor.WalkMarks
