/-
  WalkLeaves holds: for every at, other and e the law returns true and turns nothing that was there, where the table of places holds what the program's text lays.
-/
import Derived.Test.YtnookalplejneaaDoorWalkPlace
import Derived.Test.YtnookalplejneaaDoorWalkOne
import Derived.Test.YtnookalplejneaaDoorPteLaid
import Derived.Test.YtnookalplejneaaDoorPteEq
import Derived.Deep.QuietTactic
import Derived.BigQuiet
import Derived.Deep.DeepCutAuto
namespace Go.Proofs.YtnookalplejneaaDoor.WalkLeaves
open Go.RowKit Words FieldMath PteMath

set_option maxRecDepth 100000 in
set_option maxHeartbeats 16000000 in
theorem way_good (b0 b1 b2 b3 b4 b5 b6 b7 b8 b9 b10 b11 g0 g1 g2 g3 g4 g5 g6 g7 g8 g9 g10 g11 : Bool) (F A B G q VA VB VW I J K X Y Z A0 A1 A2 O0 O1 O2 : Int) (M M3 : Nat → Nat → BitVec 64) (cp : ∀ W, Calls Tryd.prog 23 #[.int .i64 I, .int .i64 J, .int .i64 K] W (Quiet (.int .u64 VA) W)) (cq : ∀ W, Calls Tryd.prog 23 #[.int .i64 X, .int .i64 Y, .int .i64 Z] W (Quiet (.int .u64 VB) W)) (c1 : ∀ b W, Tab W → Row W b (([⟨0, I, true, false, false, false, false, false, false, false, false, false, false, false, 1#64⟩, ⟨1, J, true, false, false, false, false, false, false, false, false, false, false, false, 2#64⟩, ⟨2, K, b0, b1, b2, b3, b4, b5, b6, b7, b8, b9, b10, b11, 7#64⟩] : List LayD).flatMap LayD.cells) → Calls Tryd.prog 8 #[.slice (some ⟨b, 0, none⟩) 3 3] W (fun e W' => ∃ R N sa na ca sb nb cb, e = .returned (.tuple #[.pointer (some ⟨R, 0, none⟩), .agg #[.int .i64 8, .slice sa na ca, .slice sb nb cb, .slice none 0 0]]) ∧ MemW W' R N 8 M ∧ Below W.heap.size W W' ∧ W.heap.size ≤ R ∧ W.heap.size ≤ N)) (c2 : ∀ R N W, Tab W → MemW W R N 8 M → Calls Tryd.prog 9 #[.pointer (some ⟨R, 0, none⟩), .int .u64 0, .int .u64 VA] W (Makes (.tuple #[.agg #[.bool b0, .bool b1, .bool b2, .bool b3, .bool b4, .bool b5, .bool b6, .bool b7, .bool b8, .bool b9, .bool b10, .bool b11, .int .u64 7, .int .u64 A], .int .i64 0]) W)) (c3 : ∀ R N W, Tab W → MemW W R N 8 M → Calls Tryd.prog 9 #[.pointer (some ⟨R, 0, none⟩), .int .u64 0, .int .u64 VB] W (Makes (.tuple #[.agg #[.bool g0, .bool g1, .bool g2, .bool g3, .bool g4, .bool g5, .bool g6, .bool g7, .bool g8, .bool g9, .bool g10, .bool g11, .int .u64 G, .int .u64 B], .int .i64 q]) W)) (c4 : ∀ W, Calls Tryd.prog 22 #[.agg #[.bool b0, .bool b1, .bool b2, .bool b3, .bool b4, .bool b5, .bool b6, .bool b7, .bool b8, .bool b9, .bool b10, .bool b11, .int .u64 7]] W (Makes (.bool true) W)) (c5 : ∀ W, Tab W → Calls Tryd.prog 18 #[.agg #[.bool b0, .bool b1, .bool b2, .bool b3, .bool b4, .bool b5, .bool b6, .bool b7, .bool b8, .bool b9, .bool b10, .bool b11, .int .u64 7]] W (Makes (.bool true) W)) (c6 : ∀ W, Tab W → Calls Tryd.prog 20 #[.agg #[.bool b0, .bool b1, .bool b2, .bool b3, .bool b4, .bool b5, .bool b6, .bool b7, .bool b8, .bool b9, .bool b10, .bool b11, .int .u64 7]] W (Makes (.int .u64 VW) W)) (c7 : ∀ W, Tab W → Calls Tryd.prog 21 #[.int .u64 VW] W (Makes (.agg #[.bool b0, .bool b1, .bool b2, .bool b3, .bool b4, .bool b5, .bool b6, .bool b7, .bool b8, .bool b9, .bool b10, .bool b11, .int .u64 7]) W)) (c8 : ∀ b W, Tab W → Row W b (([⟨0, I, b0, b1, b2, b3, b4, b5, b6, b7, b8, b9, b10, b11, 7#64⟩] : List LayD).flatMap LayD.cells) → Calls Tryd.prog 8 #[.slice (some ⟨b, 0, none⟩) 1 1] W (fun e W' => ∃ R N sa na ca sb nb cb, e = .returned (.tuple #[.pointer (some ⟨R, 0, none⟩), .agg #[.int .i64 8, .slice sa na ca, .slice sb nb cb, .slice none 0 0]]) ∧ MemW W' R N 8 M3 ∧ Below W.heap.size W W' ∧ W.heap.size ≤ R ∧ W.heap.size ≤ N)) (c9 : ∀ R N W, Tab W → MemW W R N 8 M3 → Calls Tryd.prog 9 #[.pointer (some ⟨R, 0, none⟩), .int .u64 0, .int .u64 VA] W (Makes (.tuple #[.agg #[.bool false, .bool false, .bool false, .bool false, .bool false, .bool false, .bool false, .bool false, .bool false, .bool false, .bool false, .bool false, .int .u64 0, .int .u64 0], .int .i64 1]) W)) (co : ∀ W, Tab W → Calls Tryd.prog 11 #[] W (Makes (.bool true) W)) (k0 : bits .and .i64 A0 255 = I) (k1 : bits .and .i64 A1 511 = J) (k2 : bits .and .i64 A2 511 = K) (k3 : bits .and .i64 O0 255 = X) (k4 : bits .and .i64 O1 511 = Y) (k5 : bits .and .i64 O2 511 = Z) (hd : (((X != I) = true ∨ ((X != I) = false ∧ (Y != J) = true) ∨ ((X != I) = false ∧ (Y != J) = false ∧ (Z != K) = true)) ∧ q = 1) ∨ ((X != I) = false ∧ (Y != J) = false ∧ (Z != K) = false)) (w : World) (hT : Tab w) : Calls Tryd.prog 7 #[.agg #[.int .i64 A0, .int .i64 A1, .int .i64 A2], .agg #[.int .i64 O0, .int .i64 O1, .int .i64 O2], .agg #[.bool b0, .bool b1, .bool b2, .bool b3, .bool b4, .bool b5, .bool b6, .bool b7, .bool b8, .bool b9, .bool b10, .bool b11, .int .u64 F]] w (Makes (.bool true) w) := by
  have Co := hide co
  have Ccp := hide cp
  have Ccq := hide cq
  have Cc1 := hide c1
  have Cc2 := hide c2
  have Cc3 := hide c3
  have Cc4 := hide c4
  have Cc5 := hide c5
  have Cc6 := hide c6
  have Cc7 := hide c7
  have Cc8 := hide c8
  have Cc9 := hide c9
  clear cp cq c1 c2 c3 c4 c5 c6 c7 c8 c9
  have SS := cell_same
  have LB' := ltB_add
  have LS := ltB_self
  have LA' := alloc_reads
  have LH := alloc_holds
  have HD := hide hd
  clear co hd
  have EIE : ∀ W, (Op.equalIn 10000 32 (.agg #[.bool b0, .bool b1, .bool b2, .bool b3, .bool b4, .bool b5, .bool b6, .bool b7, .bool b8, .bool b9, .bool b10, .bool b11, .int .u64 7]) (.agg #[.bool b0, .bool b1, .bool b2, .bool b3, .bool b4, .bool b5, .bool b6, .bool b7, .bool b8, .bool b9, .bool b10, .bool b11, .int .u64 7])).run Tryd.prog W = .ok true W := fun W => by rw [eqi_e, decide_eq_true rfl]
  have NEE : ∀ W, (binOp .neq 32 (.agg #[.bool b0, .bool b1, .bool b2, .bool b3, .bool b4, .bool b5, .bool b6, .bool b7, .bool b8, .bool b9, .bool b10, .bool b11, .int .u64 7]) (.agg #[.bool b0, .bool b1, .bool b2, .bool b3, .bool b4, .bool b5, .bool b6, .bool b7, .bool b8, .bool b9, .bool b10, .bool b11, .int .u64 7])).run Tryd.prog W = .ok (.bool false) W := fun W => by rw [ne_e, decide_eq_true rfl]; rfl
  go_enter Tryd.func7, Tryd.ntmps7
  go_upto_region 1 with fail
  go_quiet (fail)
  go_upto_region 3 with fail
  refine wp_abs (fun W => Below w.heap.size w W ∧ W.cell? ⟨w.heap.size + 1, 0, none⟩ = some (.int .i64 O0) ∧ W.cell? ⟨w.heap.size + 1, 1, none⟩ = some (.int .i64 O1) ∧ W.cell? ⟨w.heap.size + 1, 2, none⟩ = some (.int .i64 O2) ∧ W.cell? ⟨w.heap.size + 1 + 1, 0, none⟩ = some (.bool b0) ∧ W.cell? ⟨w.heap.size + 1 + 1, 1, none⟩ = some (.bool b1) ∧ W.cell? ⟨w.heap.size + 1 + 1, 2, none⟩ = some (.bool b2) ∧ W.cell? ⟨w.heap.size + 1 + 1, 3, none⟩ = some (.bool b3) ∧ W.cell? ⟨w.heap.size + 1 + 1, 4, none⟩ = some (.bool b4) ∧ W.cell? ⟨w.heap.size + 1 + 1, 5, none⟩ = some (.bool b5) ∧ W.cell? ⟨w.heap.size + 1 + 1, 6, none⟩ = some (.bool b6) ∧ W.cell? ⟨w.heap.size + 1 + 1, 7, none⟩ = some (.bool b7) ∧ W.cell? ⟨w.heap.size + 1 + 1, 8, none⟩ = some (.bool b8) ∧ W.cell? ⟨w.heap.size + 1 + 1, 9, none⟩ = some (.bool b9) ∧ W.cell? ⟨w.heap.size + 1 + 1, 10, none⟩ = some (.bool b10) ∧ W.cell? ⟨w.heap.size + 1 + 1, 11, none⟩ = some (.bool b11) ∧ W.cell? ⟨w.heap.size + 1 + 1, 12, none⟩ = some (.int .u64 7)) ?_ ?_
  · refine ⟨?_, ?_, ?_, ?_, ?_, ?_, ?_, ?_, ?_, ?_, ?_, ?_, ?_, ?_, ?_, ?_, ?_⟩
    · repeat (first | with_reducible assumption | with_reducible exact Below.refl _ _ | with_reducible refine Below.drew ?_ | with_reducible refine below_drewN ?_ _ | with_reducible refine bw_alloc ?_ _ | (with_reducible refine bw_set ?_ ?_ _; focus (dsimp only; omega)) | (with_reducible apply bw_behind; with_reducible assumption))
    all_goals (first | with_reducible assumption | ((repeat (first | with_reducible assumption | with_reducible refine c_dr _ ?_ | with_reducible refine c_d1 ?_ | with_reducible refine c_al _ ?_ | (with_reducible refine c_set ?_ ?_; focus (dsimp only; omega)) | (with_reducible apply c_be; with_reducible assumption))); done) | ((repeat (first | with_reducible assumption | with_reducible refine o_dr _ ?_ | with_reducible refine o_d1 ?_ | with_reducible refine o_set ?_ | (with_reducible refine o_new ?_ ?_; (focus (simp)); (focus (simp))) | with_reducible refine o_al _ ?_ | (with_reducible apply o_be; with_reducible assumption))); done) | ((repeat (first | with_reducible assumption | with_reducible exact Below.refl _ _ | with_reducible refine Below.drew ?_ | with_reducible refine below_drewN ?_ _ | with_reducible refine bw_alloc ?_ _ | (with_reducible refine bw_set ?_ ?_ _; focus (dsimp only; omega)) | (with_reducible apply bw_behind; with_reducible assumption))); done) | (simp [go_sem, *]; omega) | (simp (maxDischargeDepth := 4) [go_sem, *]; done))
  rintro wE ⟨hBE, e0, e1, e2, e3, e4, e5, e6, e7, e8, e9, e10, e11, e12, e13, e14, e15⟩
  have qo : ltB (w.heap.size + 1) wE.heap.size = true := decide_eq_true (World.block_lt_of_cell? wE _ e0)
  have qe : ltB (w.heap.size + 1 + 1) wE.heap.size = true := decide_eq_true (World.block_lt_of_cell? wE _ e3)
  generalize w.heap.size + 1 + 1 = eb at *
  generalize w.heap.size + 1 = ob at *
  go_upto_region 8 with (first | (go_at_call 8; (with_reducible refine (Cc1.out _ _ ?_ ?_).mono ?_); (refine hT.behind ?_; repeat (first | with_reducible assumption | with_reducible exact Below.refl _ _ | with_reducible refine Below.drew ?_ | with_reducible refine below_drewN ?_ _ | with_reducible refine bw_alloc ?_ _ | (with_reducible refine bw_set ?_ ?_ _; focus (dsimp only; omega)) | (with_reducible apply bw_behind; with_reducible assumption))); (focus (repeat (first | with_reducible assumption | with_reducible refine k_dr _ ?_ | with_reducible refine k_d1 ?_ | exact row_new (by simp) rfl | with_reducible refine k_al _ ?_ | (with_reducible apply k_be; with_reducible assumption)))); rintro _ w1 ⟨R1, N1, sa1, na1, ca1, sb1, nb1, cb1, rfl, hM1, hb1, hR1, hN1⟩; have hr1 := below_reads hb1; have hh1 := below_holds hb1; obtain ⟨m1, hs1⟩ := below_grew hb1) | (go_at_call 23; (with_reducible first | refine (Ccp.out _).mono ?_); rintro e w' ⟨rfl, n1, rfl⟩) | (go_at_call 9; (first | ((with_reducible refine (Cc2.out _ N1 _ ?_ ?_).mono ?_); (refine hT.behind ?_; repeat (first | with_reducible assumption | with_reducible exact Below.refl _ _ | with_reducible refine Below.drew ?_ | with_reducible refine below_drewN ?_ _ | with_reducible refine bw_alloc ?_ _ | (with_reducible refine bw_set ?_ ?_ _; focus (dsimp only; omega)) | (with_reducible apply bw_behind; with_reducible assumption))); (focus (repeat (first | with_reducible assumption | with_reducible refine mw_dr _ ?_ | with_reducible refine mw_d1 ?_ | with_reducible refine mw_al _ ?_ | (with_reducible apply mw_be; with_reducible assumption)))))); rintro _ w2 ⟨rfl, hb2⟩; have hr2 := below_reads hb2; have hh2 := below_holds hb2; obtain ⟨m2, hs2⟩ := below_grew hb2))
  go_quiet (fail)
  go_upto_region 11 with (first | (go_at_call 23; (with_reducible first | refine (Ccq.out _).mono ?_); rintro e w' ⟨rfl, n1, rfl⟩) | (go_at_call 9; (first | ((with_reducible refine (Cc3.out _ N1 _ ?_ ?_).mono ?_); (refine hT.behind ?_; repeat (first | with_reducible assumption | with_reducible exact Below.refl _ _ | with_reducible refine Below.drew ?_ | with_reducible refine below_drewN ?_ _ | with_reducible refine bw_alloc ?_ _ | (with_reducible refine bw_set ?_ ?_ _; focus (dsimp only; omega)) | (with_reducible apply bw_behind; with_reducible assumption))); (focus (repeat (first | with_reducible assumption | with_reducible refine mw_dr _ ?_ | with_reducible refine mw_d1 ?_ | with_reducible refine mw_al _ ?_ | (with_reducible apply mw_be; with_reducible assumption)))))); rintro _ w3 ⟨rfl, hb3⟩; have hr3 := below_reads hb3; have hh3 := below_holds hb3; obtain ⟨m3, hs3⟩ := below_grew hb3) | (go_at_call 22; (with_reducible first | refine (Cc4.out _).mono ?_); rintro _ w4 ⟨rfl, hb4⟩; have hr4 := below_reads hb4; have hh4 := below_holds hb4; obtain ⟨m4, hs4⟩ := below_grew hb4) | (go_at_call 18; (first | ((with_reducible refine (Cc5.out _ ?_).mono ?_); (refine hT.behind ?_; repeat (first | with_reducible assumption | with_reducible exact Below.refl _ _ | with_reducible refine Below.drew ?_ | with_reducible refine below_drewN ?_ _ | with_reducible refine bw_alloc ?_ _ | (with_reducible refine bw_set ?_ ?_ _; focus (dsimp only; omega)) | (with_reducible apply bw_behind; with_reducible assumption))))); rintro _ w5 ⟨rfl, hb5⟩; have hr5 := below_reads hb5; have hh5 := below_holds hb5; obtain ⟨m5, hs5⟩ := below_grew hb5))
  refine wp_abs (fun W => Below w.heap.size w W ∧ W.cell? ⟨eb, 0, none⟩ = some (.bool b0) ∧ W.cell? ⟨eb, 1, none⟩ = some (.bool b1) ∧ W.cell? ⟨eb, 2, none⟩ = some (.bool b2) ∧ W.cell? ⟨eb, 3, none⟩ = some (.bool b3) ∧ W.cell? ⟨eb, 4, none⟩ = some (.bool b4) ∧ W.cell? ⟨eb, 5, none⟩ = some (.bool b5) ∧ W.cell? ⟨eb, 6, none⟩ = some (.bool b6) ∧ W.cell? ⟨eb, 7, none⟩ = some (.bool b7) ∧ W.cell? ⟨eb, 8, none⟩ = some (.bool b8) ∧ W.cell? ⟨eb, 9, none⟩ = some (.bool b9) ∧ W.cell? ⟨eb, 10, none⟩ = some (.bool b10) ∧ W.cell? ⟨eb, 11, none⟩ = some (.bool b11) ∧ W.cell? ⟨eb, 12, none⟩ = some (.int .u64 7) ∧ W.cell? ⟨wE.heap.size + 1 + 1 + 1 + m1 + 1 + m2, 0, none⟩ = some (.bool b0) ∧ W.cell? ⟨wE.heap.size + 1 + 1 + 1 + m1 + 1 + m2, 1, none⟩ = some (.bool b1) ∧ W.cell? ⟨wE.heap.size + 1 + 1 + 1 + m1 + 1 + m2, 2, none⟩ = some (.bool b2) ∧ W.cell? ⟨wE.heap.size + 1 + 1 + 1 + m1 + 1 + m2, 3, none⟩ = some (.bool b3) ∧ W.cell? ⟨wE.heap.size + 1 + 1 + 1 + m1 + 1 + m2, 4, none⟩ = some (.bool b4) ∧ W.cell? ⟨wE.heap.size + 1 + 1 + 1 + m1 + 1 + m2, 5, none⟩ = some (.bool b5) ∧ W.cell? ⟨wE.heap.size + 1 + 1 + 1 + m1 + 1 + m2, 6, none⟩ = some (.bool b6) ∧ W.cell? ⟨wE.heap.size + 1 + 1 + 1 + m1 + 1 + m2, 7, none⟩ = some (.bool b7) ∧ W.cell? ⟨wE.heap.size + 1 + 1 + 1 + m1 + 1 + m2, 8, none⟩ = some (.bool b8) ∧ W.cell? ⟨wE.heap.size + 1 + 1 + 1 + m1 + 1 + m2, 9, none⟩ = some (.bool b9) ∧ W.cell? ⟨wE.heap.size + 1 + 1 + 1 + m1 + 1 + m2, 10, none⟩ = some (.bool b10) ∧ W.cell? ⟨wE.heap.size + 1 + 1 + 1 + m1 + 1 + m2, 11, none⟩ = some (.bool b11) ∧ W.cell? ⟨wE.heap.size + 1 + 1 + 1 + m1 + 1 + m2, 12, none⟩ = some (.int .u64 7) ∧ W.cell? ⟨wE.heap.size + 1 + 1 + 1 + m1 + 1 + m2, 13, none⟩ = some (.int .u64 A)) ?_ ?_
  · refine ⟨?_, ?_, ?_, ?_, ?_, ?_, ?_, ?_, ?_, ?_, ?_, ?_, ?_, ?_, ?_, ?_, ?_, ?_, ?_, ?_, ?_, ?_, ?_, ?_, ?_, ?_, ?_, ?_⟩
    · repeat (first | with_reducible assumption | with_reducible exact Below.refl _ _ | with_reducible refine Below.drew ?_ | with_reducible refine below_drewN ?_ _ | with_reducible refine bw_alloc ?_ _ | (with_reducible refine bw_set ?_ ?_ _; focus (dsimp only; omega)) | (with_reducible apply bw_behind; with_reducible assumption))
    all_goals (first | with_reducible assumption | ((repeat (first | with_reducible assumption | with_reducible refine c_dr _ ?_ | with_reducible refine c_d1 ?_ | with_reducible refine c_al _ ?_ | (with_reducible refine c_set ?_ ?_; focus (dsimp only; omega)) | (with_reducible apply c_be; with_reducible assumption))); done) | ((repeat (first | with_reducible assumption | with_reducible refine o_dr _ ?_ | with_reducible refine o_d1 ?_ | with_reducible refine o_set ?_ | (with_reducible refine o_new ?_ ?_; (focus (simp)); (focus (simp))) | with_reducible refine o_al _ ?_ | (with_reducible apply o_be; with_reducible assumption))); done) | ((repeat (first | with_reducible assumption | with_reducible exact Below.refl _ _ | with_reducible refine Below.drew ?_ | with_reducible refine below_drewN ?_ _ | with_reducible refine bw_alloc ?_ _ | (with_reducible refine bw_set ?_ ?_ _; focus (dsimp only; omega)) | (with_reducible apply bw_behind; with_reducible assumption))); done) | (simp [go_sem, *]; omega) | (simp (maxDischargeDepth := 4) [go_sem, *]; done))
  rintro wj ⟨hBj, j0, j1, j2, j3, j4, j5, j6, j7, j8, j9, j10, j11, j12, j13, j14, j15, j16, j17, j18, j19, j20, j21, j22, j23, j24, j25, j26⟩
  have qj : ltB eb wj.heap.size = true := decide_eq_true (World.block_lt_of_cell? wj _ j0)
  have qf : ltB (wE.heap.size + 1 + 1 + 1 + m1 + 1 + m2) wj.heap.size = true := decide_eq_true (World.block_lt_of_cell? wj _ j13)
  clear qo qe e0 e1 e2 e3 e4 e5 e6 e7 e8 e9 e10 e11 e12 e13 e14 e15 hM1 hR1 hN1 hb1 hr1 hh1 hs1 hb2 hr2 hh2 hs2 hb3 hr3 hh3 hs3 hb4 hr4 hh4 hs4 hb5 hr5 hh5 hs5
  generalize wE.heap.size + 1 + 1 + 1 + m1 + 1 + m2 = fb at *
  clear w1 w2 w3 w4 w5
  clear hBE
  rcases HD.out with ⟨h1 | ⟨h1, h2⟩ | ⟨h1, h2, h3⟩, hq⟩ | ⟨h1, h2, h3⟩
  all_goals (clear HD; try subst hq)
  all_goals
    refine wp_abs (fun W => Tab W ∧ Below w.heap.size w W ∧ W.cell? ⟨eb, 0, none⟩ = some (.bool b0) ∧ W.cell? ⟨eb, 1, none⟩ = some (.bool b1) ∧ W.cell? ⟨eb, 2, none⟩ = some (.bool b2) ∧ W.cell? ⟨eb, 3, none⟩ = some (.bool b3) ∧ W.cell? ⟨eb, 4, none⟩ = some (.bool b4) ∧ W.cell? ⟨eb, 5, none⟩ = some (.bool b5) ∧ W.cell? ⟨eb, 6, none⟩ = some (.bool b6) ∧ W.cell? ⟨eb, 7, none⟩ = some (.bool b7) ∧ W.cell? ⟨eb, 8, none⟩ = some (.bool b8) ∧ W.cell? ⟨eb, 9, none⟩ = some (.bool b9) ∧ W.cell? ⟨eb, 10, none⟩ = some (.bool b10) ∧ W.cell? ⟨eb, 11, none⟩ = some (.bool b11) ∧ W.cell? ⟨eb, 12, none⟩ = some (.int .u64 7) ∧ W.cell? ⟨fb, 0, none⟩ = some (.bool b0) ∧ W.cell? ⟨fb, 1, none⟩ = some (.bool b1) ∧ W.cell? ⟨fb, 2, none⟩ = some (.bool b2) ∧ W.cell? ⟨fb, 3, none⟩ = some (.bool b3) ∧ W.cell? ⟨fb, 4, none⟩ = some (.bool b4) ∧ W.cell? ⟨fb, 5, none⟩ = some (.bool b5) ∧ W.cell? ⟨fb, 6, none⟩ = some (.bool b6) ∧ W.cell? ⟨fb, 7, none⟩ = some (.bool b7) ∧ W.cell? ⟨fb, 8, none⟩ = some (.bool b8) ∧ W.cell? ⟨fb, 9, none⟩ = some (.bool b9) ∧ W.cell? ⟨fb, 10, none⟩ = some (.bool b10) ∧ W.cell? ⟨fb, 11, none⟩ = some (.bool b11) ∧ W.cell? ⟨fb, 12, none⟩ = some (.int .u64 7) ∧ W.cell? ⟨fb, 13, none⟩ = some (.int .u64 A)) ?_ ?_
    · refine ⟨?_, ?_, ?_, ?_, ?_, ?_, ?_, ?_, ?_, ?_, ?_, ?_, ?_, ?_, ?_, ?_, ?_, ?_, ?_, ?_, ?_, ?_, ?_, ?_, ?_, ?_, ?_, ?_, ?_⟩
      all_goals (first | with_reducible assumption | ((repeat (first | with_reducible assumption | with_reducible refine c_dr _ ?_ | with_reducible refine c_d1 ?_ | with_reducible refine c_al _ ?_ | (with_reducible refine c_set ?_ ?_; focus (dsimp only; omega)) | (with_reducible apply c_be; with_reducible assumption))); done) | ((repeat (first | with_reducible assumption | with_reducible refine o_dr _ ?_ | with_reducible refine o_d1 ?_ | with_reducible refine o_set ?_ | (with_reducible refine o_new ?_ ?_; (focus (simp)); (focus (simp))) | with_reducible refine o_al _ ?_ | (with_reducible apply o_be; with_reducible assumption))); done) | ((repeat (first | with_reducible assumption | with_reducible exact Below.refl _ _ | with_reducible refine Below.drew ?_ | with_reducible refine below_drewN ?_ _ | with_reducible refine bw_alloc ?_ _ | (with_reducible refine bw_set ?_ ?_ _; focus (dsimp only; omega)) | (with_reducible apply bw_behind; with_reducible assumption))); done) | (refine hT.behind ?_; (repeat (first | with_reducible assumption | with_reducible exact Below.refl _ _ | with_reducible refine Below.drew ?_ | with_reducible refine below_drewN ?_ _ | with_reducible refine bw_alloc ?_ _ | (with_reducible refine bw_set ?_ ?_ _; focus (dsimp only; omega)) | (with_reducible apply bw_behind; with_reducible assumption))); done) | (simp [go_sem, *]; omega) | (simp (maxDischargeDepth := 4) [go_sem, *]; done))
    rintro w0z ⟨hT0z, hB0z, cz0, cz1, cz2, cz3, cz4, cz5, cz6, cz7, cz8, cz9, cz10, cz11, cz12, cz13, cz14, cz15, cz16, cz17, cz18, cz19, cz20, cz21, cz22, cz23, cz24, cz25, cz26⟩
    have yz0 := behind_cell0 cz0
    have yz1 := behind_cell0 cz1
    have yz2 := behind_cell0 cz2
    have yz3 := behind_cell0 cz3
    have yz4 := behind_cell0 cz4
    have yz5 := behind_cell0 cz5
    have yz6 := behind_cell0 cz6
    have yz7 := behind_cell0 cz7
    have yz8 := behind_cell0 cz8
    have yz9 := behind_cell0 cz9
    have yz10 := behind_cell0 cz10
    have yz11 := behind_cell0 cz11
    have yz12 := behind_cell0 cz12
    have yz13 := behind_cell0 cz13
    have yz14 := behind_cell0 cz14
    have yz15 := behind_cell0 cz15
    have yz16 := behind_cell0 cz16
    have yz17 := behind_cell0 cz17
    have yz18 := behind_cell0 cz18
    have yz19 := behind_cell0 cz19
    have yz20 := behind_cell0 cz20
    have yz21 := behind_cell0 cz21
    have yz22 := behind_cell0 cz22
    have yz23 := behind_cell0 cz23
    have yz24 := behind_cell0 cz24
    have yz25 := behind_cell0 cz25
    have yz26 := behind_cell0 cz26
    have hsome := Behind.any w0z
    clear cz0 cz1 cz2 cz3 cz4 cz5 cz6 cz7 cz8 cz9 cz10 cz11 cz12 cz13 cz14 cz15 cz16 cz17 cz18 cz19 cz20 cz21 cz22 cz23 cz24 cz25 cz26
    refine wp_region_behind w0z (by kernel_rfl) (by kernel_rfl) (Below.refl _ _) ?_
    repeat (go_big_quiet_step (first | (go_at_call 20; with_reducible first | exact behind_call Cc6.out hT0z _) | (go_at_call 21; with_reducible first | exact behind_call Cc7.out hT0z _)))
    refine wpQuiet_nil ?_
    rintro _ ⟨y, rfl⟩
    have hTy := hT0z.behind y.below
    have hBy := bw_behind y.below hB0z
    have xz0 := yz0 y
    have xz1 := yz1 y
    have xz2 := yz2 y
    have xz3 := yz3 y
    have xz4 := yz4 y
    have xz5 := yz5 y
    have xz6 := yz6 y
    have xz7 := yz7 y
    have xz8 := yz8 y
    have xz9 := yz9 y
    have xz10 := yz10 y
    have xz11 := yz11 y
    have xz12 := yz12 y
    have xz13 := yz13 y
    have xz14 := yz14 y
    have xz15 := yz15 y
    have xz16 := yz16 y
    have xz17 := yz17 y
    have xz18 := yz18 y
    have xz19 := yz19 y
    have xz20 := yz20 y
    have xz21 := yz21 y
    have xz22 := yz22 y
    have xz23 := yz23 y
    have xz24 := yz24 y
    have xz25 := yz25 y
    have xz26 := yz26 y
    clear hsome yz0 yz1 yz2 yz3 yz4 yz5 yz6 yz7 yz8 yz9 yz10 yz11 yz12 yz13 yz14 yz15 yz16 yz17 yz18 yz19 yz20 yz21 yz22 yz23 yz24 yz25 yz26
    obtain ⟨w1z, hw1⟩ : ∃ W, W = y.world := ⟨_, rfl⟩
    rw [← hw1] at hTy hBy xz0 xz1 xz2 xz3 xz4 xz5 xz6 xz7 xz8 xz9 xz10 xz11 xz12 xz13 xz14 xz15 xz16 xz17 xz18 xz19 xz20 xz21 xz22 xz23 xz24 xz25 xz26 ⊢
    clear hw1 y hT0z hB0z
    have qe2 : ltB eb w1z.heap.size = true := decide_eq_true (World.block_lt_of_cell? w1z _ xz0)
    go_wp2_with (first | (go_at_call 8; (with_reducible refine (Cc8.out _ _ ?_ ?_).mono ?_); (refine hT.behind ?_; repeat (first | with_reducible assumption | with_reducible exact Below.refl _ _ | with_reducible refine Below.drew ?_ | with_reducible refine below_drewN ?_ _ | with_reducible refine bw_alloc ?_ _ | (with_reducible refine bw_set ?_ ?_ _; focus (dsimp only; omega)) | (with_reducible apply bw_behind; with_reducible assumption))); (focus (repeat (first | with_reducible assumption | with_reducible refine k_dr _ ?_ | with_reducible refine k_d1 ?_ | exact row_new (by simp) rfl | with_reducible refine k_al _ ?_ | (with_reducible apply k_be; with_reducible assumption)))); rintro _ w8 ⟨R8, N8, sa8, na8, ca8, sb8, nb8, cb8, rfl, hM8, hb8, hR8, hN8⟩; have hr8 := below_reads hb8; have hh8 := below_holds hb8; obtain ⟨m8, hs8⟩ := below_grew hb8) | (go_at_call 23; (with_reducible first | refine (Ccp.out _).mono ?_); rintro e w' ⟨rfl, n1, rfl⟩) | (go_at_call 9; (first | ((with_reducible refine (Cc9.out _ N8 _ ?_ ?_).mono ?_); (refine hT.behind ?_; repeat (first | with_reducible assumption | with_reducible exact Below.refl _ _ | with_reducible refine Below.drew ?_ | with_reducible refine below_drewN ?_ _ | with_reducible refine bw_alloc ?_ _ | (with_reducible refine bw_set ?_ ?_ _; focus (dsimp only; omega)) | (with_reducible apply bw_behind; with_reducible assumption))); (focus (repeat (first | with_reducible assumption | with_reducible refine mw_dr _ ?_ | with_reducible refine mw_d1 ?_ | with_reducible refine mw_al _ ?_ | (with_reducible apply mw_be; with_reducible assumption)))))); rintro _ w9 ⟨rfl, hb9⟩; have hr9 := below_reads hb9; have hh9 := below_holds hb9; obtain ⟨m9, hs9⟩ := below_grew hb9) | (go_at_call 11; (with_reducible refine (Co.out _ ?_).mono ?_); (refine hT.behind ?_; repeat (first | with_reducible assumption | with_reducible exact Below.refl _ _ | with_reducible refine Below.drew ?_ | with_reducible refine below_drewN ?_ _ | with_reducible refine bw_alloc ?_ _ | (with_reducible refine bw_set ?_ ?_ _; focus (dsimp only; omega)) | (with_reducible apply bw_behind; with_reducible assumption))); rintro _ w10 ⟨rfl, hb10⟩; have hr10 := below_reads hb10; have hh10 := below_holds hb10; obtain ⟨m10, hs10⟩ := below_grew hb10))
    go_ret
    refine ⟨rfl, ?_⟩
    repeat (first | with_reducible assumption | with_reducible exact Below.refl _ _ | with_reducible refine Below.drew ?_ | with_reducible refine below_drewN ?_ _ | with_reducible refine bw_alloc ?_ _ | (with_reducible refine bw_set ?_ ?_ _; focus (dsimp only; omega)) | (with_reducible apply bw_behind; with_reducible assumption))
end Go.Proofs.YtnookalplejneaaDoor.WalkLeaves
