/-
  PteBack holds: for every entry and address the law returns true and turns nothing that was there, where the table of places holds what the program's text lays.
-/
import Derived.Test.YtiimoepngppabaaDoorPteRight
import Derived.Test.YtiimoepngppabaaDoorPteRef2
import Derived.Test.YtiimoepngppabaaDoorPteSmall
import Derived.Test.YtiimoepngppabaaDoorPteLaid
namespace Go.Proofs.YtiimoepngppabaaDoor.PteBack
open Go.RowKit Words FieldMath PteMath

set_option maxRecDepth 100000 in
set_option maxHeartbeats 8000000 in
theorem main (b0 b1 b2 b3 b4 b5 b6 b7 b8 b9 b10 b11 : Bool) (N M X V A O Q Z I0 I1 I2 J0 J1 J2 S0 S1 : Int) (c1 : ∀ W, Tab W → Calls Tryd.prog 6 #[.agg #[.bool b0, .bool b1, .bool b2, .bool b3, .bool b4, .bool b5, .bool b6, .bool b7, .bool b8, .bool b9, .bool b10, .bool b11, .int .u64 N]] W (Makes (.int .u64 A) W)) (c2 : ∀ W, Tab W → Calls Tryd.prog 8 #[.int .u64 A] W (Makes (.agg #[.bool b0, .bool b1, .bool b2, .bool b3, .bool b4, .bool b5, .bool b6, .bool b7, .bool b8, .bool b9, .bool b10, .bool b11, .int .u64 M]) W)) (c3 : ∀ W, Tab W → Calls Tryd.prog 6 #[.agg #[.bool b0, .bool b1, .bool b2, .bool b3, .bool b4, .bool b5, .bool b6, .bool b7, .bool b8, .bool b9, .bool b10, .bool b11, .int .u64 M]] W (Makes (.int .u64 A) W)) (c4 : ∀ W, Calls Tryd.prog 14 #[.int .u64 V] W (Quiet (.int .u64 O) W)) (c5 : ∀ W, Tab W → Calls Tryd.prog 14 #[.int .u64 V] W (Makes (.int .u64 O) W)) (c6 : ∀ W, Calls Tryd.prog 15 #[.int .u64 V, .int .i64 0] W (Quiet (.int .i64 I0) W)) (c7 : ∀ W, Calls Tryd.prog 15 #[.int .u64 V, .int .i64 1] W (Quiet (.int .i64 I1) W)) (c8 : ∀ W, Calls Tryd.prog 15 #[.int .u64 V, .int .i64 2] W (Quiet (.int .i64 I2) W)) (c9 : ∀ W, Tab W → Calls Tryd.prog 17 #[.int .u64 V] W (Makes (.int .u64 Q) W)) (c10 : ∀ W, Tab W → Calls Tryd.prog 16 #[.int .u64 Q] W (Makes (.int .u64 Z) W)) (c11 : ∀ W, Tab W → Calls Tryd.prog 18 #[.int .u64 V] W (Makes (.bool true) W)) (c12 : ∀ W, Tab W → Calls Tryd.prog 6 #[.agg #[.bool false, .bool false, .bool false, .bool false, .bool false, .bool false, .bool false, .bool false, .bool false, .bool false, .bool false, .bool true, .int .u64 0]] W (Makes (.int .u64 2305843009213693952) W)) (hM : N.tmod 17592186044416 = M) (hV : X.tmod 274877906944 = V) (i0 : IntKind.u64.wrap I0 = I0) (i1 : IntKind.u64.wrap I1 = I1) (i2 : IntKind.u64.wrap I2 = I2) (j0 : IntKind.u64.wrap (I0 * 4096) = J0) (j1 : IntKind.u64.wrap (I1 * 2097152) = J1) (j2 : IntKind.u64.wrap (I2 * 1073741824) = J2) (t0 : IntKind.u64.wrap (O + J0) = S0) (t1 : IntKind.u64.wrap (S0 + J1) = S1) (t2 : IntKind.u64.wrap (S1 + J2) = V) (hZ : IntKind.u64.wrap (Z + O) = V) (w : World) (hT : Tab w) : Calls Tryd.prog 4 #[.agg #[.bool b0, .bool b1, .bool b2, .bool b3, .bool b4, .bool b5, .bool b6, .bool b7, .bool b8, .bool b9, .bool b10, .bool b11, .int .u64 N], .int .u64 X] w (Makes (.bool true) w) := by
  have Cc1 := hide c1
  have Cc2 := hide c2
  have Cc3 := hide c3
  have Cc4 := hide c4
  have Cc5 := hide c5
  have Cc6 := hide c6
  have Cc7 := hide c7
  have Cc8 := hide c8
  have Cc9 := hide c9
  have Cc10 := hide c10
  have Cc11 := hide c11
  have Cc12 := hide c12
  clear c1 c2 c3 c4 c5 c6 c7 c8 c9 c10 c11 c12
  have SS := cell_same
  have LB' := ltB_add
  have LS := ltB_self
  have LA' := alloc_reads
  have LH := alloc_holds
  have EI : ∀ W, (Op.equalIn 10000 24 (.agg #[.bool b0, .bool b1, .bool b2, .bool b3, .bool b4, .bool b5, .bool b6, .bool b7, .bool b8, .bool b9, .bool b10, .bool b11, .int .u64 M]) (.agg #[.bool b0, .bool b1, .bool b2, .bool b3, .bool b4, .bool b5, .bool b6, .bool b7, .bool b8, .bool b9, .bool b10, .bool b11, .int .u64 M])).run Tryd.prog W = .ok true W := fun W => by rw [eqi_e, decide_eq_true rfl]
  have EQ : ∀ W, (binOp .eql 24 (.agg #[.bool b0, .bool b1, .bool b2, .bool b3, .bool b4, .bool b5, .bool b6, .bool b7, .bool b8, .bool b9, .bool b10, .bool b11, .int .u64 M]) (.agg #[.bool b0, .bool b1, .bool b2, .bool b3, .bool b4, .bool b5, .bool b6, .bool b7, .bool b8, .bool b9, .bool b10, .bool b11, .int .u64 M])).run Tryd.prog W = .ok (.bool true) W := fun W => by rw [eq_e, decide_eq_true rfl]
  go_enter Tryd.func4, Tryd.ntmps4
  go_wp2_with (first | (go_at_call 6; (first | ((with_reducible refine (Cc1.out _ ?_).mono ?_); (refine hT.behind ?_; repeat (first | with_reducible assumption | with_reducible exact Below.refl _ _ | with_reducible refine Below.drew ?_ | with_reducible refine below_drewN ?_ _ | with_reducible refine bw_alloc ?_ _ | (with_reducible refine bw_set ?_ ?_ _; focus (dsimp only; omega)) | (with_reducible apply bw_behind; with_reducible assumption))))); rintro e w1 ⟨rfl, hb1⟩; have hr1 := below_reads hb1; have hh1 := below_holds hb1; obtain ⟨m1, hs1⟩ := below_grew hb1) | (go_at_call 8; (first | ((with_reducible refine (Cc2.out _ ?_).mono ?_); (refine hT.behind ?_; repeat (first | with_reducible assumption | with_reducible exact Below.refl _ _ | with_reducible refine Below.drew ?_ | with_reducible refine below_drewN ?_ _ | with_reducible refine bw_alloc ?_ _ | (with_reducible refine bw_set ?_ ?_ _; focus (dsimp only; omega)) | (with_reducible apply bw_behind; with_reducible assumption))))); rintro e w2 ⟨rfl, hb2⟩; have hr2 := below_reads hb2; have hh2 := below_holds hb2; obtain ⟨m2, hs2⟩ := below_grew hb2) | (go_at_call 14; (with_reducible first | refine (Cc4.out _).mono ?_); rintro e w' ⟨rfl, n1, rfl⟩))
  refine wp_abs (fun W => Tab W ∧ Below w.heap.size w W ∧ W.cell? ⟨w.heap.size, 0, none⟩ = some (.bool b0) ∧ W.cell? ⟨w.heap.size, 1, none⟩ = some (.bool b1) ∧ W.cell? ⟨w.heap.size, 2, none⟩ = some (.bool b2) ∧ W.cell? ⟨w.heap.size, 3, none⟩ = some (.bool b3) ∧ W.cell? ⟨w.heap.size, 4, none⟩ = some (.bool b4) ∧ W.cell? ⟨w.heap.size, 5, none⟩ = some (.bool b5) ∧ W.cell? ⟨w.heap.size, 6, none⟩ = some (.bool b6) ∧ W.cell? ⟨w.heap.size, 7, none⟩ = some (.bool b7) ∧ W.cell? ⟨w.heap.size, 8, none⟩ = some (.bool b8) ∧ W.cell? ⟨w.heap.size, 9, none⟩ = some (.bool b9) ∧ W.cell? ⟨w.heap.size, 10, none⟩ = some (.bool b10) ∧ W.cell? ⟨w.heap.size, 11, none⟩ = some (.bool b11) ∧ W.cell? ⟨w.heap.size, 12, none⟩ = some (.int .u64 M) ∧ W.cell? ⟨w.heap.size + 1 + m1 + m2, 0, none⟩ = some (.bool b0) ∧ W.cell? ⟨w.heap.size + 1 + m1 + m2, 1, none⟩ = some (.bool b1) ∧ W.cell? ⟨w.heap.size + 1 + m1 + m2, 2, none⟩ = some (.bool b2) ∧ W.cell? ⟨w.heap.size + 1 + m1 + m2, 3, none⟩ = some (.bool b3) ∧ W.cell? ⟨w.heap.size + 1 + m1 + m2, 4, none⟩ = some (.bool b4) ∧ W.cell? ⟨w.heap.size + 1 + m1 + m2, 5, none⟩ = some (.bool b5) ∧ W.cell? ⟨w.heap.size + 1 + m1 + m2, 6, none⟩ = some (.bool b6) ∧ W.cell? ⟨w.heap.size + 1 + m1 + m2, 7, none⟩ = some (.bool b7) ∧ W.cell? ⟨w.heap.size + 1 + m1 + m2, 8, none⟩ = some (.bool b8) ∧ W.cell? ⟨w.heap.size + 1 + m1 + m2, 9, none⟩ = some (.bool b9) ∧ W.cell? ⟨w.heap.size + 1 + m1 + m2, 10, none⟩ = some (.bool b10) ∧ W.cell? ⟨w.heap.size + 1 + m1 + m2, 11, none⟩ = some (.bool b11) ∧ W.cell? ⟨w.heap.size + 1 + m1 + m2, 12, none⟩ = some (.int .u64 M)) ?_ ?_
  · refine ⟨?_, ?_, ?_, ?_, ?_, ?_, ?_, ?_, ?_, ?_, ?_, ?_, ?_, ?_, ?_, ?_, ?_, ?_, ?_, ?_, ?_, ?_, ?_, ?_, ?_, ?_, ?_, ?_⟩
    all_goals (first | with_reducible assumption | ((repeat (first | with_reducible assumption | with_reducible refine c_dr _ ?_ | with_reducible refine c_d1 ?_ | with_reducible refine c_al _ ?_ | (with_reducible refine c_set ?_ ?_; focus (dsimp only; omega)) | (with_reducible apply c_be; with_reducible assumption))); done) | ((repeat (first | with_reducible assumption | with_reducible refine o_dr _ ?_ | with_reducible refine o_d1 ?_ | with_reducible refine o_set ?_ | (with_reducible refine o_new ?_ ?_; (focus (simp)); (focus (simp))) | with_reducible refine o_al _ ?_ | (with_reducible apply o_be; with_reducible assumption))); done) | ((repeat (first | with_reducible assumption | with_reducible exact Below.refl _ _ | with_reducible refine Below.drew ?_ | with_reducible refine below_drewN ?_ _ | with_reducible refine bw_alloc ?_ _ | (with_reducible refine bw_set ?_ ?_ _; focus (dsimp only; omega)) | (with_reducible apply bw_behind; with_reducible assumption))); done) | (refine hT.behind ?_; (repeat (first | with_reducible assumption | with_reducible exact Below.refl _ _ | with_reducible refine Below.drew ?_ | with_reducible refine below_drewN ?_ _ | with_reducible refine bw_alloc ?_ _ | (with_reducible refine bw_set ?_ ?_ _; focus (dsimp only; omega)) | (with_reducible apply bw_behind; with_reducible assumption))); done) | (simp [go_sem, *]; omega) | (simp (maxDischargeDepth := 4) [go_sem, *]; done))
  clear hs1 hs2 hr1 hr2 hh1 hh2 hb1 hb2 n1 w1 w2
  rintro w0 ⟨hTa, hBa, p0, p1, p2, p3, p4, p5, p6, p7, p8, p9, p10, p11, p12, p13, p14, p15, p16, p17, p18, p19, p20, p21, p22, p23, p24, p25⟩
  refine wp_loop_rounds 4 ?_
  rw [rounds_succ]
  go_wp2_with ((go_at_call 15; (with_reducible first | refine (Cc6.out _).mono ?_ | refine (Cc7.out _).mono ?_ | refine (Cc8.out _).mono ?_); rintro e w' ⟨rfl, n1, rfl⟩))
  rw [rounds_succ]
  go_wp2_with ((go_at_call 15; (with_reducible first | refine (Cc6.out _).mono ?_ | refine (Cc7.out _).mono ?_ | refine (Cc8.out _).mono ?_); rintro e w' ⟨rfl, n1, rfl⟩))
  rw [rounds_succ]
  go_wp2_with ((go_at_call 15; (with_reducible first | refine (Cc6.out _).mono ?_ | refine (Cc7.out _).mono ?_ | refine (Cc8.out _).mono ?_); rintro e w' ⟨rfl, n1, rfl⟩))
  rw [rounds_succ]
  go_wp2_with ((go_at_call 15; (with_reducible first | refine (Cc6.out _).mono ?_ | refine (Cc7.out _).mono ?_ | refine (Cc8.out _).mono ?_); rintro e w' ⟨rfl, n1, rfl⟩))
  refine wp_abs (fun W => Tab W ∧ Below w.heap.size w W ∧ W.cell? ⟨w.heap.size, 0, none⟩ = some (.bool b0) ∧ W.cell? ⟨w.heap.size, 1, none⟩ = some (.bool b1) ∧ W.cell? ⟨w.heap.size, 2, none⟩ = some (.bool b2) ∧ W.cell? ⟨w.heap.size, 3, none⟩ = some (.bool b3) ∧ W.cell? ⟨w.heap.size, 4, none⟩ = some (.bool b4) ∧ W.cell? ⟨w.heap.size, 5, none⟩ = some (.bool b5) ∧ W.cell? ⟨w.heap.size, 6, none⟩ = some (.bool b6) ∧ W.cell? ⟨w.heap.size, 7, none⟩ = some (.bool b7) ∧ W.cell? ⟨w.heap.size, 8, none⟩ = some (.bool b8) ∧ W.cell? ⟨w.heap.size, 9, none⟩ = some (.bool b9) ∧ W.cell? ⟨w.heap.size, 10, none⟩ = some (.bool b10) ∧ W.cell? ⟨w.heap.size, 11, none⟩ = some (.bool b11) ∧ W.cell? ⟨w.heap.size, 12, none⟩ = some (.int .u64 M) ∧ W.cell? ⟨w.heap.size + 1 + m1 + m2, 0, none⟩ = some (.bool b0) ∧ W.cell? ⟨w.heap.size + 1 + m1 + m2, 1, none⟩ = some (.bool b1) ∧ W.cell? ⟨w.heap.size + 1 + m1 + m2, 2, none⟩ = some (.bool b2) ∧ W.cell? ⟨w.heap.size + 1 + m1 + m2, 3, none⟩ = some (.bool b3) ∧ W.cell? ⟨w.heap.size + 1 + m1 + m2, 4, none⟩ = some (.bool b4) ∧ W.cell? ⟨w.heap.size + 1 + m1 + m2, 5, none⟩ = some (.bool b5) ∧ W.cell? ⟨w.heap.size + 1 + m1 + m2, 6, none⟩ = some (.bool b6) ∧ W.cell? ⟨w.heap.size + 1 + m1 + m2, 7, none⟩ = some (.bool b7) ∧ W.cell? ⟨w.heap.size + 1 + m1 + m2, 8, none⟩ = some (.bool b8) ∧ W.cell? ⟨w.heap.size + 1 + m1 + m2, 9, none⟩ = some (.bool b9) ∧ W.cell? ⟨w.heap.size + 1 + m1 + m2, 10, none⟩ = some (.bool b10) ∧ W.cell? ⟨w.heap.size + 1 + m1 + m2, 11, none⟩ = some (.bool b11) ∧ W.cell? ⟨w.heap.size + 1 + m1 + m2, 12, none⟩ = some (.int .u64 M)) ?_ ?_
  · refine ⟨?_, ?_, ?_, ?_, ?_, ?_, ?_, ?_, ?_, ?_, ?_, ?_, ?_, ?_, ?_, ?_, ?_, ?_, ?_, ?_, ?_, ?_, ?_, ?_, ?_, ?_, ?_, ?_⟩
    all_goals (first | with_reducible assumption | ((repeat (first | with_reducible assumption | with_reducible refine c_dr _ ?_ | with_reducible refine c_d1 ?_ | with_reducible refine c_al _ ?_ | (with_reducible refine c_set ?_ ?_; focus (dsimp only; omega)) | (with_reducible apply c_be; with_reducible assumption))); done) | ((repeat (first | with_reducible assumption | with_reducible refine o_dr _ ?_ | with_reducible refine o_d1 ?_ | with_reducible refine o_set ?_ | (with_reducible refine o_new ?_ ?_; (focus (simp)); (focus (simp))) | with_reducible refine o_al _ ?_ | (with_reducible apply o_be; with_reducible assumption))); done) | ((repeat (first | with_reducible assumption | with_reducible exact Below.refl _ _ | with_reducible refine Below.drew ?_ | with_reducible refine below_drewN ?_ _ | with_reducible refine bw_alloc ?_ _ | (with_reducible refine bw_set ?_ ?_ _; focus (dsimp only; omega)) | (with_reducible apply bw_behind; with_reducible assumption))); done) | (refine hT.behind ?_; (repeat (first | with_reducible assumption | with_reducible exact Below.refl _ _ | with_reducible refine Below.drew ?_ | with_reducible refine below_drewN ?_ _ | with_reducible refine bw_alloc ?_ _ | (with_reducible refine bw_set ?_ ?_ _; focus (dsimp only; omega)) | (with_reducible apply bw_behind; with_reducible assumption))); done) | (simp [go_sem, *]; omega) | (simp (maxDischargeDepth := 4) [go_sem, *]; done))
  rintro wa ⟨hT0, hB0, c0, c1, c2, c3, c4, c5, c6, c7, c8, c9, c10, c11, c12, c13, c14, c15, c16, c17, c18, c19, c20, c21, c22, c23, c24, c25⟩
  have y0 := behind_cell0 c0
  have y1 := behind_cell0 c1
  have y2 := behind_cell0 c2
  have y3 := behind_cell0 c3
  have y4 := behind_cell0 c4
  have y5 := behind_cell0 c5
  have y6 := behind_cell0 c6
  have y7 := behind_cell0 c7
  have y8 := behind_cell0 c8
  have y9 := behind_cell0 c9
  have y10 := behind_cell0 c10
  have y11 := behind_cell0 c11
  have y12 := behind_cell0 c12
  have y13 := behind_cell0 c13
  have y14 := behind_cell0 c14
  have y15 := behind_cell0 c15
  have y16 := behind_cell0 c16
  have y17 := behind_cell0 c17
  have y18 := behind_cell0 c18
  have y19 := behind_cell0 c19
  have y20 := behind_cell0 c20
  have y21 := behind_cell0 c21
  have y22 := behind_cell0 c22
  have y23 := behind_cell0 c23
  have y24 := behind_cell0 c24
  have y25 := behind_cell0 c25
  have hsome := Behind.any wa
  clear c0 c1 c2 c3 c4 c5 c6 c7 c8 c9 c10 c11 c12 c13 c14 c15 c16 c17 c18 c19 c20 c21 c22 c23 c24 c25
  refine wp_region_behind wa (by kernel_rfl) (by kernel_rfl) (Below.refl _ _) ?_
  repeat (go_big_quiet_step (first | (go_at_call 6; with_reducible first | exact behind_call Cc3.out hT0 _ | exact behind_call Cc12.out hT0 _) | (go_at_call 14; with_reducible first | exact behind_call Cc5.out hT0 _) | (go_at_call 17; with_reducible first | exact behind_call Cc9.out hT0 _) | (go_at_call 16; with_reducible first | exact behind_call Cc10.out hT0 _) | (go_at_call 18; with_reducible first | exact behind_call Cc11.out hT0 _)))
  refine wpQuiet_nil ?_
  rintro _ ⟨y, rfl⟩
  have hTy := hT0.behind y.below
  have hBy := bw_behind y.below hB0
  have x0 := y0 y
  have x1 := y1 y
  have x2 := y2 y
  have x3 := y3 y
  have x4 := y4 y
  have x5 := y5 y
  have x6 := y6 y
  have x7 := y7 y
  have x8 := y8 y
  have x9 := y9 y
  have x10 := y10 y
  have x11 := y11 y
  have x12 := y12 y
  have x13 := y13 y
  have x14 := y14 y
  have x15 := y15 y
  have x16 := y16 y
  have x17 := y17 y
  have x18 := y18 y
  have x19 := y19 y
  have x20 := y20 y
  have x21 := y21 y
  have x22 := y22 y
  have x23 := y23 y
  have x24 := y24 y
  have x25 := y25 y
  clear hsome y0 y1 y2 y3 y4 y5 y6 y7 y8 y9 y10 y11 y12 y13 y14 y15 y16 y17 y18 y19 y20 y21 y22 y23 y24 y25
  obtain ⟨w1, hw1⟩ : ∃ W, W = y.world := ⟨_, rfl⟩
  rw [← hw1] at hTy hBy x0 x1 x2 x3 x4 x5 x6 x7 x8 x9 x10 x11 x12 x13 x14 x15 x16 x17 x18 x19 x20 x21 x22 x23 x24 x25 ⊢
  clear hw1 y hT0 hB0
  go_wp2_with fail
  go_ret
  refine ⟨rfl, ?_⟩
  repeat (first | with_reducible assumption | with_reducible exact Below.refl _ _ | with_reducible refine Below.drew ?_ | with_reducible refine below_drewN ?_ _ | with_reducible refine bw_alloc ?_ _ | (with_reducible refine bw_set ?_ ?_ _; focus (dsimp only; omega)) | (with_reducible apply bw_behind; with_reducible assumption))

theorem gen_word : ((wk (bs false false false false false false false false false false false true) 0 12).toNat : Int) = 2305843009213693952 := by decide +kernel
theorem parts (v : Nat) (h : v < 274877906944) : v % 4096 + idx v 0 * 4096 + idx v 1 * 2097152 + idx v 2 * 1073741824 = v ∧ idx v 0 < 512 ∧ idx v 1 < 512 ∧ idx v 2 < 512 := by
  simp only [idx]
  simp
  omega
theorem walk (b0 b1 b2 b3 b4 b5 b6 b7 b8 b9 b10 b11 : Bool) (F x : BitVec 64) (w : World) (hT : Tab w) : Calls Tryd.prog 4 #[.agg #[.bool b0, .bool b1, .bool b2, .bool b3, .bool b4, .bool b5, .bool b6, .bool b7, .bool b8, .bool b9, .bool b10, .bool b11, .int .u64 (F.toNat : Int)], .int .u64 (x.toNat : Int)] w (Makes (.bool true) w) := by
  obtain ⟨v, hv⟩ : ∃ v : BitVec 64, v = BitVec.ofNat 64 (x.toNat % 274877906944) := ⟨_, rfl⟩
  have hlt := Nat.mod_lt x.toNat (show 0 < 274877906944 by decide)
  have hvn : v.toNat = x.toNat % 274877906944 := by rw [hv, BitVec.toNat_ofNat, Nat.mod_eq_of_lt (by omega)]
  have e1 := fun W => offset_any v W
  have e2 := fun l W => index_any v l W
  have e3 := fun W => number_any v W
  have e4 := fun W => may_any v W
  have hq : (BitVec.ofNat 64 (v.toNat / 4096)).toNat = v.toNat / 4096 := by rw [BitVec.toNat_ofNat, Nat.mod_eq_of_lt (by have := v.isLt; omega)]
  have e5 := fun W => address_any (BitVec.ofNat 64 (v.toNat / 4096)) W
  rw [hq] at e5
  have hX : ((x.toNat : Int).tmod 274877906944) = ((v.toNat : Nat) : Int) := by
    rw [Int.tmod_eq_emod_of_nonneg (by omega), hvn]; rfl
  have hN : ((F.toNat : Int).tmod 17592186044416) = ((F.toNat % 17592186044416 : Nat) : Int) := by
    rw [Int.tmod_eq_emod_of_nonneg (by omega)]; rfl
  have hm2 : wordN b0 b1 b2 b3 b4 b5 b6 b7 b8 b9 b10 b11 (F &&& maskB 44).toNat = wordN b0 b1 b2 b3 b4 b5 b6 b7 b8 b9 b10 b11 F.toNat := by
    rw [frame_nat]; unfold wordN; rw [Nat.mod_mod]
  have w1 := fun W h => word_any b0 b1 b2 b3 b4 b5 b6 b7 b8 b9 b10 b11 F W h
  have w2 := fun W h => ofword_any b0 b1 b2 b3 b4 b5 b6 b7 b8 b9 b10 b11 F W h
  have w3 := fun W h => word_any b0 b1 b2 b3 b4 b5 b6 b7 b8 b9 b10 b11 (F &&& maskB 44) W h
  rw [word_is] at w1 w2 w3
  rw [hm2, frame_nat] at w3
  obtain ⟨hp, h0, h1, h2⟩ := parts v.toNat (by omega)
  have em : decide (((v.toNat : Nat) : Int) < 274877906944) = true := decide_eq_true (by omega)
  rw [em] at e4
  have hvl : v.toNat < 274877906944 := by omega
  generalize v.toNat = V at *
  clear hv hvn hq hlt
  refine main b0 b1 b2 b3 b4 b5 b6 b7 b8 b9 b10 b11 (F.toNat : Int) ((F.toNat % 17592186044416 : Nat) : Int) (x.toNat : Int) (V : Int) ((wordN b0 b1 b2 b3 b4 b5 b6 b7 b8 b9 b10 b11 F.toNat : Nat) : Int) ((V % 4096 : Nat) : Int) ((V / 4096 : Nat) : Int) (IntKind.u64.wrap (((V / 4096 : Nat) : Int) * 4096)) (idx V 0 : Int) (idx V 1 : Int) (idx V 2 : Int)
    ((idx V 0 * 4096 : Nat) : Int) ((idx V 1 * 2097152 : Nat) : Int) ((idx V 2 * 1073741824 : Nat) : Int) ((V % 4096 + idx V 0 * 4096 : Nat) : Int) ((V % 4096 + idx V 0 * 4096 + idx V 1 * 2097152 : Nat) : Int)
    w1 w2 w3 e1 (fun W _ => (e1 W).mono fun _ _ => quiet_makes) (e2 0) (e2 1) (e2 2) (fun W _ => (e3 W).mono fun _ _ => quiet_makes) (fun W _ => (e5 W).mono fun _ _ => quiet_makes) (fun W _ => (e4 W).mono fun _ _ => quiet_makes) ?_ hN hX ?_ ?_ ?_ ?_ ?_ ?_ ?_ ?_ ?_ ?_ w hT
  · intro W h
    have := word_any false false false false false false false false false false false true 0 W h
    rwa [gen_word] at this
  all_goals
    clear w1 w2 w3 e1 e2 e3 e4 e5 hm2 hN hX hT
    generalize idx V 0 = a at *
    generalize idx V 1 = b at *
    generalize idx V 2 = c at *
    simp only [IntKind.wrap_u64]
    omega

open Go.ChangeShapes Go.WideShapes Go.ChangeAt
set_option maxRecDepth 100000 in
theorem walks : Frame.WalksLaid [("mintmark/pte.places", Rows.laid_mintmark_pte_places)] 4 Tryd.f4 := by
  intro H enc W base args ds ps hL hval hA
  rw [Tryd.params4] at hA hval
  obtain ⟨v0, v1, d0, d1, p0, p1, hargs, rfl, rfl, h0, h1⟩ := trodAll_two hA
  obtain rfl : args = #[v0, v1] := by cases args; simp_all
  obtain ⟨cs0, rfl, hf0⟩ := Frame.open_struct (F := 4) (ks := [.inr false, .inr false, .inr false, .inr false, .inr false, .inr false, .inr false, .inr false, .inr false, .inr false, .inr false, .inr false, .inl .u64]) Tryd.underlying24 (by kernel_rfl) (hval 0 24 v0 rfl rfl) h0
  obtain ⟨z0_0, z0_1, z0_2, z0_3, z0_4, z0_5, z0_6, z0_7, z0_8, z0_9, z0_10, z0_11, Z0_12, rfl⟩ := open_ent hf0
  obtain ⟨x1, rfl, rfl, rfl, w1⟩ := open_int Tryd.underlying22 (hval 1 22 v1 rfl rfl) h1
  obtain ⟨X1, rfl⟩ := Frame.wf_u64 w1
  exact walk z0_0 z0_1 z0_2 z0_3 z0_4 z0_5 z0_6 z0_7 z0_8 z0_9 z0_10 z0_11 Z0_12 X1 W (tab_of_laid hL)
set_option maxRecDepth 100000 in
theorem said : Rows.PteBackSaid :=
  OpenClaim.holds_of_wide 4 Tryd.f4 rfl rfl rfl rfl rfl rfl rfl ⟨rfl, rfl, rfl, rfl, rfl⟩ rfl rfl rfl rfl rfl (by kernel_rfl) Tryd.func4 (by kernel_rfl)
    (of_decide_eq_true (by kernel_rfl)) (by unfold Func.isWrapper; first | (rw [if_pos (by decide +kernel)]; kernel_rfl) | (rw [if_neg (by decide +kernel)]; exact ⟨rfl, rfl⟩))
    (fun os started H enc _ => Frame.liftLaid [("mintmark/pte.places", Rows.laid_mintmark_pte_places)] os started H enc _ _ Rows.pteBackSpec 4 (by kernel_rfl) Tryd.func4 Tryd.underlying4 (by kernel_rfl) rfl (by kernel_rfl)
      (fun ds h => by match ds, h with | [_, _], _ => exact ⟨rfl, rfl, rfl⟩)
      (ChangeSpec.witness_shaped (enc := enc) (C := Tryd.checked) (os := os) (X := fun w _ => laidMetH Tryd.prog [("mintmark/pte.places", Rows.laid_mintmark_pte_places)] w) false (World.doorLaid Tryd.prog 400 os) #[.agg #[.bool false, .bool false, .bool false, .bool false, .bool false, .bool false, .bool false, .bool false, .bool false, .bool false, .bool false, .bool false, .int .u64 0], .int .u64 0] 8 rfl (World.shaped_of_RefB (by kernel_rfl) (by kernel_rfl)) (by kernel_rfl) (by kernel_rfl) (by kernel_rfl) (door_met os _)) walks)
set_option maxRecDepth 100000 in
theorem proved : Rows.PteBackCardSaid :=
  Claim7.holds_tied_plain_at .later [] [.data] true _ false said (fun _ h => by cases h) (by kernel_rfl) (fun _ h => by cases h) pteBack_row_tie rfl ⟨rfl, rfl⟩ (by kernel_rfl) rfl
    (fun f fn hf hfn => by
      obtain rfl : f = 4 := Option.some.inj ((show Tryd.prog.funcNamed "mintmark/mintmarklaw09.PteBack" = some 4 by kernel_rfl).symm.trans hf) |>.symm
      obtain rfl : fn = Tryd.f4 := (Option.some.inj (Tryd.func4.symm.trans hfn)).symm
      exact ⟨by kernel_rfl, fun j t ht => by
        rw [Tryd.params4] at ht
        have hm : t ∈ [24, 22] := by have := Array.mem_of_getElem? ht; simp at this; simp; first | omega | grind
        have hall : ([24, 22].all fun u => !Tryd.prog.wantsStandIn u) = true := by kernel_rfl
        exact (show Tryd.prog.wantsStandIn t = false by simpa using List.all_eq_true.1 hall t hm)⟩)
    (by kernel_rfl)
end Go.Proofs.YtiimoepngppabaaDoor.PteBack
