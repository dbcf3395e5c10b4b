/-
  TagsSets holds: for every s, t and at the law returns true and turns nothing that was there.
-/
import Derived.Test.YtpikipfchkhnbaaTag5
import Derived.Test.YtpikipfchkhnbaaTag7
import Derived.Test.YtpikipfchkhnbaaLawFrame
namespace Go.Proofs.Ytpikipfchkhnbaa.TagsSets
open Go.RowKit Words

/-- What the last region reads: the cells of four sets. -/
def Held (w0 : World) (ns nt na nb : Nat) (S0 S1 S2 S3 T0 T1 T2 T3 A0 A1 A2 A3 B0 B1 B2 B3 : Int) (W : World) : Prop := W.cell? ⟨ns, 0, none⟩ = some (.int .u64 S0) ∧ W.cell? ⟨ns, 1, none⟩ = some (.int .u64 S1) ∧ W.cell? ⟨ns, 2, none⟩ = some (.int .u64 S2) ∧ W.cell? ⟨ns, 3, none⟩ = some (.int .u64 S3) ∧ W.cell? ⟨nt, 0, none⟩ = some (.int .u64 T0) ∧ W.cell? ⟨nt, 1, none⟩ = some (.int .u64 T1) ∧ W.cell? ⟨nt, 2, none⟩ = some (.int .u64 T2) ∧ W.cell? ⟨nt, 3, none⟩ = some (.int .u64 T3) ∧ W.cell? ⟨na, 0, none⟩ = some (.int .u64 A0) ∧ W.cell? ⟨na, 1, none⟩ = some (.int .u64 A1) ∧ W.cell? ⟨na, 2, none⟩ = some (.int .u64 A2) ∧ W.cell? ⟨na, 3, none⟩ = some (.int .u64 A3) ∧ W.cell? ⟨nb, 0, none⟩ = some (.int .u64 B0) ∧ W.cell? ⟨nb, 1, none⟩ = some (.int .u64 B1) ∧ W.cell? ⟨nb, 2, none⟩ = some (.int .u64 B2) ∧ W.cell? ⟨nb, 3, none⟩ = some (.int .u64 B3) ∧ Below w0.heap.size w0 W
theorem held_step {w0 : World} {ns nt na nb : Nat} {S0 S1 S2 S3 T0 T1 T2 T3 A0 A1 A2 A3 B0 B1 B2 B3 : Int} {W W' : World} (h : Held w0 ns nt na nb S0 S1 S2 S3 T0 T1 T2 T3 A0 A1 A2 A3 B0 B1 B2 B3 W) (hb : Below W.heap.size W W') : Held w0 ns nt na nb S0 S1 S2 S3 T0 T1 T2 T3 A0 A1 A2 A3 B0 B1 B2 B3 W' := by
  obtain ⟨h0, h1, h2, h3, h4, h5, h6, h7, h8, h9, h10, h11, h12, h13, h14, h15, h16⟩ := h
  exact ⟨c_be hb h0, c_be hb h1, c_be hb h2, c_be hb h3, c_be hb h4, c_be hb h5, c_be hb h6, c_be hb h7, c_be hb h8, c_be hb h9, c_be hb h10, c_be hb h11, c_be hb h12, c_be hb h13, c_be hb h14, c_be hb h15, bw_behind hb h16⟩
theorem held_drew {w0 : World} {ns nt na nb : Nat} {S0 S1 S2 S3 T0 T1 T2 T3 A0 A1 A2 A3 B0 B1 B2 B3 : Int} {W : World} (h : Held w0 ns nt na nb S0 S1 S2 S3 T0 T1 T2 T3 A0 A1 A2 A3 B0 B1 B2 B3 W) : Held w0 ns nt na nb S0 S1 S2 S3 T0 T1 T2 T3 A0 A1 A2 A3 B0 B1 B2 B3 W.drew := by
  obtain ⟨h0, h1, h2, h3, h4, h5, h6, h7, h8, h9, h10, h11, h12, h13, h14, h15, h16⟩ := h
  exact ⟨h0, h1, h2, h3, h4, h5, h6, h7, h8, h9, h10, h11, h12, h13, h14, h15, Below.drew h16⟩
theorem held_drewN {w0 : World} {ns nt na nb : Nat} {S0 S1 S2 S3 T0 T1 T2 T3 A0 A1 A2 A3 B0 B1 B2 B3 : Int} {W : World} (n : Nat) (h : Held w0 ns nt na nb S0 S1 S2 S3 T0 T1 T2 T3 A0 A1 A2 A3 B0 B1 B2 B3 W) : Held w0 ns nt na nb S0 S1 S2 S3 T0 T1 T2 T3 A0 A1 A2 A3 B0 B1 B2 B3 (W.drewN n) := by
  obtain ⟨h0, h1, h2, h3, h4, h5, h6, h7, h8, h9, h10, h11, h12, h13, h14, h15, h16⟩ := h
  exact ⟨h0, h1, h2, h3, h4, h5, h6, h7, h8, h9, h10, h11, h12, h13, h14, h15, below_drewN h16 n⟩

set_option maxRecDepth 100000 in
set_option maxHeartbeats 40000000 in
theorem walk_s (M N J S0 S1 S2 S3 T0 T1 T2 T3 X0 X1 X2 X3 Y0 Y1 Y2 Y3 A0 A1 A2 A3 B0 B1 B2 B3 C0 C1 C2 C3 E0 E1 E2 E3 : Int) (PX PY PA PB L : Nat) (w1 : ∀ W, Calls Try.prog 13 #[.agg #[.int .u64 S0, .int .u64 S1, .int .u64 S2, .int .u64 S3], .int .i64 J, .bool true] W (Makes (.agg #[.int .u64 X0, .int .u64 X1, .int .u64 X2, .int .u64 X3]) W)) (w2 : ∀ W, Calls Try.prog 13 #[.agg #[.int .u64 S0, .int .u64 S1, .int .u64 S2, .int .u64 S3], .int .i64 J, .bool false] W (Makes (.agg #[.int .u64 Y0, .int .u64 Y1, .int .u64 Y2, .int .u64 Y3]) W)) (w3 : ∀ W, Calls Try.prog 13 #[.agg #[.int .u64 X0, .int .u64 X1, .int .u64 X2, .int .u64 X3], .int .i64 J, .bool false] W (Makes (.agg #[.int .u64 Y0, .int .u64 Y1, .int .u64 Y2, .int .u64 Y3]) W)) (g1 : ∀ W, Calls Try.prog 11 #[.agg #[.int .u64 X0, .int .u64 X1, .int .u64 X2, .int .u64 X3], .int .i64 J] W (Makes (.bool true) W)) (g2 : ∀ W, Calls Try.prog 11 #[.agg #[.int .u64 Y0, .int .u64 Y1, .int .u64 Y2, .int .u64 Y3], .int .i64 J] W (Makes (.bool false) W)) (k1 : ∀ W, Calls Try.prog 9 #[.agg #[.int .u64 X0, .int .u64 X1, .int .u64 X2, .int .u64 X3]] W (Makes (.int .i64 (PX : Int)) W)) (k2 : ∀ W, Calls Try.prog 9 #[.agg #[.int .u64 Y0, .int .u64 Y1, .int .u64 Y2, .int .u64 Y3]] W (Makes (.int .i64 (PY : Int)) W)) (k3 : ∀ W, Calls Try.prog 9 #[.agg #[.int .u64 A0, .int .u64 A1, .int .u64 A2, .int .u64 A3]] W (Makes (.int .i64 (PA : Int)) W)) (k4 : ∀ W, Calls Try.prog 9 #[.agg #[.int .u64 B0, .int .u64 B1, .int .u64 B2, .int .u64 B3]] W (Makes (.int .i64 (PB : Int)) W)) (k5 : ∀ W, Calls Try.prog 9 #[.agg #[.int .u64 S0, .int .u64 S1, .int .u64 S2, .int .u64 S3]] W (Makes (.int .i64 (L : Int)) W)) (o1 : ∀ W, Calls Try.prog 15 #[.agg #[.int .u64 S0, .int .u64 S1, .int .u64 S2, .int .u64 S3], .agg #[.int .u64 T0, .int .u64 T1, .int .u64 T2, .int .u64 T3]] W (Makes (.agg #[.int .u64 A0, .int .u64 A1, .int .u64 A2, .int .u64 A3]) W)) (o2 : ∀ W, Calls Try.prog 15 #[.agg #[.int .u64 S0, .int .u64 S1, .int .u64 S2, .int .u64 S3], .agg #[.int .u64 A0, .int .u64 A1, .int .u64 A2, .int .u64 A3]] W (Makes (.agg #[.int .u64 B0, .int .u64 B1, .int .u64 B2, .int .u64 B3]) W)) (o3 : ∀ W, Calls Try.prog 15 #[.agg #[.int .u64 A0, .int .u64 A1, .int .u64 A2, .int .u64 A3], .agg #[.int .u64 S0, .int .u64 S1, .int .u64 S2, .int .u64 S3]] W (Makes (.agg #[.int .u64 E0, .int .u64 E1, .int .u64 E2, .int .u64 E3]) W)) (o4 : ∀ W, Calls Try.prog 15 #[.agg #[.int .u64 A0, .int .u64 A1, .int .u64 A2, .int .u64 A3], .agg #[.int .u64 T0, .int .u64 T1, .int .u64 T2, .int .u64 T3]] W (Makes (.agg #[.int .u64 A0, .int .u64 A1, .int .u64 A2, .int .u64 A3]) W)) (a1 : ∀ W, Calls Try.prog 10 #[.agg #[.int .u64 E0, .int .u64 E1, .int .u64 E2, .int .u64 E3]] W (Makes (.bool false) W)) (v1 : ∀ W, Calls Try.prog 17 #[.int .i64 16, .int .i64 16] W (Makes (.agg #[.int .u64 C0, .int .u64 C1, .int .u64 C2, .int .u64 C3]) W)) (g6 : ∀ W, Calls Try.prog 11 #[.agg #[.int .u64 C0, .int .u64 C1, .int .u64 C2, .int .u64 C3], .int .i64 1] W (Makes (.bool true) W)) (l1 : ∀ W, Calls Try.prog 7 #[.agg #[.int .u64 S0, .int .u64 S1, .int .u64 S2, .int .u64 S3]] W (fun e W' => ∃ g cap, e = .returned (.slice (some ⟨g, 0, none⟩) L cap) ∧ Below W.heap.size W W')) (_hJ : bits .and .i64 M 255 = J) (_hK : bits .and .i64 N 255 = J) (_px : (PX : Int) - (PY : Int) = 1) (_px2 : PX ≤ 256) (_py2 : PY ≤ 256) (_pw : IntKind.i64.wrap ((PA : Int) + (PB : Int)) = (L : Int)) (w : World) :
    Calls Try.prog 6 #[.agg #[.int .u64 S0, .int .u64 S1, .int .u64 S2, .int .u64 S3], .agg #[.int .u64 T0, .int .u64 T1, .int .u64 T2, .int .u64 T3], .agg #[.int .i64 M, .int .i64 N]] w (Makes (.bool true) w) := by
  have Cw1 := hide w1
  have Cw2 := hide w2
  have Cw3 := hide w3
  have Cg1 := hide g1
  have Cg2 := hide g2
  have Ck1 := hide k1
  have Ck2 := hide k2
  have Ck3 := hide k3
  have Ck4 := hide k4
  have Ck5 := hide k5
  have Co1 := hide o1
  have Co2 := hide o2
  have Co3 := hide o3
  have Co4 := hide o4
  have Ca1 := hide a1
  have Cv1 := hide v1
  have Cg6 := hide g6
  have Cl1 := hide l1
  clear w1 w2 w3 g1 g2 k1 k2 k3 k4 k5 o1 o2 o3 o4 a1 v1 g6 l1
  have EIy : ∀ W, (Op.equalIn 10000 24 (.agg #[.int .u64 Y0, .int .u64 Y1, .int .u64 Y2, .int .u64 Y3]) (.agg #[.int .u64 Y0, .int .u64 Y1, .int .u64 Y2, .int .u64 Y3])).run Try.prog W = .ok true W := fun W => by
    rw [eqi_arr, decide_eq_true ⟨rfl, rfl, rfl, rfl⟩]
  have EEy : ∀ W, (binOp .eql 24 (.agg #[.int .u64 Y0, .int .u64 Y1, .int .u64 Y2, .int .u64 Y3]) (.agg #[.int .u64 Y0, .int .u64 Y1, .int .u64 Y2, .int .u64 Y3])).run Try.prog W = .ok (.bool true) W := fun W => by
    rw [run_eql_struct, EIy]
    rfl
  have NEy : ∀ W, (binOp .neq 24 (.agg #[.int .u64 Y0, .int .u64 Y1, .int .u64 Y2, .int .u64 Y3]) (.agg #[.int .u64 Y0, .int .u64 Y1, .int .u64 Y2, .int .u64 Y3])).run Try.prog W = .ok (.bool false) W := fun W => by
    rw [run_neq_struct, EIy]
    rfl
  have EIa : ∀ W, (Op.equalIn 10000 24 (.agg #[.int .u64 A0, .int .u64 A1, .int .u64 A2, .int .u64 A3]) (.agg #[.int .u64 A0, .int .u64 A1, .int .u64 A2, .int .u64 A3])).run Try.prog W = .ok true W := fun W => by
    rw [eqi_arr, decide_eq_true ⟨rfl, rfl, rfl, rfl⟩]
  have EEa : ∀ W, (binOp .eql 24 (.agg #[.int .u64 A0, .int .u64 A1, .int .u64 A2, .int .u64 A3]) (.agg #[.int .u64 A0, .int .u64 A1, .int .u64 A2, .int .u64 A3])).run Try.prog W = .ok (.bool true) W := fun W => by
    rw [run_eql_struct, EIa]
    rfl
  have NEa : ∀ W, (binOp .neq 24 (.agg #[.int .u64 A0, .int .u64 A1, .int .u64 A2, .int .u64 A3]) (.agg #[.int .u64 A0, .int .u64 A1, .int .u64 A2, .int .u64 A3])).run Try.prog W = .ok (.bool false) W := fun W => by
    rw [run_neq_struct, EIa]
    rfl
  have SS := cell_same
  have LB' := ltB_add
  have LS := ltB_self
  have LA' := alloc_reads
  have LH := alloc_holds
  go_enter Try.func6, Try.ntmps6
  go_upto_region 1 with fail
  go_quiet (fail)
  go_upto_region 4 with (first | (go_at_call 13; (with_reducible first | refine (Cw1.out _).mono ?_); rintro e wa ⟨rfl, hba⟩; have hra := below_reads hba; have hha := below_holds hba; obtain ⟨ma, hsa⟩ := below_grew hba) | (go_at_call 13; (with_reducible first | refine (Cw2.out _).mono ?_); rintro e wb ⟨rfl, hbb⟩; have hrb := below_reads hbb; have hhb := below_holds hbb; obtain ⟨mb, hsb⟩ := below_grew hbb))
  refine wp_abs (fun W => Below w.heap.size w W ∧ W.cell? ⟨w.heap.size, 0, none⟩ = some (.int .u64 S0) ∧ W.cell? ⟨w.heap.size, 1, none⟩ = some (.int .u64 S1) ∧ W.cell? ⟨w.heap.size, 2, none⟩ = some (.int .u64 S2) ∧ W.cell? ⟨w.heap.size, 3, none⟩ = some (.int .u64 S3) ∧ W.cell? ⟨w.heap.size + 1, 0, none⟩ = some (.int .u64 T0) ∧ W.cell? ⟨w.heap.size + 1, 1, none⟩ = some (.int .u64 T1) ∧ W.cell? ⟨w.heap.size + 1, 2, none⟩ = some (.int .u64 T2) ∧ W.cell? ⟨w.heap.size + 1, 3, none⟩ = some (.int .u64 T3) ∧ W.cell? ⟨w.heap.size + 1 + 1 + 1 + ma, 0, none⟩ = some (.int .u64 X0) ∧ W.cell? ⟨w.heap.size + 1 + 1 + 1 + ma, 1, none⟩ = some (.int .u64 X1) ∧ W.cell? ⟨w.heap.size + 1 + 1 + 1 + ma, 2, none⟩ = some (.int .u64 X2) ∧ W.cell? ⟨w.heap.size + 1 + 1 + 1 + ma, 3, none⟩ = some (.int .u64 X3) ∧ W.cell? ⟨w.heap.size + 1 + 1 + 1 + ma + 1 + mb, 0, none⟩ = some (.int .u64 Y0) ∧ W.cell? ⟨w.heap.size + 1 + 1 + 1 + ma + 1 + mb, 1, none⟩ = some (.int .u64 Y1) ∧ W.cell? ⟨w.heap.size + 1 + 1 + 1 + ma + 1 + mb, 2, none⟩ = some (.int .u64 Y2) ∧ W.cell? ⟨w.heap.size + 1 + 1 + 1 + ma + 1 + mb, 3, none⟩ = some (.int .u64 Y3)) ?_ ?_
  · refine ⟨?_, ?_, ?_, ?_, ?_, ?_, ?_, ?_, ?_, ?_, ?_, ?_, ?_, ?_, ?_, ?_, ?_⟩
    all_goals (first | with_reducible assumption | ((repeat (first | with_reducible assumption | with_reducible refine c_dr _ ?_ | with_reducible refine c_d1 ?_ | with_reducible refine c_al _ ?_ | (with_reducible refine c_set ?_ ?_; focus (dsimp only; omega)) | (with_reducible apply c_be; with_reducible assumption))); done) | ((repeat (first | with_reducible assumption | with_reducible refine o_dr _ ?_ | with_reducible refine o_d1 ?_ | with_reducible refine o_set ?_ | (with_reducible refine o_new ?_ ?_; (focus (simp)); (focus (simp))) | with_reducible refine o_al _ ?_ | (with_reducible apply o_be; with_reducible assumption))); done) | ((repeat (first | with_reducible assumption | with_reducible exact Below.refl _ _ | with_reducible refine Below.drew ?_ | with_reducible refine below_drewN ?_ _ | with_reducible refine bw_alloc ?_ _ | (with_reducible refine bw_set ?_ ?_ _; focus (dsimp only; omega)) | (with_reducible apply bw_behind; with_reducible assumption))); done) | (simp [go_sem, *]; omega) | (simp (maxDischargeDepth := 4) [go_sem, *]; done))
  rintro w3 ⟨hB3, p0, p1, p2, p3, p4, p5, p6, p7, p8, p9, p10, p11, p12, p13, p14, p15⟩
  clear hra hha hsa hrb hhb hsb hba hbb
  generalize w.heap.size + 1 + 1 + 1 + ma + 1 + mb = n10 at *
  generalize w.heap.size + 1 + 1 + 1 + ma = n9 at *
  generalize w.heap.size + 1 = nt at *
  refine wp_abs (fun W => Below w3.heap.size w3 W ∧ W.cell? ⟨w.heap.size, 0, none⟩ = some (.int .u64 S0) ∧ W.cell? ⟨w.heap.size, 1, none⟩ = some (.int .u64 S1) ∧ W.cell? ⟨w.heap.size, 2, none⟩ = some (.int .u64 S2) ∧ W.cell? ⟨w.heap.size, 3, none⟩ = some (.int .u64 S3) ∧ W.cell? ⟨nt, 0, none⟩ = some (.int .u64 T0) ∧ W.cell? ⟨nt, 1, none⟩ = some (.int .u64 T1) ∧ W.cell? ⟨nt, 2, none⟩ = some (.int .u64 T2) ∧ W.cell? ⟨nt, 3, none⟩ = some (.int .u64 T3) ∧ W.cell? ⟨n9, 0, none⟩ = some (.int .u64 X0) ∧ W.cell? ⟨n9, 1, none⟩ = some (.int .u64 X1) ∧ W.cell? ⟨n9, 2, none⟩ = some (.int .u64 X2) ∧ W.cell? ⟨n9, 3, none⟩ = some (.int .u64 X3) ∧ W.cell? ⟨n10, 0, none⟩ = some (.int .u64 Y0) ∧ W.cell? ⟨n10, 1, none⟩ = some (.int .u64 Y1) ∧ W.cell? ⟨n10, 2, none⟩ = some (.int .u64 Y2) ∧ W.cell? ⟨n10, 3, none⟩ = some (.int .u64 Y3)) ?_ ?_
  · refine ⟨?_, ?_, ?_, ?_, ?_, ?_, ?_, ?_, ?_, ?_, ?_, ?_, ?_, ?_, ?_, ?_, ?_⟩
    all_goals (first | with_reducible assumption | ((repeat (first | with_reducible assumption | with_reducible refine c_dr _ ?_ | with_reducible refine c_d1 ?_ | with_reducible refine c_al _ ?_ | (with_reducible refine c_set ?_ ?_; focus (dsimp only; omega)) | (with_reducible apply c_be; with_reducible assumption))); done) | ((repeat (first | with_reducible assumption | with_reducible refine o_dr _ ?_ | with_reducible refine o_d1 ?_ | with_reducible refine o_set ?_ | (with_reducible refine o_new ?_ ?_; (focus (simp)); (focus (simp))) | with_reducible refine o_al _ ?_ | (with_reducible apply o_be; with_reducible assumption))); done) | ((repeat (first | with_reducible assumption | with_reducible exact Below.refl _ _ | with_reducible refine Below.drew ?_ | with_reducible refine below_drewN ?_ _ | with_reducible refine bw_alloc ?_ _ | (with_reducible refine bw_set ?_ ?_ _; focus (dsimp only; omega)) | (with_reducible apply bw_behind; with_reducible assumption))); done) | (simp [go_sem, *]; omega) | (simp (maxDischargeDepth := 4) [go_sem, *]; done))
  rintro w0r ⟨hB0r, cr0, cr1, cr2, cr3, cr4, cr5, cr6, cr7, cr8, cr9, cr10, cr11, cr12, cr13, cr14, cr15⟩
  have yr0 := behind_cell0 cr0
  have yr1 := behind_cell0 cr1
  have yr2 := behind_cell0 cr2
  have yr3 := behind_cell0 cr3
  have yr4 := behind_cell0 cr4
  have yr5 := behind_cell0 cr5
  have yr6 := behind_cell0 cr6
  have yr7 := behind_cell0 cr7
  have yr8 := behind_cell0 cr8
  have yr9 := behind_cell0 cr9
  have yr10 := behind_cell0 cr10
  have yr11 := behind_cell0 cr11
  have yr12 := behind_cell0 cr12
  have yr13 := behind_cell0 cr13
  have yr14 := behind_cell0 cr14
  have yr15 := behind_cell0 cr15
  have hsome := Behind.any w0r
  clear cr0 cr1 cr2 cr3 cr4 cr5 cr6 cr7 cr8 cr9 cr10 cr11 cr12 cr13 cr14 cr15
  refine wp_region_behind w0r (by kernel_rfl) (by kernel_rfl) (Below.refl _ _) ?_
  repeat (go_big_quiet_step (first | (go_at_call 11; with_reducible first | exact behind_one Cg1.out _ | exact behind_one Cg2.out _) | (go_at_call 9; with_reducible first | exact behind_one Ck1.out _ | exact behind_one Ck2.out _) | (go_at_call 13; with_reducible first | exact behind_one Cw3.out _)))
  refine wpQuiet_nil ?_
  rintro _ ⟨y, rfl⟩
  have hBy := bw_behind y.below hB0r
  have xr0 := yr0 y
  have xr1 := yr1 y
  have xr2 := yr2 y
  have xr3 := yr3 y
  have xr4 := yr4 y
  have xr5 := yr5 y
  have xr6 := yr6 y
  have xr7 := yr7 y
  have xr8 := yr8 y
  have xr9 := yr9 y
  have xr10 := yr10 y
  have xr11 := yr11 y
  have xr12 := yr12 y
  have xr13 := yr13 y
  have xr14 := yr14 y
  have xr15 := yr15 y
  clear hsome yr0 yr1 yr2 yr3 yr4 yr5 yr6 yr7 yr8 yr9 yr10 yr11 yr12 yr13 yr14 yr15
  obtain ⟨w1r, hw1⟩ : ∃ W, W = y.world := ⟨_, rfl⟩
  rw [← hw1] at hBy xr0 xr1 xr2 xr3 xr4 xr5 xr6 xr7 xr8 xr9 xr10 xr11 xr12 xr13 xr14 xr15 ⊢
  clear hw1 y hB0r
  obtain ⟨z, hz⟩ := below_grew hBy
  have l0 : ltB (w.heap.size) w3.heap.size = true := by unfold ltB; simpa using World.block_lt_of_cell? _ _ p0
  have m0 : w.heap.size < w3.heap.size := World.block_lt_of_cell? _ _ p0
  have l4 : ltB (nt) w3.heap.size = true := by unfold ltB; simpa using World.block_lt_of_cell? _ _ p4
  have m4 : nt < w3.heap.size := World.block_lt_of_cell? _ _ p4
  clear p0 p1 p2 p3 p4 p5 p6 p7 p8 p9 p10 p11 p12 p13 p14 p15
  clear xr8 xr9 xr10 xr11 xr12 xr13 xr14 xr15
  go_upto_region 8 with (first | (go_at_call 15; (with_reducible first | refine (Co1.out _).mono ?_); rintro e wc ⟨rfl, hbc⟩; have hrc := below_reads hbc; have hhc := below_holds hbc; obtain ⟨mc, hsc⟩ := below_grew hbc) | (go_at_call 15; (with_reducible first | refine (Co2.out _).mono ?_); rintro e wd ⟨rfl, hbd⟩; have hrd := below_reads hbd; have hhd := below_holds hbd; obtain ⟨md, hsd⟩ := below_grew hbd))
  refine wp_abs (fun W => Below w3.heap.size w3 W ∧ W.cell? ⟨w.heap.size, 0, none⟩ = some (.int .u64 S0) ∧ W.cell? ⟨w.heap.size, 1, none⟩ = some (.int .u64 S1) ∧ W.cell? ⟨w.heap.size, 2, none⟩ = some (.int .u64 S2) ∧ W.cell? ⟨w.heap.size, 3, none⟩ = some (.int .u64 S3) ∧ W.cell? ⟨nt, 0, none⟩ = some (.int .u64 T0) ∧ W.cell? ⟨nt, 1, none⟩ = some (.int .u64 T1) ∧ W.cell? ⟨nt, 2, none⟩ = some (.int .u64 T2) ∧ W.cell? ⟨nt, 3, none⟩ = some (.int .u64 T3) ∧ W.cell? ⟨w3.heap.size + z + mc, 0, none⟩ = some (.int .u64 A0) ∧ W.cell? ⟨w3.heap.size + z + mc, 1, none⟩ = some (.int .u64 A1) ∧ W.cell? ⟨w3.heap.size + z + mc, 2, none⟩ = some (.int .u64 A2) ∧ W.cell? ⟨w3.heap.size + z + mc, 3, none⟩ = some (.int .u64 A3) ∧ W.cell? ⟨w3.heap.size + z + mc + 1 + md, 0, none⟩ = some (.int .u64 B0) ∧ W.cell? ⟨w3.heap.size + z + mc + 1 + md, 1, none⟩ = some (.int .u64 B1) ∧ W.cell? ⟨w3.heap.size + z + mc + 1 + md, 2, none⟩ = some (.int .u64 B2) ∧ W.cell? ⟨w3.heap.size + z + mc + 1 + md, 3, none⟩ = some (.int .u64 B3)) ?_ ?_
  · refine ⟨?_, ?_, ?_, ?_, ?_, ?_, ?_, ?_, ?_, ?_, ?_, ?_, ?_, ?_, ?_, ?_, ?_⟩
    all_goals (first | with_reducible assumption | ((repeat (first | with_reducible assumption | with_reducible refine c_dr _ ?_ | with_reducible refine c_d1 ?_ | with_reducible refine c_al _ ?_ | (with_reducible refine c_set ?_ ?_; focus (dsimp only; omega)) | (with_reducible apply c_be; with_reducible assumption))); done) | ((repeat (first | with_reducible assumption | with_reducible refine o_dr _ ?_ | with_reducible refine o_d1 ?_ | with_reducible refine o_set ?_ | (with_reducible refine o_new ?_ ?_; (focus (simp)); (focus (simp))) | with_reducible refine o_al _ ?_ | (with_reducible apply o_be; with_reducible assumption))); done) | ((repeat (first | with_reducible assumption | with_reducible exact Below.refl _ _ | with_reducible refine Below.drew ?_ | with_reducible refine below_drewN ?_ _ | with_reducible refine bw_alloc ?_ _ | (with_reducible refine bw_set ?_ ?_ _; focus (dsimp only; omega)) | (with_reducible apply bw_behind; with_reducible assumption))); done) | (simp [go_sem, *]; omega) | (simp (maxDischargeDepth := 4) [go_sem, *]; done))
  rintro w5 ⟨hB5, q0, q1, q2, q3, q4, q5, q6, q7, q8, q9, q10, q11, q12, q13, q14, q15⟩
  clear hrc hhc hsc hrd hhd hsd hbc hbd
  generalize w3.heap.size + z + mc + 1 + md = nb at *
  generalize w3.heap.size + z + mc = na at *
  have HH : Hid (Held w5 w.heap.size nt na nb S0 S1 S2 S3 T0 T1 T2 T3 A0 A1 A2 A3 B0 B1 B2 B3 w5) := hide ⟨q0, q1, q2, q3, q4, q5, q6, q7, q8, q9, q10, q11, q12, q13, q14, q15, Below.refl _ _⟩
  have HB : Hid (Below w.heap.size w w5) := hide (bw_behind hB5 hB3)
  clear q0 q1 q2 q3 q4 q5 q6 q7 q8 q9 q10 q11 q12 q13 q14 q15 hB5 hB3 hBy hz l0 l4 m0 m4 xr0 xr1 xr2 xr3 xr4 xr5 xr6 xr7
  go_region_held3 (fun w' => w'.cell? ⟨w.heap.size, 0, none⟩ = some (.int .u64 S0) ∧ w'.cell? ⟨w.heap.size, 1, none⟩ = some (.int .u64 S1) ∧ w'.cell? ⟨w.heap.size, 2, none⟩ = some (.int .u64 S2) ∧ w'.cell? ⟨w.heap.size, 3, none⟩ = some (.int .u64 S3) ∧ w'.cell? ⟨nt, 0, none⟩ = some (.int .u64 T0) ∧ w'.cell? ⟨nt, 1, none⟩ = some (.int .u64 T1) ∧ w'.cell? ⟨nt, 2, none⟩ = some (.int .u64 T2) ∧ w'.cell? ⟨nt, 3, none⟩ = some (.int .u64 T3) ∧ w'.cell? ⟨na, 0, none⟩ = some (.int .u64 A0) ∧ w'.cell? ⟨na, 1, none⟩ = some (.int .u64 A1) ∧ w'.cell? ⟨na, 2, none⟩ = some (.int .u64 A2) ∧ w'.cell? ⟨na, 3, none⟩ = some (.int .u64 A3) ∧ w'.cell? ⟨nb, 0, none⟩ = some (.int .u64 B0) ∧ w'.cell? ⟨nb, 1, none⟩ = some (.int .u64 B1) ∧ w'.cell? ⟨nb, 2, none⟩ = some (.int .u64 B2) ∧ w'.cell? ⟨nb, 3, none⟩ = some (.int .u64 B3) ∧ Below w5.heap.size w5 w')
    (first | assumption | exact HH.out | exact held_drew HH.out | exact held_drewN _ HH.out | exact held_step (by assumption) (by assumption))
    (first | (go_at_call 9; (with_reducible first | refine (Ck3.out _).mono ?_ | refine (Ck4.out _).mono ?_ | refine (Ck5.out _).mono ?_); rintro e w' ⟨rfl, hb⟩) | (go_at_call 15; (with_reducible first | refine (Co3.out _).mono ?_ | refine (Co4.out _).mono ?_); rintro e w' ⟨rfl, hb⟩) | (go_at_call 10; (with_reducible first | refine (Ca1.out _).mono ?_); rintro e w' ⟨rfl, hb⟩) | (go_at_call 7; (with_reducible refine (Cl1.out _).mono ?_); rintro e w' ⟨g, cap, rfl, hb⟩) | (go_at_call 17; (with_reducible first | refine (Cv1.out _).mono ?_); rintro e w' ⟨rfl, hb⟩) | (go_at_call 11; (with_reducible first | refine (Cg6.out _).mono ?_); rintro e w' ⟨rfl, hb⟩))
  all_goals
    go_wp2
    refine bodyPost_ret (v := .bool true) (by simp (maxDischargeDepth := 4) [results, Try.results6, go_sem, *]) rfl ?_
    exact ⟨rfl, bw_behind (by assumption : Held w5 w.heap.size nt na nb S0 S1 S2 S3 T0 T1 T2 T3 A0 A1 A2 A3 B0 B1 B2 B3 _).2.2.2.2.2.2.2.2.2.2.2.2.2.2.2.2 HB.out⟩

set_option maxRecDepth 100000 in
set_option maxHeartbeats 40000000 in
theorem walk_t (M N J K S0 S1 S2 S3 T0 T1 T2 T3 X0 X1 X2 X3 Y0 Y1 Y2 Y3 A0 A1 A2 A3 B0 B1 B2 B3 C0 C1 C2 C3 E0 E1 E2 E3 : Int) (PX PY PA PB L : Nat) (w1 : ∀ W, Calls Try.prog 13 #[.agg #[.int .u64 S0, .int .u64 S1, .int .u64 S2, .int .u64 S3], .int .i64 J, .bool true] W (Makes (.agg #[.int .u64 X0, .int .u64 X1, .int .u64 X2, .int .u64 X3]) W)) (w2 : ∀ W, Calls Try.prog 13 #[.agg #[.int .u64 S0, .int .u64 S1, .int .u64 S2, .int .u64 S3], .int .i64 J, .bool false] W (Makes (.agg #[.int .u64 Y0, .int .u64 Y1, .int .u64 Y2, .int .u64 Y3]) W)) (w3 : ∀ W, Calls Try.prog 13 #[.agg #[.int .u64 X0, .int .u64 X1, .int .u64 X2, .int .u64 X3], .int .i64 J, .bool false] W (Makes (.agg #[.int .u64 Y0, .int .u64 Y1, .int .u64 Y2, .int .u64 Y3]) W)) (g1 : ∀ W, Calls Try.prog 11 #[.agg #[.int .u64 X0, .int .u64 X1, .int .u64 X2, .int .u64 X3], .int .i64 J] W (Makes (.bool true) W)) (g2 : ∀ W, Calls Try.prog 11 #[.agg #[.int .u64 Y0, .int .u64 Y1, .int .u64 Y2, .int .u64 Y3], .int .i64 J] W (Makes (.bool false) W)) (g3 : ∀ W, Calls Try.prog 11 #[.agg #[.int .u64 X0, .int .u64 X1, .int .u64 X2, .int .u64 X3], .int .i64 K] W (Makes (.bool true) W)) (g4 : ∀ W, Calls Try.prog 11 #[.agg #[.int .u64 Y0, .int .u64 Y1, .int .u64 Y2, .int .u64 Y3], .int .i64 K] W (Makes (.bool true) W)) (g5 : ∀ W, Calls Try.prog 11 #[.agg #[.int .u64 S0, .int .u64 S1, .int .u64 S2, .int .u64 S3], .int .i64 K] W (Makes (.bool true) W)) (k1 : ∀ W, Calls Try.prog 9 #[.agg #[.int .u64 X0, .int .u64 X1, .int .u64 X2, .int .u64 X3]] W (Makes (.int .i64 (PX : Int)) W)) (k2 : ∀ W, Calls Try.prog 9 #[.agg #[.int .u64 Y0, .int .u64 Y1, .int .u64 Y2, .int .u64 Y3]] W (Makes (.int .i64 (PY : Int)) W)) (k3 : ∀ W, Calls Try.prog 9 #[.agg #[.int .u64 A0, .int .u64 A1, .int .u64 A2, .int .u64 A3]] W (Makes (.int .i64 (PA : Int)) W)) (k4 : ∀ W, Calls Try.prog 9 #[.agg #[.int .u64 B0, .int .u64 B1, .int .u64 B2, .int .u64 B3]] W (Makes (.int .i64 (PB : Int)) W)) (k5 : ∀ W, Calls Try.prog 9 #[.agg #[.int .u64 S0, .int .u64 S1, .int .u64 S2, .int .u64 S3]] W (Makes (.int .i64 (L : Int)) W)) (o1 : ∀ W, Calls Try.prog 15 #[.agg #[.int .u64 S0, .int .u64 S1, .int .u64 S2, .int .u64 S3], .agg #[.int .u64 T0, .int .u64 T1, .int .u64 T2, .int .u64 T3]] W (Makes (.agg #[.int .u64 A0, .int .u64 A1, .int .u64 A2, .int .u64 A3]) W)) (o2 : ∀ W, Calls Try.prog 15 #[.agg #[.int .u64 S0, .int .u64 S1, .int .u64 S2, .int .u64 S3], .agg #[.int .u64 A0, .int .u64 A1, .int .u64 A2, .int .u64 A3]] W (Makes (.agg #[.int .u64 B0, .int .u64 B1, .int .u64 B2, .int .u64 B3]) W)) (o3 : ∀ W, Calls Try.prog 15 #[.agg #[.int .u64 A0, .int .u64 A1, .int .u64 A2, .int .u64 A3], .agg #[.int .u64 S0, .int .u64 S1, .int .u64 S2, .int .u64 S3]] W (Makes (.agg #[.int .u64 E0, .int .u64 E1, .int .u64 E2, .int .u64 E3]) W)) (o4 : ∀ W, Calls Try.prog 15 #[.agg #[.int .u64 A0, .int .u64 A1, .int .u64 A2, .int .u64 A3], .agg #[.int .u64 T0, .int .u64 T1, .int .u64 T2, .int .u64 T3]] W (Makes (.agg #[.int .u64 A0, .int .u64 A1, .int .u64 A2, .int .u64 A3]) W)) (a1 : ∀ W, Calls Try.prog 10 #[.agg #[.int .u64 E0, .int .u64 E1, .int .u64 E2, .int .u64 E3]] W (Makes (.bool false) W)) (v1 : ∀ W, Calls Try.prog 17 #[.int .i64 16, .int .i64 16] W (Makes (.agg #[.int .u64 C0, .int .u64 C1, .int .u64 C2, .int .u64 C3]) W)) (g6 : ∀ W, Calls Try.prog 11 #[.agg #[.int .u64 C0, .int .u64 C1, .int .u64 C2, .int .u64 C3], .int .i64 1] W (Makes (.bool true) W)) (l1 : ∀ W, Calls Try.prog 7 #[.agg #[.int .u64 S0, .int .u64 S1, .int .u64 S2, .int .u64 S3]] W (fun e W' => ∃ g cap, e = .returned (.slice (some ⟨g, 0, none⟩) L cap) ∧ Below W.heap.size W W')) (_hJ : bits .and .i64 M 255 = J) (_hK : bits .and .i64 N 255 = K) (_px : (PX : Int) - (PY : Int) = 1) (_px2 : PX ≤ 256) (_py2 : PY ≤ 256) (_pw : IntKind.i64.wrap ((PA : Int) + (PB : Int)) = (L : Int)) (_hjk : J ≠ K) (_hjb : (J == K) = false) (_hjn : (J != K) = true) (w : World) :
    Calls Try.prog 6 #[.agg #[.int .u64 S0, .int .u64 S1, .int .u64 S2, .int .u64 S3], .agg #[.int .u64 T0, .int .u64 T1, .int .u64 T2, .int .u64 T3], .agg #[.int .i64 M, .int .i64 N]] w (Makes (.bool true) w) := by
  have Cw1 := hide w1
  have Cw2 := hide w2
  have Cw3 := hide w3
  have Cg1 := hide g1
  have Cg2 := hide g2
  have Cg3 := hide g3
  have Cg4 := hide g4
  have Cg5 := hide g5
  have Ck1 := hide k1
  have Ck2 := hide k2
  have Ck3 := hide k3
  have Ck4 := hide k4
  have Ck5 := hide k5
  have Co1 := hide o1
  have Co2 := hide o2
  have Co3 := hide o3
  have Co4 := hide o4
  have Ca1 := hide a1
  have Cv1 := hide v1
  have Cg6 := hide g6
  have Cl1 := hide l1
  clear w1 w2 w3 g1 g2 g3 g4 g5 k1 k2 k3 k4 k5 o1 o2 o3 o4 a1 v1 g6 l1
  have EIy : ∀ W, (Op.equalIn 10000 24 (.agg #[.int .u64 Y0, .int .u64 Y1, .int .u64 Y2, .int .u64 Y3]) (.agg #[.int .u64 Y0, .int .u64 Y1, .int .u64 Y2, .int .u64 Y3])).run Try.prog W = .ok true W := fun W => by
    rw [eqi_arr, decide_eq_true ⟨rfl, rfl, rfl, rfl⟩]
  have EEy : ∀ W, (binOp .eql 24 (.agg #[.int .u64 Y0, .int .u64 Y1, .int .u64 Y2, .int .u64 Y3]) (.agg #[.int .u64 Y0, .int .u64 Y1, .int .u64 Y2, .int .u64 Y3])).run Try.prog W = .ok (.bool true) W := fun W => by
    rw [run_eql_struct, EIy]
    rfl
  have NEy : ∀ W, (binOp .neq 24 (.agg #[.int .u64 Y0, .int .u64 Y1, .int .u64 Y2, .int .u64 Y3]) (.agg #[.int .u64 Y0, .int .u64 Y1, .int .u64 Y2, .int .u64 Y3])).run Try.prog W = .ok (.bool false) W := fun W => by
    rw [run_neq_struct, EIy]
    rfl
  have EIa : ∀ W, (Op.equalIn 10000 24 (.agg #[.int .u64 A0, .int .u64 A1, .int .u64 A2, .int .u64 A3]) (.agg #[.int .u64 A0, .int .u64 A1, .int .u64 A2, .int .u64 A3])).run Try.prog W = .ok true W := fun W => by
    rw [eqi_arr, decide_eq_true ⟨rfl, rfl, rfl, rfl⟩]
  have EEa : ∀ W, (binOp .eql 24 (.agg #[.int .u64 A0, .int .u64 A1, .int .u64 A2, .int .u64 A3]) (.agg #[.int .u64 A0, .int .u64 A1, .int .u64 A2, .int .u64 A3])).run Try.prog W = .ok (.bool true) W := fun W => by
    rw [run_eql_struct, EIa]
    rfl
  have NEa : ∀ W, (binOp .neq 24 (.agg #[.int .u64 A0, .int .u64 A1, .int .u64 A2, .int .u64 A3]) (.agg #[.int .u64 A0, .int .u64 A1, .int .u64 A2, .int .u64 A3])).run Try.prog W = .ok (.bool false) W := fun W => by
    rw [run_neq_struct, EIa]
    rfl
  have SS := cell_same
  have LB' := ltB_add
  have LS := ltB_self
  have LA' := alloc_reads
  have LH := alloc_holds
  go_enter Try.func6, Try.ntmps6
  go_upto_region 1 with fail
  go_quiet (fail)
  go_upto_region 4 with (first | (go_at_call 13; (with_reducible first | refine (Cw1.out _).mono ?_); rintro e wa ⟨rfl, hba⟩; have hra := below_reads hba; have hha := below_holds hba; obtain ⟨ma, hsa⟩ := below_grew hba) | (go_at_call 13; (with_reducible first | refine (Cw2.out _).mono ?_); rintro e wb ⟨rfl, hbb⟩; have hrb := below_reads hbb; have hhb := below_holds hbb; obtain ⟨mb, hsb⟩ := below_grew hbb))
  refine wp_abs (fun W => Below w.heap.size w W ∧ W.cell? ⟨w.heap.size, 0, none⟩ = some (.int .u64 S0) ∧ W.cell? ⟨w.heap.size, 1, none⟩ = some (.int .u64 S1) ∧ W.cell? ⟨w.heap.size, 2, none⟩ = some (.int .u64 S2) ∧ W.cell? ⟨w.heap.size, 3, none⟩ = some (.int .u64 S3) ∧ W.cell? ⟨w.heap.size + 1, 0, none⟩ = some (.int .u64 T0) ∧ W.cell? ⟨w.heap.size + 1, 1, none⟩ = some (.int .u64 T1) ∧ W.cell? ⟨w.heap.size + 1, 2, none⟩ = some (.int .u64 T2) ∧ W.cell? ⟨w.heap.size + 1, 3, none⟩ = some (.int .u64 T3) ∧ W.cell? ⟨w.heap.size + 1 + 1 + 1 + ma, 0, none⟩ = some (.int .u64 X0) ∧ W.cell? ⟨w.heap.size + 1 + 1 + 1 + ma, 1, none⟩ = some (.int .u64 X1) ∧ W.cell? ⟨w.heap.size + 1 + 1 + 1 + ma, 2, none⟩ = some (.int .u64 X2) ∧ W.cell? ⟨w.heap.size + 1 + 1 + 1 + ma, 3, none⟩ = some (.int .u64 X3) ∧ W.cell? ⟨w.heap.size + 1 + 1 + 1 + ma + 1 + mb, 0, none⟩ = some (.int .u64 Y0) ∧ W.cell? ⟨w.heap.size + 1 + 1 + 1 + ma + 1 + mb, 1, none⟩ = some (.int .u64 Y1) ∧ W.cell? ⟨w.heap.size + 1 + 1 + 1 + ma + 1 + mb, 2, none⟩ = some (.int .u64 Y2) ∧ W.cell? ⟨w.heap.size + 1 + 1 + 1 + ma + 1 + mb, 3, none⟩ = some (.int .u64 Y3)) ?_ ?_
  · refine ⟨?_, ?_, ?_, ?_, ?_, ?_, ?_, ?_, ?_, ?_, ?_, ?_, ?_, ?_, ?_, ?_, ?_⟩
    all_goals (first | with_reducible assumption | ((repeat (first | with_reducible assumption | with_reducible refine c_dr _ ?_ | with_reducible refine c_d1 ?_ | with_reducible refine c_al _ ?_ | (with_reducible refine c_set ?_ ?_; focus (dsimp only; omega)) | (with_reducible apply c_be; with_reducible assumption))); done) | ((repeat (first | with_reducible assumption | with_reducible refine o_dr _ ?_ | with_reducible refine o_d1 ?_ | with_reducible refine o_set ?_ | (with_reducible refine o_new ?_ ?_; (focus (simp)); (focus (simp))) | with_reducible refine o_al _ ?_ | (with_reducible apply o_be; with_reducible assumption))); done) | ((repeat (first | with_reducible assumption | with_reducible exact Below.refl _ _ | with_reducible refine Below.drew ?_ | with_reducible refine below_drewN ?_ _ | with_reducible refine bw_alloc ?_ _ | (with_reducible refine bw_set ?_ ?_ _; focus (dsimp only; omega)) | (with_reducible apply bw_behind; with_reducible assumption))); done) | (simp [go_sem, *]; omega) | (simp (maxDischargeDepth := 4) [go_sem, *]; done))
  rintro w3 ⟨hB3, p0, p1, p2, p3, p4, p5, p6, p7, p8, p9, p10, p11, p12, p13, p14, p15⟩
  clear hra hha hsa hrb hhb hsb hba hbb
  generalize w.heap.size + 1 + 1 + 1 + ma + 1 + mb = n10 at *
  generalize w.heap.size + 1 + 1 + 1 + ma = n9 at *
  generalize w.heap.size + 1 = nt at *
  refine wp_abs (fun W => Below w3.heap.size w3 W ∧ W.cell? ⟨w.heap.size, 0, none⟩ = some (.int .u64 S0) ∧ W.cell? ⟨w.heap.size, 1, none⟩ = some (.int .u64 S1) ∧ W.cell? ⟨w.heap.size, 2, none⟩ = some (.int .u64 S2) ∧ W.cell? ⟨w.heap.size, 3, none⟩ = some (.int .u64 S3) ∧ W.cell? ⟨nt, 0, none⟩ = some (.int .u64 T0) ∧ W.cell? ⟨nt, 1, none⟩ = some (.int .u64 T1) ∧ W.cell? ⟨nt, 2, none⟩ = some (.int .u64 T2) ∧ W.cell? ⟨nt, 3, none⟩ = some (.int .u64 T3) ∧ W.cell? ⟨n9, 0, none⟩ = some (.int .u64 X0) ∧ W.cell? ⟨n9, 1, none⟩ = some (.int .u64 X1) ∧ W.cell? ⟨n9, 2, none⟩ = some (.int .u64 X2) ∧ W.cell? ⟨n9, 3, none⟩ = some (.int .u64 X3) ∧ W.cell? ⟨n10, 0, none⟩ = some (.int .u64 Y0) ∧ W.cell? ⟨n10, 1, none⟩ = some (.int .u64 Y1) ∧ W.cell? ⟨n10, 2, none⟩ = some (.int .u64 Y2) ∧ W.cell? ⟨n10, 3, none⟩ = some (.int .u64 Y3)) ?_ ?_
  · refine ⟨?_, ?_, ?_, ?_, ?_, ?_, ?_, ?_, ?_, ?_, ?_, ?_, ?_, ?_, ?_, ?_, ?_⟩
    all_goals (first | with_reducible assumption | ((repeat (first | with_reducible assumption | with_reducible refine c_dr _ ?_ | with_reducible refine c_d1 ?_ | with_reducible refine c_al _ ?_ | (with_reducible refine c_set ?_ ?_; focus (dsimp only; omega)) | (with_reducible apply c_be; with_reducible assumption))); done) | ((repeat (first | with_reducible assumption | with_reducible refine o_dr _ ?_ | with_reducible refine o_d1 ?_ | with_reducible refine o_set ?_ | (with_reducible refine o_new ?_ ?_; (focus (simp)); (focus (simp))) | with_reducible refine o_al _ ?_ | (with_reducible apply o_be; with_reducible assumption))); done) | ((repeat (first | with_reducible assumption | with_reducible exact Below.refl _ _ | with_reducible refine Below.drew ?_ | with_reducible refine below_drewN ?_ _ | with_reducible refine bw_alloc ?_ _ | (with_reducible refine bw_set ?_ ?_ _; focus (dsimp only; omega)) | (with_reducible apply bw_behind; with_reducible assumption))); done) | (simp [go_sem, *]; omega) | (simp (maxDischargeDepth := 4) [go_sem, *]; done))
  rintro w0r ⟨hB0r, cr0, cr1, cr2, cr3, cr4, cr5, cr6, cr7, cr8, cr9, cr10, cr11, cr12, cr13, cr14, cr15⟩
  have yr0 := behind_cell0 cr0
  have yr1 := behind_cell0 cr1
  have yr2 := behind_cell0 cr2
  have yr3 := behind_cell0 cr3
  have yr4 := behind_cell0 cr4
  have yr5 := behind_cell0 cr5
  have yr6 := behind_cell0 cr6
  have yr7 := behind_cell0 cr7
  have yr8 := behind_cell0 cr8
  have yr9 := behind_cell0 cr9
  have yr10 := behind_cell0 cr10
  have yr11 := behind_cell0 cr11
  have yr12 := behind_cell0 cr12
  have yr13 := behind_cell0 cr13
  have yr14 := behind_cell0 cr14
  have yr15 := behind_cell0 cr15
  have hsome := Behind.any w0r
  clear cr0 cr1 cr2 cr3 cr4 cr5 cr6 cr7 cr8 cr9 cr10 cr11 cr12 cr13 cr14 cr15
  refine wp_region_behind w0r (by kernel_rfl) (by kernel_rfl) (Below.refl _ _) ?_
  repeat (go_big_quiet_step (first | (go_at_call 11; with_reducible first | exact behind_one Cg1.out _ | exact behind_one Cg2.out _ | exact behind_one Cg3.out _ | exact behind_one Cg4.out _ | exact behind_one Cg5.out _) | (go_at_call 9; with_reducible first | exact behind_one Ck1.out _ | exact behind_one Ck2.out _) | (go_at_call 13; with_reducible first | exact behind_one Cw3.out _)))
  refine wpQuiet_nil ?_
  rintro _ ⟨y, rfl⟩
  have hBy := bw_behind y.below hB0r
  have xr0 := yr0 y
  have xr1 := yr1 y
  have xr2 := yr2 y
  have xr3 := yr3 y
  have xr4 := yr4 y
  have xr5 := yr5 y
  have xr6 := yr6 y
  have xr7 := yr7 y
  have xr8 := yr8 y
  have xr9 := yr9 y
  have xr10 := yr10 y
  have xr11 := yr11 y
  have xr12 := yr12 y
  have xr13 := yr13 y
  have xr14 := yr14 y
  have xr15 := yr15 y
  clear hsome yr0 yr1 yr2 yr3 yr4 yr5 yr6 yr7 yr8 yr9 yr10 yr11 yr12 yr13 yr14 yr15
  obtain ⟨w1r, hw1⟩ : ∃ W, W = y.world := ⟨_, rfl⟩
  rw [← hw1] at hBy xr0 xr1 xr2 xr3 xr4 xr5 xr6 xr7 xr8 xr9 xr10 xr11 xr12 xr13 xr14 xr15 ⊢
  clear hw1 y hB0r
  obtain ⟨z, hz⟩ := below_grew hBy
  have l0 : ltB (w.heap.size) w3.heap.size = true := by unfold ltB; simpa using World.block_lt_of_cell? _ _ p0
  have m0 : w.heap.size < w3.heap.size := World.block_lt_of_cell? _ _ p0
  have l4 : ltB (nt) w3.heap.size = true := by unfold ltB; simpa using World.block_lt_of_cell? _ _ p4
  have m4 : nt < w3.heap.size := World.block_lt_of_cell? _ _ p4
  clear p0 p1 p2 p3 p4 p5 p6 p7 p8 p9 p10 p11 p12 p13 p14 p15
  clear xr8 xr9 xr10 xr11 xr12 xr13 xr14 xr15
  go_upto_region 8 with (first | (go_at_call 15; (with_reducible first | refine (Co1.out _).mono ?_); rintro e wc ⟨rfl, hbc⟩; have hrc := below_reads hbc; have hhc := below_holds hbc; obtain ⟨mc, hsc⟩ := below_grew hbc) | (go_at_call 15; (with_reducible first | refine (Co2.out _).mono ?_); rintro e wd ⟨rfl, hbd⟩; have hrd := below_reads hbd; have hhd := below_holds hbd; obtain ⟨md, hsd⟩ := below_grew hbd))
  refine wp_abs (fun W => Below w3.heap.size w3 W ∧ W.cell? ⟨w.heap.size, 0, none⟩ = some (.int .u64 S0) ∧ W.cell? ⟨w.heap.size, 1, none⟩ = some (.int .u64 S1) ∧ W.cell? ⟨w.heap.size, 2, none⟩ = some (.int .u64 S2) ∧ W.cell? ⟨w.heap.size, 3, none⟩ = some (.int .u64 S3) ∧ W.cell? ⟨nt, 0, none⟩ = some (.int .u64 T0) ∧ W.cell? ⟨nt, 1, none⟩ = some (.int .u64 T1) ∧ W.cell? ⟨nt, 2, none⟩ = some (.int .u64 T2) ∧ W.cell? ⟨nt, 3, none⟩ = some (.int .u64 T3) ∧ W.cell? ⟨w3.heap.size + z + mc, 0, none⟩ = some (.int .u64 A0) ∧ W.cell? ⟨w3.heap.size + z + mc, 1, none⟩ = some (.int .u64 A1) ∧ W.cell? ⟨w3.heap.size + z + mc, 2, none⟩ = some (.int .u64 A2) ∧ W.cell? ⟨w3.heap.size + z + mc, 3, none⟩ = some (.int .u64 A3) ∧ W.cell? ⟨w3.heap.size + z + mc + 1 + md, 0, none⟩ = some (.int .u64 B0) ∧ W.cell? ⟨w3.heap.size + z + mc + 1 + md, 1, none⟩ = some (.int .u64 B1) ∧ W.cell? ⟨w3.heap.size + z + mc + 1 + md, 2, none⟩ = some (.int .u64 B2) ∧ W.cell? ⟨w3.heap.size + z + mc + 1 + md, 3, none⟩ = some (.int .u64 B3)) ?_ ?_
  · refine ⟨?_, ?_, ?_, ?_, ?_, ?_, ?_, ?_, ?_, ?_, ?_, ?_, ?_, ?_, ?_, ?_, ?_⟩
    all_goals (first | with_reducible assumption | ((repeat (first | with_reducible assumption | with_reducible refine c_dr _ ?_ | with_reducible refine c_d1 ?_ | with_reducible refine c_al _ ?_ | (with_reducible refine c_set ?_ ?_; focus (dsimp only; omega)) | (with_reducible apply c_be; with_reducible assumption))); done) | ((repeat (first | with_reducible assumption | with_reducible refine o_dr _ ?_ | with_reducible refine o_d1 ?_ | with_reducible refine o_set ?_ | (with_reducible refine o_new ?_ ?_; (focus (simp)); (focus (simp))) | with_reducible refine o_al _ ?_ | (with_reducible apply o_be; with_reducible assumption))); done) | ((repeat (first | with_reducible assumption | with_reducible exact Below.refl _ _ | with_reducible refine Below.drew ?_ | with_reducible refine below_drewN ?_ _ | with_reducible refine bw_alloc ?_ _ | (with_reducible refine bw_set ?_ ?_ _; focus (dsimp only; omega)) | (with_reducible apply bw_behind; with_reducible assumption))); done) | (simp [go_sem, *]; omega) | (simp (maxDischargeDepth := 4) [go_sem, *]; done))
  rintro w5 ⟨hB5, q0, q1, q2, q3, q4, q5, q6, q7, q8, q9, q10, q11, q12, q13, q14, q15⟩
  clear hrc hhc hsc hrd hhd hsd hbc hbd
  generalize w3.heap.size + z + mc + 1 + md = nb at *
  generalize w3.heap.size + z + mc = na at *
  have HH : Hid (Held w5 w.heap.size nt na nb S0 S1 S2 S3 T0 T1 T2 T3 A0 A1 A2 A3 B0 B1 B2 B3 w5) := hide ⟨q0, q1, q2, q3, q4, q5, q6, q7, q8, q9, q10, q11, q12, q13, q14, q15, Below.refl _ _⟩
  have HB : Hid (Below w.heap.size w w5) := hide (bw_behind hB5 hB3)
  clear q0 q1 q2 q3 q4 q5 q6 q7 q8 q9 q10 q11 q12 q13 q14 q15 hB5 hB3 hBy hz l0 l4 m0 m4 xr0 xr1 xr2 xr3 xr4 xr5 xr6 xr7
  go_region_held3 (fun w' => w'.cell? ⟨w.heap.size, 0, none⟩ = some (.int .u64 S0) ∧ w'.cell? ⟨w.heap.size, 1, none⟩ = some (.int .u64 S1) ∧ w'.cell? ⟨w.heap.size, 2, none⟩ = some (.int .u64 S2) ∧ w'.cell? ⟨w.heap.size, 3, none⟩ = some (.int .u64 S3) ∧ w'.cell? ⟨nt, 0, none⟩ = some (.int .u64 T0) ∧ w'.cell? ⟨nt, 1, none⟩ = some (.int .u64 T1) ∧ w'.cell? ⟨nt, 2, none⟩ = some (.int .u64 T2) ∧ w'.cell? ⟨nt, 3, none⟩ = some (.int .u64 T3) ∧ w'.cell? ⟨na, 0, none⟩ = some (.int .u64 A0) ∧ w'.cell? ⟨na, 1, none⟩ = some (.int .u64 A1) ∧ w'.cell? ⟨na, 2, none⟩ = some (.int .u64 A2) ∧ w'.cell? ⟨na, 3, none⟩ = some (.int .u64 A3) ∧ w'.cell? ⟨nb, 0, none⟩ = some (.int .u64 B0) ∧ w'.cell? ⟨nb, 1, none⟩ = some (.int .u64 B1) ∧ w'.cell? ⟨nb, 2, none⟩ = some (.int .u64 B2) ∧ w'.cell? ⟨nb, 3, none⟩ = some (.int .u64 B3) ∧ Below w5.heap.size w5 w')
    (first | assumption | exact HH.out | exact held_drew HH.out | exact held_drewN _ HH.out | exact held_step (by assumption) (by assumption))
    (first | (go_at_call 9; (with_reducible first | refine (Ck3.out _).mono ?_ | refine (Ck4.out _).mono ?_ | refine (Ck5.out _).mono ?_); rintro e w' ⟨rfl, hb⟩) | (go_at_call 15; (with_reducible first | refine (Co3.out _).mono ?_ | refine (Co4.out _).mono ?_); rintro e w' ⟨rfl, hb⟩) | (go_at_call 10; (with_reducible first | refine (Ca1.out _).mono ?_); rintro e w' ⟨rfl, hb⟩) | (go_at_call 7; (with_reducible refine (Cl1.out _).mono ?_); rintro e w' ⟨g, cap, rfl, hb⟩) | (go_at_call 17; (with_reducible first | refine (Cv1.out _).mono ?_); rintro e w' ⟨rfl, hb⟩) | (go_at_call 11; (with_reducible first | refine (Cg6.out _).mono ?_); rintro e w' ⟨rfl, hb⟩))
  all_goals
    go_wp2
    refine bodyPost_ret (v := .bool true) (by simp (maxDischargeDepth := 4) [results, Try.results6, go_sem, *]) rfl ?_
    exact ⟨rfl, bw_behind (by assumption : Held w5 w.heap.size nt na nb S0 S1 S2 S3 T0 T1 T2 T3 A0 A1 A2 A3 B0 B1 B2 B3 _).2.2.2.2.2.2.2.2.2.2.2.2.2.2.2.2 HB.out⟩

set_option maxRecDepth 100000 in
set_option maxHeartbeats 40000000 in
theorem walk_f (M N J K S0 S1 S2 S3 T0 T1 T2 T3 X0 X1 X2 X3 Y0 Y1 Y2 Y3 A0 A1 A2 A3 B0 B1 B2 B3 C0 C1 C2 C3 E0 E1 E2 E3 : Int) (PX PY PA PB L : Nat) (w1 : ∀ W, Calls Try.prog 13 #[.agg #[.int .u64 S0, .int .u64 S1, .int .u64 S2, .int .u64 S3], .int .i64 J, .bool true] W (Makes (.agg #[.int .u64 X0, .int .u64 X1, .int .u64 X2, .int .u64 X3]) W)) (w2 : ∀ W, Calls Try.prog 13 #[.agg #[.int .u64 S0, .int .u64 S1, .int .u64 S2, .int .u64 S3], .int .i64 J, .bool false] W (Makes (.agg #[.int .u64 Y0, .int .u64 Y1, .int .u64 Y2, .int .u64 Y3]) W)) (w3 : ∀ W, Calls Try.prog 13 #[.agg #[.int .u64 X0, .int .u64 X1, .int .u64 X2, .int .u64 X3], .int .i64 J, .bool false] W (Makes (.agg #[.int .u64 Y0, .int .u64 Y1, .int .u64 Y2, .int .u64 Y3]) W)) (g1 : ∀ W, Calls Try.prog 11 #[.agg #[.int .u64 X0, .int .u64 X1, .int .u64 X2, .int .u64 X3], .int .i64 J] W (Makes (.bool true) W)) (g2 : ∀ W, Calls Try.prog 11 #[.agg #[.int .u64 Y0, .int .u64 Y1, .int .u64 Y2, .int .u64 Y3], .int .i64 J] W (Makes (.bool false) W)) (g3 : ∀ W, Calls Try.prog 11 #[.agg #[.int .u64 X0, .int .u64 X1, .int .u64 X2, .int .u64 X3], .int .i64 K] W (Makes (.bool false) W)) (g4 : ∀ W, Calls Try.prog 11 #[.agg #[.int .u64 Y0, .int .u64 Y1, .int .u64 Y2, .int .u64 Y3], .int .i64 K] W (Makes (.bool false) W)) (g5 : ∀ W, Calls Try.prog 11 #[.agg #[.int .u64 S0, .int .u64 S1, .int .u64 S2, .int .u64 S3], .int .i64 K] W (Makes (.bool false) W)) (k1 : ∀ W, Calls Try.prog 9 #[.agg #[.int .u64 X0, .int .u64 X1, .int .u64 X2, .int .u64 X3]] W (Makes (.int .i64 (PX : Int)) W)) (k2 : ∀ W, Calls Try.prog 9 #[.agg #[.int .u64 Y0, .int .u64 Y1, .int .u64 Y2, .int .u64 Y3]] W (Makes (.int .i64 (PY : Int)) W)) (k3 : ∀ W, Calls Try.prog 9 #[.agg #[.int .u64 A0, .int .u64 A1, .int .u64 A2, .int .u64 A3]] W (Makes (.int .i64 (PA : Int)) W)) (k4 : ∀ W, Calls Try.prog 9 #[.agg #[.int .u64 B0, .int .u64 B1, .int .u64 B2, .int .u64 B3]] W (Makes (.int .i64 (PB : Int)) W)) (k5 : ∀ W, Calls Try.prog 9 #[.agg #[.int .u64 S0, .int .u64 S1, .int .u64 S2, .int .u64 S3]] W (Makes (.int .i64 (L : Int)) W)) (o1 : ∀ W, Calls Try.prog 15 #[.agg #[.int .u64 S0, .int .u64 S1, .int .u64 S2, .int .u64 S3], .agg #[.int .u64 T0, .int .u64 T1, .int .u64 T2, .int .u64 T3]] W (Makes (.agg #[.int .u64 A0, .int .u64 A1, .int .u64 A2, .int .u64 A3]) W)) (o2 : ∀ W, Calls Try.prog 15 #[.agg #[.int .u64 S0, .int .u64 S1, .int .u64 S2, .int .u64 S3], .agg #[.int .u64 A0, .int .u64 A1, .int .u64 A2, .int .u64 A3]] W (Makes (.agg #[.int .u64 B0, .int .u64 B1, .int .u64 B2, .int .u64 B3]) W)) (o3 : ∀ W, Calls Try.prog 15 #[.agg #[.int .u64 A0, .int .u64 A1, .int .u64 A2, .int .u64 A3], .agg #[.int .u64 S0, .int .u64 S1, .int .u64 S2, .int .u64 S3]] W (Makes (.agg #[.int .u64 E0, .int .u64 E1, .int .u64 E2, .int .u64 E3]) W)) (o4 : ∀ W, Calls Try.prog 15 #[.agg #[.int .u64 A0, .int .u64 A1, .int .u64 A2, .int .u64 A3], .agg #[.int .u64 T0, .int .u64 T1, .int .u64 T2, .int .u64 T3]] W (Makes (.agg #[.int .u64 A0, .int .u64 A1, .int .u64 A2, .int .u64 A3]) W)) (a1 : ∀ W, Calls Try.prog 10 #[.agg #[.int .u64 E0, .int .u64 E1, .int .u64 E2, .int .u64 E3]] W (Makes (.bool false) W)) (v1 : ∀ W, Calls Try.prog 17 #[.int .i64 16, .int .i64 16] W (Makes (.agg #[.int .u64 C0, .int .u64 C1, .int .u64 C2, .int .u64 C3]) W)) (g6 : ∀ W, Calls Try.prog 11 #[.agg #[.int .u64 C0, .int .u64 C1, .int .u64 C2, .int .u64 C3], .int .i64 1] W (Makes (.bool true) W)) (l1 : ∀ W, Calls Try.prog 7 #[.agg #[.int .u64 S0, .int .u64 S1, .int .u64 S2, .int .u64 S3]] W (fun e W' => ∃ g cap, e = .returned (.slice (some ⟨g, 0, none⟩) L cap) ∧ Below W.heap.size W W')) (_hJ : bits .and .i64 M 255 = J) (_hK : bits .and .i64 N 255 = K) (_px : (PX : Int) - (PY : Int) = 1) (_px2 : PX ≤ 256) (_py2 : PY ≤ 256) (_pw : IntKind.i64.wrap ((PA : Int) + (PB : Int)) = (L : Int)) (_hjk : J ≠ K) (_hjb : (J == K) = false) (_hjn : (J != K) = true) (w : World) :
    Calls Try.prog 6 #[.agg #[.int .u64 S0, .int .u64 S1, .int .u64 S2, .int .u64 S3], .agg #[.int .u64 T0, .int .u64 T1, .int .u64 T2, .int .u64 T3], .agg #[.int .i64 M, .int .i64 N]] w (Makes (.bool true) w) := by
  have Cw1 := hide w1
  have Cw2 := hide w2
  have Cw3 := hide w3
  have Cg1 := hide g1
  have Cg2 := hide g2
  have Cg3 := hide g3
  have Cg4 := hide g4
  have Cg5 := hide g5
  have Ck1 := hide k1
  have Ck2 := hide k2
  have Ck3 := hide k3
  have Ck4 := hide k4
  have Ck5 := hide k5
  have Co1 := hide o1
  have Co2 := hide o2
  have Co3 := hide o3
  have Co4 := hide o4
  have Ca1 := hide a1
  have Cv1 := hide v1
  have Cg6 := hide g6
  have Cl1 := hide l1
  clear w1 w2 w3 g1 g2 g3 g4 g5 k1 k2 k3 k4 k5 o1 o2 o3 o4 a1 v1 g6 l1
  have EIy : ∀ W, (Op.equalIn 10000 24 (.agg #[.int .u64 Y0, .int .u64 Y1, .int .u64 Y2, .int .u64 Y3]) (.agg #[.int .u64 Y0, .int .u64 Y1, .int .u64 Y2, .int .u64 Y3])).run Try.prog W = .ok true W := fun W => by
    rw [eqi_arr, decide_eq_true ⟨rfl, rfl, rfl, rfl⟩]
  have EEy : ∀ W, (binOp .eql 24 (.agg #[.int .u64 Y0, .int .u64 Y1, .int .u64 Y2, .int .u64 Y3]) (.agg #[.int .u64 Y0, .int .u64 Y1, .int .u64 Y2, .int .u64 Y3])).run Try.prog W = .ok (.bool true) W := fun W => by
    rw [run_eql_struct, EIy]
    rfl
  have NEy : ∀ W, (binOp .neq 24 (.agg #[.int .u64 Y0, .int .u64 Y1, .int .u64 Y2, .int .u64 Y3]) (.agg #[.int .u64 Y0, .int .u64 Y1, .int .u64 Y2, .int .u64 Y3])).run Try.prog W = .ok (.bool false) W := fun W => by
    rw [run_neq_struct, EIy]
    rfl
  have EIa : ∀ W, (Op.equalIn 10000 24 (.agg #[.int .u64 A0, .int .u64 A1, .int .u64 A2, .int .u64 A3]) (.agg #[.int .u64 A0, .int .u64 A1, .int .u64 A2, .int .u64 A3])).run Try.prog W = .ok true W := fun W => by
    rw [eqi_arr, decide_eq_true ⟨rfl, rfl, rfl, rfl⟩]
  have EEa : ∀ W, (binOp .eql 24 (.agg #[.int .u64 A0, .int .u64 A1, .int .u64 A2, .int .u64 A3]) (.agg #[.int .u64 A0, .int .u64 A1, .int .u64 A2, .int .u64 A3])).run Try.prog W = .ok (.bool true) W := fun W => by
    rw [run_eql_struct, EIa]
    rfl
  have NEa : ∀ W, (binOp .neq 24 (.agg #[.int .u64 A0, .int .u64 A1, .int .u64 A2, .int .u64 A3]) (.agg #[.int .u64 A0, .int .u64 A1, .int .u64 A2, .int .u64 A3])).run Try.prog W = .ok (.bool false) W := fun W => by
    rw [run_neq_struct, EIa]
    rfl
  have SS := cell_same
  have LB' := ltB_add
  have LS := ltB_self
  have LA' := alloc_reads
  have LH := alloc_holds
  go_enter Try.func6, Try.ntmps6
  go_upto_region 1 with fail
  go_quiet (fail)
  go_upto_region 4 with (first | (go_at_call 13; (with_reducible first | refine (Cw1.out _).mono ?_); rintro e wa ⟨rfl, hba⟩; have hra := below_reads hba; have hha := below_holds hba; obtain ⟨ma, hsa⟩ := below_grew hba) | (go_at_call 13; (with_reducible first | refine (Cw2.out _).mono ?_); rintro e wb ⟨rfl, hbb⟩; have hrb := below_reads hbb; have hhb := below_holds hbb; obtain ⟨mb, hsb⟩ := below_grew hbb))
  refine wp_abs (fun W => Below w.heap.size w W ∧ W.cell? ⟨w.heap.size, 0, none⟩ = some (.int .u64 S0) ∧ W.cell? ⟨w.heap.size, 1, none⟩ = some (.int .u64 S1) ∧ W.cell? ⟨w.heap.size, 2, none⟩ = some (.int .u64 S2) ∧ W.cell? ⟨w.heap.size, 3, none⟩ = some (.int .u64 S3) ∧ W.cell? ⟨w.heap.size + 1, 0, none⟩ = some (.int .u64 T0) ∧ W.cell? ⟨w.heap.size + 1, 1, none⟩ = some (.int .u64 T1) ∧ W.cell? ⟨w.heap.size + 1, 2, none⟩ = some (.int .u64 T2) ∧ W.cell? ⟨w.heap.size + 1, 3, none⟩ = some (.int .u64 T3) ∧ W.cell? ⟨w.heap.size + 1 + 1 + 1 + ma, 0, none⟩ = some (.int .u64 X0) ∧ W.cell? ⟨w.heap.size + 1 + 1 + 1 + ma, 1, none⟩ = some (.int .u64 X1) ∧ W.cell? ⟨w.heap.size + 1 + 1 + 1 + ma, 2, none⟩ = some (.int .u64 X2) ∧ W.cell? ⟨w.heap.size + 1 + 1 + 1 + ma, 3, none⟩ = some (.int .u64 X3) ∧ W.cell? ⟨w.heap.size + 1 + 1 + 1 + ma + 1 + mb, 0, none⟩ = some (.int .u64 Y0) ∧ W.cell? ⟨w.heap.size + 1 + 1 + 1 + ma + 1 + mb, 1, none⟩ = some (.int .u64 Y1) ∧ W.cell? ⟨w.heap.size + 1 + 1 + 1 + ma + 1 + mb, 2, none⟩ = some (.int .u64 Y2) ∧ W.cell? ⟨w.heap.size + 1 + 1 + 1 + ma + 1 + mb, 3, none⟩ = some (.int .u64 Y3)) ?_ ?_
  · refine ⟨?_, ?_, ?_, ?_, ?_, ?_, ?_, ?_, ?_, ?_, ?_, ?_, ?_, ?_, ?_, ?_, ?_⟩
    all_goals (first | with_reducible assumption | ((repeat (first | with_reducible assumption | with_reducible refine c_dr _ ?_ | with_reducible refine c_d1 ?_ | with_reducible refine c_al _ ?_ | (with_reducible refine c_set ?_ ?_; focus (dsimp only; omega)) | (with_reducible apply c_be; with_reducible assumption))); done) | ((repeat (first | with_reducible assumption | with_reducible refine o_dr _ ?_ | with_reducible refine o_d1 ?_ | with_reducible refine o_set ?_ | (with_reducible refine o_new ?_ ?_; (focus (simp)); (focus (simp))) | with_reducible refine o_al _ ?_ | (with_reducible apply o_be; with_reducible assumption))); done) | ((repeat (first | with_reducible assumption | with_reducible exact Below.refl _ _ | with_reducible refine Below.drew ?_ | with_reducible refine below_drewN ?_ _ | with_reducible refine bw_alloc ?_ _ | (with_reducible refine bw_set ?_ ?_ _; focus (dsimp only; omega)) | (with_reducible apply bw_behind; with_reducible assumption))); done) | (simp [go_sem, *]; omega) | (simp (maxDischargeDepth := 4) [go_sem, *]; done))
  rintro w3 ⟨hB3, p0, p1, p2, p3, p4, p5, p6, p7, p8, p9, p10, p11, p12, p13, p14, p15⟩
  clear hra hha hsa hrb hhb hsb hba hbb
  generalize w.heap.size + 1 + 1 + 1 + ma + 1 + mb = n10 at *
  generalize w.heap.size + 1 + 1 + 1 + ma = n9 at *
  generalize w.heap.size + 1 = nt at *
  refine wp_abs (fun W => Below w3.heap.size w3 W ∧ W.cell? ⟨w.heap.size, 0, none⟩ = some (.int .u64 S0) ∧ W.cell? ⟨w.heap.size, 1, none⟩ = some (.int .u64 S1) ∧ W.cell? ⟨w.heap.size, 2, none⟩ = some (.int .u64 S2) ∧ W.cell? ⟨w.heap.size, 3, none⟩ = some (.int .u64 S3) ∧ W.cell? ⟨nt, 0, none⟩ = some (.int .u64 T0) ∧ W.cell? ⟨nt, 1, none⟩ = some (.int .u64 T1) ∧ W.cell? ⟨nt, 2, none⟩ = some (.int .u64 T2) ∧ W.cell? ⟨nt, 3, none⟩ = some (.int .u64 T3) ∧ W.cell? ⟨n9, 0, none⟩ = some (.int .u64 X0) ∧ W.cell? ⟨n9, 1, none⟩ = some (.int .u64 X1) ∧ W.cell? ⟨n9, 2, none⟩ = some (.int .u64 X2) ∧ W.cell? ⟨n9, 3, none⟩ = some (.int .u64 X3) ∧ W.cell? ⟨n10, 0, none⟩ = some (.int .u64 Y0) ∧ W.cell? ⟨n10, 1, none⟩ = some (.int .u64 Y1) ∧ W.cell? ⟨n10, 2, none⟩ = some (.int .u64 Y2) ∧ W.cell? ⟨n10, 3, none⟩ = some (.int .u64 Y3)) ?_ ?_
  · refine ⟨?_, ?_, ?_, ?_, ?_, ?_, ?_, ?_, ?_, ?_, ?_, ?_, ?_, ?_, ?_, ?_, ?_⟩
    all_goals (first | with_reducible assumption | ((repeat (first | with_reducible assumption | with_reducible refine c_dr _ ?_ | with_reducible refine c_d1 ?_ | with_reducible refine c_al _ ?_ | (with_reducible refine c_set ?_ ?_; focus (dsimp only; omega)) | (with_reducible apply c_be; with_reducible assumption))); done) | ((repeat (first | with_reducible assumption | with_reducible refine o_dr _ ?_ | with_reducible refine o_d1 ?_ | with_reducible refine o_set ?_ | (with_reducible refine o_new ?_ ?_; (focus (simp)); (focus (simp))) | with_reducible refine o_al _ ?_ | (with_reducible apply o_be; with_reducible assumption))); done) | ((repeat (first | with_reducible assumption | with_reducible exact Below.refl _ _ | with_reducible refine Below.drew ?_ | with_reducible refine below_drewN ?_ _ | with_reducible refine bw_alloc ?_ _ | (with_reducible refine bw_set ?_ ?_ _; focus (dsimp only; omega)) | (with_reducible apply bw_behind; with_reducible assumption))); done) | (simp [go_sem, *]; omega) | (simp (maxDischargeDepth := 4) [go_sem, *]; done))
  rintro w0r ⟨hB0r, cr0, cr1, cr2, cr3, cr4, cr5, cr6, cr7, cr8, cr9, cr10, cr11, cr12, cr13, cr14, cr15⟩
  have yr0 := behind_cell0 cr0
  have yr1 := behind_cell0 cr1
  have yr2 := behind_cell0 cr2
  have yr3 := behind_cell0 cr3
  have yr4 := behind_cell0 cr4
  have yr5 := behind_cell0 cr5
  have yr6 := behind_cell0 cr6
  have yr7 := behind_cell0 cr7
  have yr8 := behind_cell0 cr8
  have yr9 := behind_cell0 cr9
  have yr10 := behind_cell0 cr10
  have yr11 := behind_cell0 cr11
  have yr12 := behind_cell0 cr12
  have yr13 := behind_cell0 cr13
  have yr14 := behind_cell0 cr14
  have yr15 := behind_cell0 cr15
  have hsome := Behind.any w0r
  clear cr0 cr1 cr2 cr3 cr4 cr5 cr6 cr7 cr8 cr9 cr10 cr11 cr12 cr13 cr14 cr15
  refine wp_region_behind w0r (by kernel_rfl) (by kernel_rfl) (Below.refl _ _) ?_
  repeat (go_big_quiet_step (first | (go_at_call 11; with_reducible first | exact behind_one Cg1.out _ | exact behind_one Cg2.out _ | exact behind_one Cg3.out _ | exact behind_one Cg4.out _ | exact behind_one Cg5.out _) | (go_at_call 9; with_reducible first | exact behind_one Ck1.out _ | exact behind_one Ck2.out _) | (go_at_call 13; with_reducible first | exact behind_one Cw3.out _)))
  refine wpQuiet_nil ?_
  rintro _ ⟨y, rfl⟩
  have hBy := bw_behind y.below hB0r
  have xr0 := yr0 y
  have xr1 := yr1 y
  have xr2 := yr2 y
  have xr3 := yr3 y
  have xr4 := yr4 y
  have xr5 := yr5 y
  have xr6 := yr6 y
  have xr7 := yr7 y
  have xr8 := yr8 y
  have xr9 := yr9 y
  have xr10 := yr10 y
  have xr11 := yr11 y
  have xr12 := yr12 y
  have xr13 := yr13 y
  have xr14 := yr14 y
  have xr15 := yr15 y
  clear hsome yr0 yr1 yr2 yr3 yr4 yr5 yr6 yr7 yr8 yr9 yr10 yr11 yr12 yr13 yr14 yr15
  obtain ⟨w1r, hw1⟩ : ∃ W, W = y.world := ⟨_, rfl⟩
  rw [← hw1] at hBy xr0 xr1 xr2 xr3 xr4 xr5 xr6 xr7 xr8 xr9 xr10 xr11 xr12 xr13 xr14 xr15 ⊢
  clear hw1 y hB0r
  obtain ⟨z, hz⟩ := below_grew hBy
  have l0 : ltB (w.heap.size) w3.heap.size = true := by unfold ltB; simpa using World.block_lt_of_cell? _ _ p0
  have m0 : w.heap.size < w3.heap.size := World.block_lt_of_cell? _ _ p0
  have l4 : ltB (nt) w3.heap.size = true := by unfold ltB; simpa using World.block_lt_of_cell? _ _ p4
  have m4 : nt < w3.heap.size := World.block_lt_of_cell? _ _ p4
  clear p0 p1 p2 p3 p4 p5 p6 p7 p8 p9 p10 p11 p12 p13 p14 p15
  clear xr8 xr9 xr10 xr11 xr12 xr13 xr14 xr15
  go_upto_region 8 with (first | (go_at_call 15; (with_reducible first | refine (Co1.out _).mono ?_); rintro e wc ⟨rfl, hbc⟩; have hrc := below_reads hbc; have hhc := below_holds hbc; obtain ⟨mc, hsc⟩ := below_grew hbc) | (go_at_call 15; (with_reducible first | refine (Co2.out _).mono ?_); rintro e wd ⟨rfl, hbd⟩; have hrd := below_reads hbd; have hhd := below_holds hbd; obtain ⟨md, hsd⟩ := below_grew hbd))
  refine wp_abs (fun W => Below w3.heap.size w3 W ∧ W.cell? ⟨w.heap.size, 0, none⟩ = some (.int .u64 S0) ∧ W.cell? ⟨w.heap.size, 1, none⟩ = some (.int .u64 S1) ∧ W.cell? ⟨w.heap.size, 2, none⟩ = some (.int .u64 S2) ∧ W.cell? ⟨w.heap.size, 3, none⟩ = some (.int .u64 S3) ∧ W.cell? ⟨nt, 0, none⟩ = some (.int .u64 T0) ∧ W.cell? ⟨nt, 1, none⟩ = some (.int .u64 T1) ∧ W.cell? ⟨nt, 2, none⟩ = some (.int .u64 T2) ∧ W.cell? ⟨nt, 3, none⟩ = some (.int .u64 T3) ∧ W.cell? ⟨w3.heap.size + z + mc, 0, none⟩ = some (.int .u64 A0) ∧ W.cell? ⟨w3.heap.size + z + mc, 1, none⟩ = some (.int .u64 A1) ∧ W.cell? ⟨w3.heap.size + z + mc, 2, none⟩ = some (.int .u64 A2) ∧ W.cell? ⟨w3.heap.size + z + mc, 3, none⟩ = some (.int .u64 A3) ∧ W.cell? ⟨w3.heap.size + z + mc + 1 + md, 0, none⟩ = some (.int .u64 B0) ∧ W.cell? ⟨w3.heap.size + z + mc + 1 + md, 1, none⟩ = some (.int .u64 B1) ∧ W.cell? ⟨w3.heap.size + z + mc + 1 + md, 2, none⟩ = some (.int .u64 B2) ∧ W.cell? ⟨w3.heap.size + z + mc + 1 + md, 3, none⟩ = some (.int .u64 B3)) ?_ ?_
  · refine ⟨?_, ?_, ?_, ?_, ?_, ?_, ?_, ?_, ?_, ?_, ?_, ?_, ?_, ?_, ?_, ?_, ?_⟩
    all_goals (first | with_reducible assumption | ((repeat (first | with_reducible assumption | with_reducible refine c_dr _ ?_ | with_reducible refine c_d1 ?_ | with_reducible refine c_al _ ?_ | (with_reducible refine c_set ?_ ?_; focus (dsimp only; omega)) | (with_reducible apply c_be; with_reducible assumption))); done) | ((repeat (first | with_reducible assumption | with_reducible refine o_dr _ ?_ | with_reducible refine o_d1 ?_ | with_reducible refine o_set ?_ | (with_reducible refine o_new ?_ ?_; (focus (simp)); (focus (simp))) | with_reducible refine o_al _ ?_ | (with_reducible apply o_be; with_reducible assumption))); done) | ((repeat (first | with_reducible assumption | with_reducible exact Below.refl _ _ | with_reducible refine Below.drew ?_ | with_reducible refine below_drewN ?_ _ | with_reducible refine bw_alloc ?_ _ | (with_reducible refine bw_set ?_ ?_ _; focus (dsimp only; omega)) | (with_reducible apply bw_behind; with_reducible assumption))); done) | (simp [go_sem, *]; omega) | (simp (maxDischargeDepth := 4) [go_sem, *]; done))
  rintro w5 ⟨hB5, q0, q1, q2, q3, q4, q5, q6, q7, q8, q9, q10, q11, q12, q13, q14, q15⟩
  clear hrc hhc hsc hrd hhd hsd hbc hbd
  generalize w3.heap.size + z + mc + 1 + md = nb at *
  generalize w3.heap.size + z + mc = na at *
  have HH : Hid (Held w5 w.heap.size nt na nb S0 S1 S2 S3 T0 T1 T2 T3 A0 A1 A2 A3 B0 B1 B2 B3 w5) := hide ⟨q0, q1, q2, q3, q4, q5, q6, q7, q8, q9, q10, q11, q12, q13, q14, q15, Below.refl _ _⟩
  have HB : Hid (Below w.heap.size w w5) := hide (bw_behind hB5 hB3)
  clear q0 q1 q2 q3 q4 q5 q6 q7 q8 q9 q10 q11 q12 q13 q14 q15 hB5 hB3 hBy hz l0 l4 m0 m4 xr0 xr1 xr2 xr3 xr4 xr5 xr6 xr7
  go_region_held3 (fun w' => w'.cell? ⟨w.heap.size, 0, none⟩ = some (.int .u64 S0) ∧ w'.cell? ⟨w.heap.size, 1, none⟩ = some (.int .u64 S1) ∧ w'.cell? ⟨w.heap.size, 2, none⟩ = some (.int .u64 S2) ∧ w'.cell? ⟨w.heap.size, 3, none⟩ = some (.int .u64 S3) ∧ w'.cell? ⟨nt, 0, none⟩ = some (.int .u64 T0) ∧ w'.cell? ⟨nt, 1, none⟩ = some (.int .u64 T1) ∧ w'.cell? ⟨nt, 2, none⟩ = some (.int .u64 T2) ∧ w'.cell? ⟨nt, 3, none⟩ = some (.int .u64 T3) ∧ w'.cell? ⟨na, 0, none⟩ = some (.int .u64 A0) ∧ w'.cell? ⟨na, 1, none⟩ = some (.int .u64 A1) ∧ w'.cell? ⟨na, 2, none⟩ = some (.int .u64 A2) ∧ w'.cell? ⟨na, 3, none⟩ = some (.int .u64 A3) ∧ w'.cell? ⟨nb, 0, none⟩ = some (.int .u64 B0) ∧ w'.cell? ⟨nb, 1, none⟩ = some (.int .u64 B1) ∧ w'.cell? ⟨nb, 2, none⟩ = some (.int .u64 B2) ∧ w'.cell? ⟨nb, 3, none⟩ = some (.int .u64 B3) ∧ Below w5.heap.size w5 w')
    (first | assumption | exact HH.out | exact held_drew HH.out | exact held_drewN _ HH.out | exact held_step (by assumption) (by assumption))
    (first | (go_at_call 9; (with_reducible first | refine (Ck3.out _).mono ?_ | refine (Ck4.out _).mono ?_ | refine (Ck5.out _).mono ?_); rintro e w' ⟨rfl, hb⟩) | (go_at_call 15; (with_reducible first | refine (Co3.out _).mono ?_ | refine (Co4.out _).mono ?_); rintro e w' ⟨rfl, hb⟩) | (go_at_call 10; (with_reducible first | refine (Ca1.out _).mono ?_); rintro e w' ⟨rfl, hb⟩) | (go_at_call 7; (with_reducible refine (Cl1.out _).mono ?_); rintro e w' ⟨g, cap, rfl, hb⟩) | (go_at_call 17; (with_reducible first | refine (Cv1.out _).mono ?_); rintro e w' ⟨rfl, hb⟩) | (go_at_call 11; (with_reducible first | refine (Cg6.out _).mono ?_); rintro e w' ⟨rfl, hb⟩))
  all_goals
    go_wp2
    refine bodyPost_ret (v := .bool true) (by simp (maxDischargeDepth := 4) [results, Try.results6, go_sem, *]) rfl ?_
    exact ⟨rfl, bw_behind (by assumption : Held w5 w.heap.size nt na nb S0 S1 S2 S3 T0 T1 T2 T3 A0 A1 A2 A3 B0 B1 B2 B3 _).2.2.2.2.2.2.2.2.2.2.2.2.2.2.2.2 HB.out⟩

set_option maxRecDepth 100000 in
set_option maxHeartbeats 40000000 in
theorem walk_se (M N J S0 S1 S2 S3 T0 T1 T2 T3 X0 X1 X2 X3 Y0 Y1 Y2 Y3 A0 A1 A2 A3 B0 B1 B2 B3 C0 C1 C2 C3 E0 E1 E2 E3 : Int) (PX PY : Nat) (w1 : ∀ W, Calls Try.prog 13 #[.agg #[.int .u64 S0, .int .u64 S1, .int .u64 S2, .int .u64 S3], .int .i64 J, .bool true] W (Makes (.agg #[.int .u64 X0, .int .u64 X1, .int .u64 X2, .int .u64 X3]) W)) (w2 : ∀ W, Calls Try.prog 13 #[.agg #[.int .u64 S0, .int .u64 S1, .int .u64 S2, .int .u64 S3], .int .i64 J, .bool false] W (Makes (.agg #[.int .u64 Y0, .int .u64 Y1, .int .u64 Y2, .int .u64 Y3]) W)) (w3 : ∀ W, Calls Try.prog 13 #[.agg #[.int .u64 X0, .int .u64 X1, .int .u64 X2, .int .u64 X3], .int .i64 J, .bool false] W (Makes (.agg #[.int .u64 Y0, .int .u64 Y1, .int .u64 Y2, .int .u64 Y3]) W)) (g1 : ∀ W, Calls Try.prog 11 #[.agg #[.int .u64 X0, .int .u64 X1, .int .u64 X2, .int .u64 X3], .int .i64 J] W (Makes (.bool true) W)) (g2 : ∀ W, Calls Try.prog 11 #[.agg #[.int .u64 Y0, .int .u64 Y1, .int .u64 Y2, .int .u64 Y3], .int .i64 J] W (Makes (.bool false) W)) (k1 : ∀ W, Calls Try.prog 9 #[.agg #[.int .u64 X0, .int .u64 X1, .int .u64 X2, .int .u64 X3]] W (Makes (.int .i64 (PX : Int)) W)) (k2 : ∀ W, Calls Try.prog 9 #[.agg #[.int .u64 Y0, .int .u64 Y1, .int .u64 Y2, .int .u64 Y3]] W (Makes (.int .i64 (PY : Int)) W)) (k3 : ∀ W, Calls Try.prog 9 #[.agg #[.int .u64 A0, .int .u64 A1, .int .u64 A2, .int .u64 A3]] W (Makes (.int .i64 0) W)) (k4 : ∀ W, Calls Try.prog 9 #[.agg #[.int .u64 B0, .int .u64 B1, .int .u64 B2, .int .u64 B3]] W (Makes (.int .i64 0) W)) (k5 : ∀ W, Calls Try.prog 9 #[.agg #[.int .u64 S0, .int .u64 S1, .int .u64 S2, .int .u64 S3]] W (Makes (.int .i64 0) W)) (o1 : ∀ W, Calls Try.prog 15 #[.agg #[.int .u64 S0, .int .u64 S1, .int .u64 S2, .int .u64 S3], .agg #[.int .u64 T0, .int .u64 T1, .int .u64 T2, .int .u64 T3]] W (Makes (.agg #[.int .u64 A0, .int .u64 A1, .int .u64 A2, .int .u64 A3]) W)) (o2 : ∀ W, Calls Try.prog 15 #[.agg #[.int .u64 S0, .int .u64 S1, .int .u64 S2, .int .u64 S3], .agg #[.int .u64 A0, .int .u64 A1, .int .u64 A2, .int .u64 A3]] W (Makes (.agg #[.int .u64 B0, .int .u64 B1, .int .u64 B2, .int .u64 B3]) W)) (o3 : ∀ W, Calls Try.prog 15 #[.agg #[.int .u64 A0, .int .u64 A1, .int .u64 A2, .int .u64 A3], .agg #[.int .u64 S0, .int .u64 S1, .int .u64 S2, .int .u64 S3]] W (Makes (.agg #[.int .u64 E0, .int .u64 E1, .int .u64 E2, .int .u64 E3]) W)) (o4 : ∀ W, Calls Try.prog 15 #[.agg #[.int .u64 A0, .int .u64 A1, .int .u64 A2, .int .u64 A3], .agg #[.int .u64 T0, .int .u64 T1, .int .u64 T2, .int .u64 T3]] W (Makes (.agg #[.int .u64 A0, .int .u64 A1, .int .u64 A2, .int .u64 A3]) W)) (a1 : ∀ W, Calls Try.prog 10 #[.agg #[.int .u64 E0, .int .u64 E1, .int .u64 E2, .int .u64 E3]] W (Makes (.bool false) W)) (v1 : ∀ W, Calls Try.prog 17 #[.int .i64 16, .int .i64 16] W (Makes (.agg #[.int .u64 C0, .int .u64 C1, .int .u64 C2, .int .u64 C3]) W)) (g6 : ∀ W, Calls Try.prog 11 #[.agg #[.int .u64 C0, .int .u64 C1, .int .u64 C2, .int .u64 C3], .int .i64 1] W (Makes (.bool true) W)) (l1 : ∀ W, Calls Try.prog 7 #[.agg #[.int .u64 S0, .int .u64 S1, .int .u64 S2, .int .u64 S3]] W (Makes (.slice none 0 0) W)) (_hJ : bits .and .i64 M 255 = J) (_hK : bits .and .i64 N 255 = J) (_px : (PX : Int) - (PY : Int) = 1) (_px2 : PX ≤ 256) (_py2 : PY ≤ 256) (w : World) :
    Calls Try.prog 6 #[.agg #[.int .u64 S0, .int .u64 S1, .int .u64 S2, .int .u64 S3], .agg #[.int .u64 T0, .int .u64 T1, .int .u64 T2, .int .u64 T3], .agg #[.int .i64 M, .int .i64 N]] w (Makes (.bool true) w) := by
  have Cw1 := hide w1
  have Cw2 := hide w2
  have Cw3 := hide w3
  have Cg1 := hide g1
  have Cg2 := hide g2
  have Ck1 := hide k1
  have Ck2 := hide k2
  have Ck3 := hide k3
  have Ck4 := hide k4
  have Ck5 := hide k5
  have Co1 := hide o1
  have Co2 := hide o2
  have Co3 := hide o3
  have Co4 := hide o4
  have Ca1 := hide a1
  have Cv1 := hide v1
  have Cg6 := hide g6
  have Cl1 := hide l1
  clear w1 w2 w3 g1 g2 k1 k2 k3 k4 k5 o1 o2 o3 o4 a1 v1 g6 l1
  have EIy : ∀ W, (Op.equalIn 10000 24 (.agg #[.int .u64 Y0, .int .u64 Y1, .int .u64 Y2, .int .u64 Y3]) (.agg #[.int .u64 Y0, .int .u64 Y1, .int .u64 Y2, .int .u64 Y3])).run Try.prog W = .ok true W := fun W => by
    rw [eqi_arr, decide_eq_true ⟨rfl, rfl, rfl, rfl⟩]
  have EEy : ∀ W, (binOp .eql 24 (.agg #[.int .u64 Y0, .int .u64 Y1, .int .u64 Y2, .int .u64 Y3]) (.agg #[.int .u64 Y0, .int .u64 Y1, .int .u64 Y2, .int .u64 Y3])).run Try.prog W = .ok (.bool true) W := fun W => by
    rw [run_eql_struct, EIy]
    rfl
  have NEy : ∀ W, (binOp .neq 24 (.agg #[.int .u64 Y0, .int .u64 Y1, .int .u64 Y2, .int .u64 Y3]) (.agg #[.int .u64 Y0, .int .u64 Y1, .int .u64 Y2, .int .u64 Y3])).run Try.prog W = .ok (.bool false) W := fun W => by
    rw [run_neq_struct, EIy]
    rfl
  have EIa : ∀ W, (Op.equalIn 10000 24 (.agg #[.int .u64 A0, .int .u64 A1, .int .u64 A2, .int .u64 A3]) (.agg #[.int .u64 A0, .int .u64 A1, .int .u64 A2, .int .u64 A3])).run Try.prog W = .ok true W := fun W => by
    rw [eqi_arr, decide_eq_true ⟨rfl, rfl, rfl, rfl⟩]
  have EEa : ∀ W, (binOp .eql 24 (.agg #[.int .u64 A0, .int .u64 A1, .int .u64 A2, .int .u64 A3]) (.agg #[.int .u64 A0, .int .u64 A1, .int .u64 A2, .int .u64 A3])).run Try.prog W = .ok (.bool true) W := fun W => by
    rw [run_eql_struct, EIa]
    rfl
  have NEa : ∀ W, (binOp .neq 24 (.agg #[.int .u64 A0, .int .u64 A1, .int .u64 A2, .int .u64 A3]) (.agg #[.int .u64 A0, .int .u64 A1, .int .u64 A2, .int .u64 A3])).run Try.prog W = .ok (.bool false) W := fun W => by
    rw [run_neq_struct, EIa]
    rfl
  have SS := cell_same
  have LB' := ltB_add
  have LS := ltB_self
  have LA' := alloc_reads
  have LH := alloc_holds
  go_enter Try.func6, Try.ntmps6
  go_upto_region 1 with fail
  go_quiet (fail)
  go_upto_region 4 with (first | (go_at_call 13; (with_reducible first | refine (Cw1.out _).mono ?_); rintro e wa ⟨rfl, hba⟩; have hra := below_reads hba; have hha := below_holds hba; obtain ⟨ma, hsa⟩ := below_grew hba) | (go_at_call 13; (with_reducible first | refine (Cw2.out _).mono ?_); rintro e wb ⟨rfl, hbb⟩; have hrb := below_reads hbb; have hhb := below_holds hbb; obtain ⟨mb, hsb⟩ := below_grew hbb))
  refine wp_abs (fun W => Below w.heap.size w W ∧ W.cell? ⟨w.heap.size, 0, none⟩ = some (.int .u64 S0) ∧ W.cell? ⟨w.heap.size, 1, none⟩ = some (.int .u64 S1) ∧ W.cell? ⟨w.heap.size, 2, none⟩ = some (.int .u64 S2) ∧ W.cell? ⟨w.heap.size, 3, none⟩ = some (.int .u64 S3) ∧ W.cell? ⟨w.heap.size + 1, 0, none⟩ = some (.int .u64 T0) ∧ W.cell? ⟨w.heap.size + 1, 1, none⟩ = some (.int .u64 T1) ∧ W.cell? ⟨w.heap.size + 1, 2, none⟩ = some (.int .u64 T2) ∧ W.cell? ⟨w.heap.size + 1, 3, none⟩ = some (.int .u64 T3) ∧ W.cell? ⟨w.heap.size + 1 + 1 + 1 + ma, 0, none⟩ = some (.int .u64 X0) ∧ W.cell? ⟨w.heap.size + 1 + 1 + 1 + ma, 1, none⟩ = some (.int .u64 X1) ∧ W.cell? ⟨w.heap.size + 1 + 1 + 1 + ma, 2, none⟩ = some (.int .u64 X2) ∧ W.cell? ⟨w.heap.size + 1 + 1 + 1 + ma, 3, none⟩ = some (.int .u64 X3) ∧ W.cell? ⟨w.heap.size + 1 + 1 + 1 + ma + 1 + mb, 0, none⟩ = some (.int .u64 Y0) ∧ W.cell? ⟨w.heap.size + 1 + 1 + 1 + ma + 1 + mb, 1, none⟩ = some (.int .u64 Y1) ∧ W.cell? ⟨w.heap.size + 1 + 1 + 1 + ma + 1 + mb, 2, none⟩ = some (.int .u64 Y2) ∧ W.cell? ⟨w.heap.size + 1 + 1 + 1 + ma + 1 + mb, 3, none⟩ = some (.int .u64 Y3)) ?_ ?_
  · refine ⟨?_, ?_, ?_, ?_, ?_, ?_, ?_, ?_, ?_, ?_, ?_, ?_, ?_, ?_, ?_, ?_, ?_⟩
    all_goals (first | with_reducible assumption | ((repeat (first | with_reducible assumption | with_reducible refine c_dr _ ?_ | with_reducible refine c_d1 ?_ | with_reducible refine c_al _ ?_ | (with_reducible refine c_set ?_ ?_; focus (dsimp only; omega)) | (with_reducible apply c_be; with_reducible assumption))); done) | ((repeat (first | with_reducible assumption | with_reducible refine o_dr _ ?_ | with_reducible refine o_d1 ?_ | with_reducible refine o_set ?_ | (with_reducible refine o_new ?_ ?_; (focus (simp)); (focus (simp))) | with_reducible refine o_al _ ?_ | (with_reducible apply o_be; with_reducible assumption))); done) | ((repeat (first | with_reducible assumption | with_reducible exact Below.refl _ _ | with_reducible refine Below.drew ?_ | with_reducible refine below_drewN ?_ _ | with_reducible refine bw_alloc ?_ _ | (with_reducible refine bw_set ?_ ?_ _; focus (dsimp only; omega)) | (with_reducible apply bw_behind; with_reducible assumption))); done) | (simp [go_sem, *]; omega) | (simp (maxDischargeDepth := 4) [go_sem, *]; done))
  rintro w3 ⟨hB3, p0, p1, p2, p3, p4, p5, p6, p7, p8, p9, p10, p11, p12, p13, p14, p15⟩
  clear hra hha hsa hrb hhb hsb hba hbb
  generalize w.heap.size + 1 + 1 + 1 + ma + 1 + mb = n10 at *
  generalize w.heap.size + 1 + 1 + 1 + ma = n9 at *
  generalize w.heap.size + 1 = nt at *
  refine wp_abs (fun W => Below w3.heap.size w3 W ∧ W.cell? ⟨w.heap.size, 0, none⟩ = some (.int .u64 S0) ∧ W.cell? ⟨w.heap.size, 1, none⟩ = some (.int .u64 S1) ∧ W.cell? ⟨w.heap.size, 2, none⟩ = some (.int .u64 S2) ∧ W.cell? ⟨w.heap.size, 3, none⟩ = some (.int .u64 S3) ∧ W.cell? ⟨nt, 0, none⟩ = some (.int .u64 T0) ∧ W.cell? ⟨nt, 1, none⟩ = some (.int .u64 T1) ∧ W.cell? ⟨nt, 2, none⟩ = some (.int .u64 T2) ∧ W.cell? ⟨nt, 3, none⟩ = some (.int .u64 T3) ∧ W.cell? ⟨n9, 0, none⟩ = some (.int .u64 X0) ∧ W.cell? ⟨n9, 1, none⟩ = some (.int .u64 X1) ∧ W.cell? ⟨n9, 2, none⟩ = some (.int .u64 X2) ∧ W.cell? ⟨n9, 3, none⟩ = some (.int .u64 X3) ∧ W.cell? ⟨n10, 0, none⟩ = some (.int .u64 Y0) ∧ W.cell? ⟨n10, 1, none⟩ = some (.int .u64 Y1) ∧ W.cell? ⟨n10, 2, none⟩ = some (.int .u64 Y2) ∧ W.cell? ⟨n10, 3, none⟩ = some (.int .u64 Y3)) ?_ ?_
  · refine ⟨?_, ?_, ?_, ?_, ?_, ?_, ?_, ?_, ?_, ?_, ?_, ?_, ?_, ?_, ?_, ?_, ?_⟩
    all_goals (first | with_reducible assumption | ((repeat (first | with_reducible assumption | with_reducible refine c_dr _ ?_ | with_reducible refine c_d1 ?_ | with_reducible refine c_al _ ?_ | (with_reducible refine c_set ?_ ?_; focus (dsimp only; omega)) | (with_reducible apply c_be; with_reducible assumption))); done) | ((repeat (first | with_reducible assumption | with_reducible refine o_dr _ ?_ | with_reducible refine o_d1 ?_ | with_reducible refine o_set ?_ | (with_reducible refine o_new ?_ ?_; (focus (simp)); (focus (simp))) | with_reducible refine o_al _ ?_ | (with_reducible apply o_be; with_reducible assumption))); done) | ((repeat (first | with_reducible assumption | with_reducible exact Below.refl _ _ | with_reducible refine Below.drew ?_ | with_reducible refine below_drewN ?_ _ | with_reducible refine bw_alloc ?_ _ | (with_reducible refine bw_set ?_ ?_ _; focus (dsimp only; omega)) | (with_reducible apply bw_behind; with_reducible assumption))); done) | (simp [go_sem, *]; omega) | (simp (maxDischargeDepth := 4) [go_sem, *]; done))
  rintro w0r ⟨hB0r, cr0, cr1, cr2, cr3, cr4, cr5, cr6, cr7, cr8, cr9, cr10, cr11, cr12, cr13, cr14, cr15⟩
  have yr0 := behind_cell0 cr0
  have yr1 := behind_cell0 cr1
  have yr2 := behind_cell0 cr2
  have yr3 := behind_cell0 cr3
  have yr4 := behind_cell0 cr4
  have yr5 := behind_cell0 cr5
  have yr6 := behind_cell0 cr6
  have yr7 := behind_cell0 cr7
  have yr8 := behind_cell0 cr8
  have yr9 := behind_cell0 cr9
  have yr10 := behind_cell0 cr10
  have yr11 := behind_cell0 cr11
  have yr12 := behind_cell0 cr12
  have yr13 := behind_cell0 cr13
  have yr14 := behind_cell0 cr14
  have yr15 := behind_cell0 cr15
  have hsome := Behind.any w0r
  clear cr0 cr1 cr2 cr3 cr4 cr5 cr6 cr7 cr8 cr9 cr10 cr11 cr12 cr13 cr14 cr15
  refine wp_region_behind w0r (by kernel_rfl) (by kernel_rfl) (Below.refl _ _) ?_
  repeat (go_big_quiet_step (first | (go_at_call 11; with_reducible first | exact behind_one Cg1.out _ | exact behind_one Cg2.out _) | (go_at_call 9; with_reducible first | exact behind_one Ck1.out _ | exact behind_one Ck2.out _) | (go_at_call 13; with_reducible first | exact behind_one Cw3.out _)))
  refine wpQuiet_nil ?_
  rintro _ ⟨y, rfl⟩
  have hBy := bw_behind y.below hB0r
  have xr0 := yr0 y
  have xr1 := yr1 y
  have xr2 := yr2 y
  have xr3 := yr3 y
  have xr4 := yr4 y
  have xr5 := yr5 y
  have xr6 := yr6 y
  have xr7 := yr7 y
  have xr8 := yr8 y
  have xr9 := yr9 y
  have xr10 := yr10 y
  have xr11 := yr11 y
  have xr12 := yr12 y
  have xr13 := yr13 y
  have xr14 := yr14 y
  have xr15 := yr15 y
  clear hsome yr0 yr1 yr2 yr3 yr4 yr5 yr6 yr7 yr8 yr9 yr10 yr11 yr12 yr13 yr14 yr15
  obtain ⟨w1r, hw1⟩ : ∃ W, W = y.world := ⟨_, rfl⟩
  rw [← hw1] at hBy xr0 xr1 xr2 xr3 xr4 xr5 xr6 xr7 xr8 xr9 xr10 xr11 xr12 xr13 xr14 xr15 ⊢
  clear hw1 y hB0r
  obtain ⟨z, hz⟩ := below_grew hBy
  have l0 : ltB (w.heap.size) w3.heap.size = true := by unfold ltB; simpa using World.block_lt_of_cell? _ _ p0
  have m0 : w.heap.size < w3.heap.size := World.block_lt_of_cell? _ _ p0
  have l4 : ltB (nt) w3.heap.size = true := by unfold ltB; simpa using World.block_lt_of_cell? _ _ p4
  have m4 : nt < w3.heap.size := World.block_lt_of_cell? _ _ p4
  clear p0 p1 p2 p3 p4 p5 p6 p7 p8 p9 p10 p11 p12 p13 p14 p15
  clear xr8 xr9 xr10 xr11 xr12 xr13 xr14 xr15
  go_upto_region 8 with (first | (go_at_call 15; (with_reducible first | refine (Co1.out _).mono ?_); rintro e wc ⟨rfl, hbc⟩; have hrc := below_reads hbc; have hhc := below_holds hbc; obtain ⟨mc, hsc⟩ := below_grew hbc) | (go_at_call 15; (with_reducible first | refine (Co2.out _).mono ?_); rintro e wd ⟨rfl, hbd⟩; have hrd := below_reads hbd; have hhd := below_holds hbd; obtain ⟨md, hsd⟩ := below_grew hbd))
  refine wp_abs (fun W => Below w3.heap.size w3 W ∧ W.cell? ⟨w.heap.size, 0, none⟩ = some (.int .u64 S0) ∧ W.cell? ⟨w.heap.size, 1, none⟩ = some (.int .u64 S1) ∧ W.cell? ⟨w.heap.size, 2, none⟩ = some (.int .u64 S2) ∧ W.cell? ⟨w.heap.size, 3, none⟩ = some (.int .u64 S3) ∧ W.cell? ⟨nt, 0, none⟩ = some (.int .u64 T0) ∧ W.cell? ⟨nt, 1, none⟩ = some (.int .u64 T1) ∧ W.cell? ⟨nt, 2, none⟩ = some (.int .u64 T2) ∧ W.cell? ⟨nt, 3, none⟩ = some (.int .u64 T3) ∧ W.cell? ⟨w3.heap.size + z + mc, 0, none⟩ = some (.int .u64 A0) ∧ W.cell? ⟨w3.heap.size + z + mc, 1, none⟩ = some (.int .u64 A1) ∧ W.cell? ⟨w3.heap.size + z + mc, 2, none⟩ = some (.int .u64 A2) ∧ W.cell? ⟨w3.heap.size + z + mc, 3, none⟩ = some (.int .u64 A3) ∧ W.cell? ⟨w3.heap.size + z + mc + 1 + md, 0, none⟩ = some (.int .u64 B0) ∧ W.cell? ⟨w3.heap.size + z + mc + 1 + md, 1, none⟩ = some (.int .u64 B1) ∧ W.cell? ⟨w3.heap.size + z + mc + 1 + md, 2, none⟩ = some (.int .u64 B2) ∧ W.cell? ⟨w3.heap.size + z + mc + 1 + md, 3, none⟩ = some (.int .u64 B3)) ?_ ?_
  · refine ⟨?_, ?_, ?_, ?_, ?_, ?_, ?_, ?_, ?_, ?_, ?_, ?_, ?_, ?_, ?_, ?_, ?_⟩
    all_goals (first | with_reducible assumption | ((repeat (first | with_reducible assumption | with_reducible refine c_dr _ ?_ | with_reducible refine c_d1 ?_ | with_reducible refine c_al _ ?_ | (with_reducible refine c_set ?_ ?_; focus (dsimp only; omega)) | (with_reducible apply c_be; with_reducible assumption))); done) | ((repeat (first | with_reducible assumption | with_reducible refine o_dr _ ?_ | with_reducible refine o_d1 ?_ | with_reducible refine o_set ?_ | (with_reducible refine o_new ?_ ?_; (focus (simp)); (focus (simp))) | with_reducible refine o_al _ ?_ | (with_reducible apply o_be; with_reducible assumption))); done) | ((repeat (first | with_reducible assumption | with_reducible exact Below.refl _ _ | with_reducible refine Below.drew ?_ | with_reducible refine below_drewN ?_ _ | with_reducible refine bw_alloc ?_ _ | (with_reducible refine bw_set ?_ ?_ _; focus (dsimp only; omega)) | (with_reducible apply bw_behind; with_reducible assumption))); done) | (simp [go_sem, *]; omega) | (simp (maxDischargeDepth := 4) [go_sem, *]; done))
  rintro w5 ⟨hB5, q0, q1, q2, q3, q4, q5, q6, q7, q8, q9, q10, q11, q12, q13, q14, q15⟩
  clear hrc hhc hsc hrd hhd hsd hbc hbd
  generalize w3.heap.size + z + mc + 1 + md = nb at *
  generalize w3.heap.size + z + mc = na at *
  have HH : Hid (Held w5 w.heap.size nt na nb S0 S1 S2 S3 T0 T1 T2 T3 A0 A1 A2 A3 B0 B1 B2 B3 w5) := hide ⟨q0, q1, q2, q3, q4, q5, q6, q7, q8, q9, q10, q11, q12, q13, q14, q15, Below.refl _ _⟩
  have HB : Hid (Below w.heap.size w w5) := hide (bw_behind hB5 hB3)
  clear q0 q1 q2 q3 q4 q5 q6 q7 q8 q9 q10 q11 q12 q13 q14 q15 hB5 hB3 hBy hz l0 l4 m0 m4 xr0 xr1 xr2 xr3 xr4 xr5 xr6 xr7
  go_region_held3 (fun w' => w'.cell? ⟨w.heap.size, 0, none⟩ = some (.int .u64 S0) ∧ w'.cell? ⟨w.heap.size, 1, none⟩ = some (.int .u64 S1) ∧ w'.cell? ⟨w.heap.size, 2, none⟩ = some (.int .u64 S2) ∧ w'.cell? ⟨w.heap.size, 3, none⟩ = some (.int .u64 S3) ∧ w'.cell? ⟨nt, 0, none⟩ = some (.int .u64 T0) ∧ w'.cell? ⟨nt, 1, none⟩ = some (.int .u64 T1) ∧ w'.cell? ⟨nt, 2, none⟩ = some (.int .u64 T2) ∧ w'.cell? ⟨nt, 3, none⟩ = some (.int .u64 T3) ∧ w'.cell? ⟨na, 0, none⟩ = some (.int .u64 A0) ∧ w'.cell? ⟨na, 1, none⟩ = some (.int .u64 A1) ∧ w'.cell? ⟨na, 2, none⟩ = some (.int .u64 A2) ∧ w'.cell? ⟨na, 3, none⟩ = some (.int .u64 A3) ∧ w'.cell? ⟨nb, 0, none⟩ = some (.int .u64 B0) ∧ w'.cell? ⟨nb, 1, none⟩ = some (.int .u64 B1) ∧ w'.cell? ⟨nb, 2, none⟩ = some (.int .u64 B2) ∧ w'.cell? ⟨nb, 3, none⟩ = some (.int .u64 B3) ∧ Below w5.heap.size w5 w')
    (first | assumption | exact HH.out | exact held_drew HH.out | exact held_drewN _ HH.out | exact held_step (by assumption) (by assumption))
    (first | (go_at_call 9; (with_reducible first | refine (Ck3.out _).mono ?_ | refine (Ck4.out _).mono ?_ | refine (Ck5.out _).mono ?_); rintro e w' ⟨rfl, hb⟩) | (go_at_call 15; (with_reducible first | refine (Co3.out _).mono ?_ | refine (Co4.out _).mono ?_); rintro e w' ⟨rfl, hb⟩) | (go_at_call 10; (with_reducible first | refine (Ca1.out _).mono ?_); rintro e w' ⟨rfl, hb⟩) | (go_at_call 7; (with_reducible first | refine (Cl1.out _).mono ?_); rintro e w' ⟨rfl, hb⟩) | (go_at_call 17; (with_reducible first | refine (Cv1.out _).mono ?_); rintro e w' ⟨rfl, hb⟩) | (go_at_call 11; (with_reducible first | refine (Cg6.out _).mono ?_); rintro e w' ⟨rfl, hb⟩))
  all_goals
    go_wp2
    refine bodyPost_ret (v := .bool true) (by simp (maxDischargeDepth := 4) [results, Try.results6, go_sem, *]) rfl ?_
    exact ⟨rfl, bw_behind (by assumption : Held w5 w.heap.size nt na nb S0 S1 S2 S3 T0 T1 T2 T3 A0 A1 A2 A3 B0 B1 B2 B3 _).2.2.2.2.2.2.2.2.2.2.2.2.2.2.2.2 HB.out⟩

set_option maxRecDepth 100000 in
set_option maxHeartbeats 40000000 in
theorem walk_fe (M N J K S0 S1 S2 S3 T0 T1 T2 T3 X0 X1 X2 X3 Y0 Y1 Y2 Y3 A0 A1 A2 A3 B0 B1 B2 B3 C0 C1 C2 C3 E0 E1 E2 E3 : Int) (PX PY : Nat) (w1 : ∀ W, Calls Try.prog 13 #[.agg #[.int .u64 S0, .int .u64 S1, .int .u64 S2, .int .u64 S3], .int .i64 J, .bool true] W (Makes (.agg #[.int .u64 X0, .int .u64 X1, .int .u64 X2, .int .u64 X3]) W)) (w2 : ∀ W, Calls Try.prog 13 #[.agg #[.int .u64 S0, .int .u64 S1, .int .u64 S2, .int .u64 S3], .int .i64 J, .bool false] W (Makes (.agg #[.int .u64 Y0, .int .u64 Y1, .int .u64 Y2, .int .u64 Y3]) W)) (w3 : ∀ W, Calls Try.prog 13 #[.agg #[.int .u64 X0, .int .u64 X1, .int .u64 X2, .int .u64 X3], .int .i64 J, .bool false] W (Makes (.agg #[.int .u64 Y0, .int .u64 Y1, .int .u64 Y2, .int .u64 Y3]) W)) (g1 : ∀ W, Calls Try.prog 11 #[.agg #[.int .u64 X0, .int .u64 X1, .int .u64 X2, .int .u64 X3], .int .i64 J] W (Makes (.bool true) W)) (g2 : ∀ W, Calls Try.prog 11 #[.agg #[.int .u64 Y0, .int .u64 Y1, .int .u64 Y2, .int .u64 Y3], .int .i64 J] W (Makes (.bool false) W)) (g3 : ∀ W, Calls Try.prog 11 #[.agg #[.int .u64 X0, .int .u64 X1, .int .u64 X2, .int .u64 X3], .int .i64 K] W (Makes (.bool false) W)) (g4 : ∀ W, Calls Try.prog 11 #[.agg #[.int .u64 Y0, .int .u64 Y1, .int .u64 Y2, .int .u64 Y3], .int .i64 K] W (Makes (.bool false) W)) (g5 : ∀ W, Calls Try.prog 11 #[.agg #[.int .u64 S0, .int .u64 S1, .int .u64 S2, .int .u64 S3], .int .i64 K] W (Makes (.bool false) W)) (k1 : ∀ W, Calls Try.prog 9 #[.agg #[.int .u64 X0, .int .u64 X1, .int .u64 X2, .int .u64 X3]] W (Makes (.int .i64 (PX : Int)) W)) (k2 : ∀ W, Calls Try.prog 9 #[.agg #[.int .u64 Y0, .int .u64 Y1, .int .u64 Y2, .int .u64 Y3]] W (Makes (.int .i64 (PY : Int)) W)) (k3 : ∀ W, Calls Try.prog 9 #[.agg #[.int .u64 A0, .int .u64 A1, .int .u64 A2, .int .u64 A3]] W (Makes (.int .i64 0) W)) (k4 : ∀ W, Calls Try.prog 9 #[.agg #[.int .u64 B0, .int .u64 B1, .int .u64 B2, .int .u64 B3]] W (Makes (.int .i64 0) W)) (k5 : ∀ W, Calls Try.prog 9 #[.agg #[.int .u64 S0, .int .u64 S1, .int .u64 S2, .int .u64 S3]] W (Makes (.int .i64 0) W)) (o1 : ∀ W, Calls Try.prog 15 #[.agg #[.int .u64 S0, .int .u64 S1, .int .u64 S2, .int .u64 S3], .agg #[.int .u64 T0, .int .u64 T1, .int .u64 T2, .int .u64 T3]] W (Makes (.agg #[.int .u64 A0, .int .u64 A1, .int .u64 A2, .int .u64 A3]) W)) (o2 : ∀ W, Calls Try.prog 15 #[.agg #[.int .u64 S0, .int .u64 S1, .int .u64 S2, .int .u64 S3], .agg #[.int .u64 A0, .int .u64 A1, .int .u64 A2, .int .u64 A3]] W (Makes (.agg #[.int .u64 B0, .int .u64 B1, .int .u64 B2, .int .u64 B3]) W)) (o3 : ∀ W, Calls Try.prog 15 #[.agg #[.int .u64 A0, .int .u64 A1, .int .u64 A2, .int .u64 A3], .agg #[.int .u64 S0, .int .u64 S1, .int .u64 S2, .int .u64 S3]] W (Makes (.agg #[.int .u64 E0, .int .u64 E1, .int .u64 E2, .int .u64 E3]) W)) (o4 : ∀ W, Calls Try.prog 15 #[.agg #[.int .u64 A0, .int .u64 A1, .int .u64 A2, .int .u64 A3], .agg #[.int .u64 T0, .int .u64 T1, .int .u64 T2, .int .u64 T3]] W (Makes (.agg #[.int .u64 A0, .int .u64 A1, .int .u64 A2, .int .u64 A3]) W)) (a1 : ∀ W, Calls Try.prog 10 #[.agg #[.int .u64 E0, .int .u64 E1, .int .u64 E2, .int .u64 E3]] W (Makes (.bool false) W)) (v1 : ∀ W, Calls Try.prog 17 #[.int .i64 16, .int .i64 16] W (Makes (.agg #[.int .u64 C0, .int .u64 C1, .int .u64 C2, .int .u64 C3]) W)) (g6 : ∀ W, Calls Try.prog 11 #[.agg #[.int .u64 C0, .int .u64 C1, .int .u64 C2, .int .u64 C3], .int .i64 1] W (Makes (.bool true) W)) (l1 : ∀ W, Calls Try.prog 7 #[.agg #[.int .u64 S0, .int .u64 S1, .int .u64 S2, .int .u64 S3]] W (Makes (.slice none 0 0) W)) (_hJ : bits .and .i64 M 255 = J) (_hK : bits .and .i64 N 255 = K) (_px : (PX : Int) - (PY : Int) = 1) (_px2 : PX ≤ 256) (_py2 : PY ≤ 256) (_hjk : J ≠ K) (_hjb : (J == K) = false) (_hjn : (J != K) = true) (w : World) :
    Calls Try.prog 6 #[.agg #[.int .u64 S0, .int .u64 S1, .int .u64 S2, .int .u64 S3], .agg #[.int .u64 T0, .int .u64 T1, .int .u64 T2, .int .u64 T3], .agg #[.int .i64 M, .int .i64 N]] w (Makes (.bool true) w) := by
  have Cw1 := hide w1
  have Cw2 := hide w2
  have Cw3 := hide w3
  have Cg1 := hide g1
  have Cg2 := hide g2
  have Cg3 := hide g3
  have Cg4 := hide g4
  have Cg5 := hide g5
  have Ck1 := hide k1
  have Ck2 := hide k2
  have Ck3 := hide k3
  have Ck4 := hide k4
  have Ck5 := hide k5
  have Co1 := hide o1
  have Co2 := hide o2
  have Co3 := hide o3
  have Co4 := hide o4
  have Ca1 := hide a1
  have Cv1 := hide v1
  have Cg6 := hide g6
  have Cl1 := hide l1
  clear w1 w2 w3 g1 g2 g3 g4 g5 k1 k2 k3 k4 k5 o1 o2 o3 o4 a1 v1 g6 l1
  have EIy : ∀ W, (Op.equalIn 10000 24 (.agg #[.int .u64 Y0, .int .u64 Y1, .int .u64 Y2, .int .u64 Y3]) (.agg #[.int .u64 Y0, .int .u64 Y1, .int .u64 Y2, .int .u64 Y3])).run Try.prog W = .ok true W := fun W => by
    rw [eqi_arr, decide_eq_true ⟨rfl, rfl, rfl, rfl⟩]
  have EEy : ∀ W, (binOp .eql 24 (.agg #[.int .u64 Y0, .int .u64 Y1, .int .u64 Y2, .int .u64 Y3]) (.agg #[.int .u64 Y0, .int .u64 Y1, .int .u64 Y2, .int .u64 Y3])).run Try.prog W = .ok (.bool true) W := fun W => by
    rw [run_eql_struct, EIy]
    rfl
  have NEy : ∀ W, (binOp .neq 24 (.agg #[.int .u64 Y0, .int .u64 Y1, .int .u64 Y2, .int .u64 Y3]) (.agg #[.int .u64 Y0, .int .u64 Y1, .int .u64 Y2, .int .u64 Y3])).run Try.prog W = .ok (.bool false) W := fun W => by
    rw [run_neq_struct, EIy]
    rfl
  have EIa : ∀ W, (Op.equalIn 10000 24 (.agg #[.int .u64 A0, .int .u64 A1, .int .u64 A2, .int .u64 A3]) (.agg #[.int .u64 A0, .int .u64 A1, .int .u64 A2, .int .u64 A3])).run Try.prog W = .ok true W := fun W => by
    rw [eqi_arr, decide_eq_true ⟨rfl, rfl, rfl, rfl⟩]
  have EEa : ∀ W, (binOp .eql 24 (.agg #[.int .u64 A0, .int .u64 A1, .int .u64 A2, .int .u64 A3]) (.agg #[.int .u64 A0, .int .u64 A1, .int .u64 A2, .int .u64 A3])).run Try.prog W = .ok (.bool true) W := fun W => by
    rw [run_eql_struct, EIa]
    rfl
  have NEa : ∀ W, (binOp .neq 24 (.agg #[.int .u64 A0, .int .u64 A1, .int .u64 A2, .int .u64 A3]) (.agg #[.int .u64 A0, .int .u64 A1, .int .u64 A2, .int .u64 A3])).run Try.prog W = .ok (.bool false) W := fun W => by
    rw [run_neq_struct, EIa]
    rfl
  have SS := cell_same
  have LB' := ltB_add
  have LS := ltB_self
  have LA' := alloc_reads
  have LH := alloc_holds
  go_enter Try.func6, Try.ntmps6
  go_upto_region 1 with fail
  go_quiet (fail)
  go_upto_region 4 with (first | (go_at_call 13; (with_reducible first | refine (Cw1.out _).mono ?_); rintro e wa ⟨rfl, hba⟩; have hra := below_reads hba; have hha := below_holds hba; obtain ⟨ma, hsa⟩ := below_grew hba) | (go_at_call 13; (with_reducible first | refine (Cw2.out _).mono ?_); rintro e wb ⟨rfl, hbb⟩; have hrb := below_reads hbb; have hhb := below_holds hbb; obtain ⟨mb, hsb⟩ := below_grew hbb))
  refine wp_abs (fun W => Below w.heap.size w W ∧ W.cell? ⟨w.heap.size, 0, none⟩ = some (.int .u64 S0) ∧ W.cell? ⟨w.heap.size, 1, none⟩ = some (.int .u64 S1) ∧ W.cell? ⟨w.heap.size, 2, none⟩ = some (.int .u64 S2) ∧ W.cell? ⟨w.heap.size, 3, none⟩ = some (.int .u64 S3) ∧ W.cell? ⟨w.heap.size + 1, 0, none⟩ = some (.int .u64 T0) ∧ W.cell? ⟨w.heap.size + 1, 1, none⟩ = some (.int .u64 T1) ∧ W.cell? ⟨w.heap.size + 1, 2, none⟩ = some (.int .u64 T2) ∧ W.cell? ⟨w.heap.size + 1, 3, none⟩ = some (.int .u64 T3) ∧ W.cell? ⟨w.heap.size + 1 + 1 + 1 + ma, 0, none⟩ = some (.int .u64 X0) ∧ W.cell? ⟨w.heap.size + 1 + 1 + 1 + ma, 1, none⟩ = some (.int .u64 X1) ∧ W.cell? ⟨w.heap.size + 1 + 1 + 1 + ma, 2, none⟩ = some (.int .u64 X2) ∧ W.cell? ⟨w.heap.size + 1 + 1 + 1 + ma, 3, none⟩ = some (.int .u64 X3) ∧ W.cell? ⟨w.heap.size + 1 + 1 + 1 + ma + 1 + mb, 0, none⟩ = some (.int .u64 Y0) ∧ W.cell? ⟨w.heap.size + 1 + 1 + 1 + ma + 1 + mb, 1, none⟩ = some (.int .u64 Y1) ∧ W.cell? ⟨w.heap.size + 1 + 1 + 1 + ma + 1 + mb, 2, none⟩ = some (.int .u64 Y2) ∧ W.cell? ⟨w.heap.size + 1 + 1 + 1 + ma + 1 + mb, 3, none⟩ = some (.int .u64 Y3)) ?_ ?_
  · refine ⟨?_, ?_, ?_, ?_, ?_, ?_, ?_, ?_, ?_, ?_, ?_, ?_, ?_, ?_, ?_, ?_, ?_⟩
    all_goals (first | with_reducible assumption | ((repeat (first | with_reducible assumption | with_reducible refine c_dr _ ?_ | with_reducible refine c_d1 ?_ | with_reducible refine c_al _ ?_ | (with_reducible refine c_set ?_ ?_; focus (dsimp only; omega)) | (with_reducible apply c_be; with_reducible assumption))); done) | ((repeat (first | with_reducible assumption | with_reducible refine o_dr _ ?_ | with_reducible refine o_d1 ?_ | with_reducible refine o_set ?_ | (with_reducible refine o_new ?_ ?_; (focus (simp)); (focus (simp))) | with_reducible refine o_al _ ?_ | (with_reducible apply o_be; with_reducible assumption))); done) | ((repeat (first | with_reducible assumption | with_reducible exact Below.refl _ _ | with_reducible refine Below.drew ?_ | with_reducible refine below_drewN ?_ _ | with_reducible refine bw_alloc ?_ _ | (with_reducible refine bw_set ?_ ?_ _; focus (dsimp only; omega)) | (with_reducible apply bw_behind; with_reducible assumption))); done) | (simp [go_sem, *]; omega) | (simp (maxDischargeDepth := 4) [go_sem, *]; done))
  rintro w3 ⟨hB3, p0, p1, p2, p3, p4, p5, p6, p7, p8, p9, p10, p11, p12, p13, p14, p15⟩
  clear hra hha hsa hrb hhb hsb hba hbb
  generalize w.heap.size + 1 + 1 + 1 + ma + 1 + mb = n10 at *
  generalize w.heap.size + 1 + 1 + 1 + ma = n9 at *
  generalize w.heap.size + 1 = nt at *
  refine wp_abs (fun W => Below w3.heap.size w3 W ∧ W.cell? ⟨w.heap.size, 0, none⟩ = some (.int .u64 S0) ∧ W.cell? ⟨w.heap.size, 1, none⟩ = some (.int .u64 S1) ∧ W.cell? ⟨w.heap.size, 2, none⟩ = some (.int .u64 S2) ∧ W.cell? ⟨w.heap.size, 3, none⟩ = some (.int .u64 S3) ∧ W.cell? ⟨nt, 0, none⟩ = some (.int .u64 T0) ∧ W.cell? ⟨nt, 1, none⟩ = some (.int .u64 T1) ∧ W.cell? ⟨nt, 2, none⟩ = some (.int .u64 T2) ∧ W.cell? ⟨nt, 3, none⟩ = some (.int .u64 T3) ∧ W.cell? ⟨n9, 0, none⟩ = some (.int .u64 X0) ∧ W.cell? ⟨n9, 1, none⟩ = some (.int .u64 X1) ∧ W.cell? ⟨n9, 2, none⟩ = some (.int .u64 X2) ∧ W.cell? ⟨n9, 3, none⟩ = some (.int .u64 X3) ∧ W.cell? ⟨n10, 0, none⟩ = some (.int .u64 Y0) ∧ W.cell? ⟨n10, 1, none⟩ = some (.int .u64 Y1) ∧ W.cell? ⟨n10, 2, none⟩ = some (.int .u64 Y2) ∧ W.cell? ⟨n10, 3, none⟩ = some (.int .u64 Y3)) ?_ ?_
  · refine ⟨?_, ?_, ?_, ?_, ?_, ?_, ?_, ?_, ?_, ?_, ?_, ?_, ?_, ?_, ?_, ?_, ?_⟩
    all_goals (first | with_reducible assumption | ((repeat (first | with_reducible assumption | with_reducible refine c_dr _ ?_ | with_reducible refine c_d1 ?_ | with_reducible refine c_al _ ?_ | (with_reducible refine c_set ?_ ?_; focus (dsimp only; omega)) | (with_reducible apply c_be; with_reducible assumption))); done) | ((repeat (first | with_reducible assumption | with_reducible refine o_dr _ ?_ | with_reducible refine o_d1 ?_ | with_reducible refine o_set ?_ | (with_reducible refine o_new ?_ ?_; (focus (simp)); (focus (simp))) | with_reducible refine o_al _ ?_ | (with_reducible apply o_be; with_reducible assumption))); done) | ((repeat (first | with_reducible assumption | with_reducible exact Below.refl _ _ | with_reducible refine Below.drew ?_ | with_reducible refine below_drewN ?_ _ | with_reducible refine bw_alloc ?_ _ | (with_reducible refine bw_set ?_ ?_ _; focus (dsimp only; omega)) | (with_reducible apply bw_behind; with_reducible assumption))); done) | (simp [go_sem, *]; omega) | (simp (maxDischargeDepth := 4) [go_sem, *]; done))
  rintro w0r ⟨hB0r, cr0, cr1, cr2, cr3, cr4, cr5, cr6, cr7, cr8, cr9, cr10, cr11, cr12, cr13, cr14, cr15⟩
  have yr0 := behind_cell0 cr0
  have yr1 := behind_cell0 cr1
  have yr2 := behind_cell0 cr2
  have yr3 := behind_cell0 cr3
  have yr4 := behind_cell0 cr4
  have yr5 := behind_cell0 cr5
  have yr6 := behind_cell0 cr6
  have yr7 := behind_cell0 cr7
  have yr8 := behind_cell0 cr8
  have yr9 := behind_cell0 cr9
  have yr10 := behind_cell0 cr10
  have yr11 := behind_cell0 cr11
  have yr12 := behind_cell0 cr12
  have yr13 := behind_cell0 cr13
  have yr14 := behind_cell0 cr14
  have yr15 := behind_cell0 cr15
  have hsome := Behind.any w0r
  clear cr0 cr1 cr2 cr3 cr4 cr5 cr6 cr7 cr8 cr9 cr10 cr11 cr12 cr13 cr14 cr15
  refine wp_region_behind w0r (by kernel_rfl) (by kernel_rfl) (Below.refl _ _) ?_
  repeat (go_big_quiet_step (first | (go_at_call 11; with_reducible first | exact behind_one Cg1.out _ | exact behind_one Cg2.out _ | exact behind_one Cg3.out _ | exact behind_one Cg4.out _ | exact behind_one Cg5.out _) | (go_at_call 9; with_reducible first | exact behind_one Ck1.out _ | exact behind_one Ck2.out _) | (go_at_call 13; with_reducible first | exact behind_one Cw3.out _)))
  refine wpQuiet_nil ?_
  rintro _ ⟨y, rfl⟩
  have hBy := bw_behind y.below hB0r
  have xr0 := yr0 y
  have xr1 := yr1 y
  have xr2 := yr2 y
  have xr3 := yr3 y
  have xr4 := yr4 y
  have xr5 := yr5 y
  have xr6 := yr6 y
  have xr7 := yr7 y
  have xr8 := yr8 y
  have xr9 := yr9 y
  have xr10 := yr10 y
  have xr11 := yr11 y
  have xr12 := yr12 y
  have xr13 := yr13 y
  have xr14 := yr14 y
  have xr15 := yr15 y
  clear hsome yr0 yr1 yr2 yr3 yr4 yr5 yr6 yr7 yr8 yr9 yr10 yr11 yr12 yr13 yr14 yr15
  obtain ⟨w1r, hw1⟩ : ∃ W, W = y.world := ⟨_, rfl⟩
  rw [← hw1] at hBy xr0 xr1 xr2 xr3 xr4 xr5 xr6 xr7 xr8 xr9 xr10 xr11 xr12 xr13 xr14 xr15 ⊢
  clear hw1 y hB0r
  obtain ⟨z, hz⟩ := below_grew hBy
  have l0 : ltB (w.heap.size) w3.heap.size = true := by unfold ltB; simpa using World.block_lt_of_cell? _ _ p0
  have m0 : w.heap.size < w3.heap.size := World.block_lt_of_cell? _ _ p0
  have l4 : ltB (nt) w3.heap.size = true := by unfold ltB; simpa using World.block_lt_of_cell? _ _ p4
  have m4 : nt < w3.heap.size := World.block_lt_of_cell? _ _ p4
  clear p0 p1 p2 p3 p4 p5 p6 p7 p8 p9 p10 p11 p12 p13 p14 p15
  clear xr8 xr9 xr10 xr11 xr12 xr13 xr14 xr15
  go_upto_region 8 with (first | (go_at_call 15; (with_reducible first | refine (Co1.out _).mono ?_); rintro e wc ⟨rfl, hbc⟩; have hrc := below_reads hbc; have hhc := below_holds hbc; obtain ⟨mc, hsc⟩ := below_grew hbc) | (go_at_call 15; (with_reducible first | refine (Co2.out _).mono ?_); rintro e wd ⟨rfl, hbd⟩; have hrd := below_reads hbd; have hhd := below_holds hbd; obtain ⟨md, hsd⟩ := below_grew hbd))
  refine wp_abs (fun W => Below w3.heap.size w3 W ∧ W.cell? ⟨w.heap.size, 0, none⟩ = some (.int .u64 S0) ∧ W.cell? ⟨w.heap.size, 1, none⟩ = some (.int .u64 S1) ∧ W.cell? ⟨w.heap.size, 2, none⟩ = some (.int .u64 S2) ∧ W.cell? ⟨w.heap.size, 3, none⟩ = some (.int .u64 S3) ∧ W.cell? ⟨nt, 0, none⟩ = some (.int .u64 T0) ∧ W.cell? ⟨nt, 1, none⟩ = some (.int .u64 T1) ∧ W.cell? ⟨nt, 2, none⟩ = some (.int .u64 T2) ∧ W.cell? ⟨nt, 3, none⟩ = some (.int .u64 T3) ∧ W.cell? ⟨w3.heap.size + z + mc, 0, none⟩ = some (.int .u64 A0) ∧ W.cell? ⟨w3.heap.size + z + mc, 1, none⟩ = some (.int .u64 A1) ∧ W.cell? ⟨w3.heap.size + z + mc, 2, none⟩ = some (.int .u64 A2) ∧ W.cell? ⟨w3.heap.size + z + mc, 3, none⟩ = some (.int .u64 A3) ∧ W.cell? ⟨w3.heap.size + z + mc + 1 + md, 0, none⟩ = some (.int .u64 B0) ∧ W.cell? ⟨w3.heap.size + z + mc + 1 + md, 1, none⟩ = some (.int .u64 B1) ∧ W.cell? ⟨w3.heap.size + z + mc + 1 + md, 2, none⟩ = some (.int .u64 B2) ∧ W.cell? ⟨w3.heap.size + z + mc + 1 + md, 3, none⟩ = some (.int .u64 B3)) ?_ ?_
  · refine ⟨?_, ?_, ?_, ?_, ?_, ?_, ?_, ?_, ?_, ?_, ?_, ?_, ?_, ?_, ?_, ?_, ?_⟩
    all_goals (first | with_reducible assumption | ((repeat (first | with_reducible assumption | with_reducible refine c_dr _ ?_ | with_reducible refine c_d1 ?_ | with_reducible refine c_al _ ?_ | (with_reducible refine c_set ?_ ?_; focus (dsimp only; omega)) | (with_reducible apply c_be; with_reducible assumption))); done) | ((repeat (first | with_reducible assumption | with_reducible refine o_dr _ ?_ | with_reducible refine o_d1 ?_ | with_reducible refine o_set ?_ | (with_reducible refine o_new ?_ ?_; (focus (simp)); (focus (simp))) | with_reducible refine o_al _ ?_ | (with_reducible apply o_be; with_reducible assumption))); done) | ((repeat (first | with_reducible assumption | with_reducible exact Below.refl _ _ | with_reducible refine Below.drew ?_ | with_reducible refine below_drewN ?_ _ | with_reducible refine bw_alloc ?_ _ | (with_reducible refine bw_set ?_ ?_ _; focus (dsimp only; omega)) | (with_reducible apply bw_behind; with_reducible assumption))); done) | (simp [go_sem, *]; omega) | (simp (maxDischargeDepth := 4) [go_sem, *]; done))
  rintro w5 ⟨hB5, q0, q1, q2, q3, q4, q5, q6, q7, q8, q9, q10, q11, q12, q13, q14, q15⟩
  clear hrc hhc hsc hrd hhd hsd hbc hbd
  generalize w3.heap.size + z + mc + 1 + md = nb at *
  generalize w3.heap.size + z + mc = na at *
  have HH : Hid (Held w5 w.heap.size nt na nb S0 S1 S2 S3 T0 T1 T2 T3 A0 A1 A2 A3 B0 B1 B2 B3 w5) := hide ⟨q0, q1, q2, q3, q4, q5, q6, q7, q8, q9, q10, q11, q12, q13, q14, q15, Below.refl _ _⟩
  have HB : Hid (Below w.heap.size w w5) := hide (bw_behind hB5 hB3)
  clear q0 q1 q2 q3 q4 q5 q6 q7 q8 q9 q10 q11 q12 q13 q14 q15 hB5 hB3 hBy hz l0 l4 m0 m4 xr0 xr1 xr2 xr3 xr4 xr5 xr6 xr7
  go_region_held3 (fun w' => w'.cell? ⟨w.heap.size, 0, none⟩ = some (.int .u64 S0) ∧ w'.cell? ⟨w.heap.size, 1, none⟩ = some (.int .u64 S1) ∧ w'.cell? ⟨w.heap.size, 2, none⟩ = some (.int .u64 S2) ∧ w'.cell? ⟨w.heap.size, 3, none⟩ = some (.int .u64 S3) ∧ w'.cell? ⟨nt, 0, none⟩ = some (.int .u64 T0) ∧ w'.cell? ⟨nt, 1, none⟩ = some (.int .u64 T1) ∧ w'.cell? ⟨nt, 2, none⟩ = some (.int .u64 T2) ∧ w'.cell? ⟨nt, 3, none⟩ = some (.int .u64 T3) ∧ w'.cell? ⟨na, 0, none⟩ = some (.int .u64 A0) ∧ w'.cell? ⟨na, 1, none⟩ = some (.int .u64 A1) ∧ w'.cell? ⟨na, 2, none⟩ = some (.int .u64 A2) ∧ w'.cell? ⟨na, 3, none⟩ = some (.int .u64 A3) ∧ w'.cell? ⟨nb, 0, none⟩ = some (.int .u64 B0) ∧ w'.cell? ⟨nb, 1, none⟩ = some (.int .u64 B1) ∧ w'.cell? ⟨nb, 2, none⟩ = some (.int .u64 B2) ∧ w'.cell? ⟨nb, 3, none⟩ = some (.int .u64 B3) ∧ Below w5.heap.size w5 w')
    (first | assumption | exact HH.out | exact held_drew HH.out | exact held_drewN _ HH.out | exact held_step (by assumption) (by assumption))
    (first | (go_at_call 9; (with_reducible first | refine (Ck3.out _).mono ?_ | refine (Ck4.out _).mono ?_ | refine (Ck5.out _).mono ?_); rintro e w' ⟨rfl, hb⟩) | (go_at_call 15; (with_reducible first | refine (Co3.out _).mono ?_ | refine (Co4.out _).mono ?_); rintro e w' ⟨rfl, hb⟩) | (go_at_call 10; (with_reducible first | refine (Ca1.out _).mono ?_); rintro e w' ⟨rfl, hb⟩) | (go_at_call 7; (with_reducible first | refine (Cl1.out _).mono ?_); rintro e w' ⟨rfl, hb⟩) | (go_at_call 17; (with_reducible first | refine (Cv1.out _).mono ?_); rintro e w' ⟨rfl, hb⟩) | (go_at_call 11; (with_reducible first | refine (Cg6.out _).mono ?_); rintro e w' ⟨rfl, hb⟩))
  all_goals
    go_wp2
    refine bodyPost_ret (v := .bool true) (by simp (maxDischargeDepth := 4) [results, Try.results6, go_sem, *]) rfl ?_
    exact ⟨rfl, bw_behind (by assumption : Held w5 w.heap.size nt na nb S0 S1 S2 S3 T0 T1 T2 T3 A0 A1 A2 A3 B0 B1 B2 B3 _).2.2.2.2.2.2.2.2.2.2.2.2.2.2.2.2 HB.out⟩

theorem and_255 (x : Int) : bits .and .i64 x 255 = x % 256 := by
  have h2 : bits .and .i64 x 255 = IntKind.i64.wrap ((BitVec.ofInt 64 x &&& BitVec.ofInt 64 255).toNat : Int) := rfl
  have h3 : (BitVec.ofInt 64 x &&& BitVec.ofInt 64 255).toNat = (BitVec.ofInt 64 x).toNat % 256 := by
    rw [BitVec.toNat_and]
    exact Nat.and_two_pow_sub_one_eq_mod _ 8
  rw [h2, h3, BitVec.toNat_ofInt, IntKind.wrap_i64]
  omega
theorem gran_255 (x : Int) : granB (x % 256) = true := by unfold granB; simp; omega
theorem with_bit (s : BitVec 256) (i : Int) (tag : Bool) (h : granB i = true) (j : Nat) (hj : j < 256) : (withS s i tag).getLsbD j = if j = i.toNat then tag else s.getLsbD j := by
  unfold withS
  rw [if_pos h, put1_bit _ _ _ _ hj]
theorem with_again (s : BitVec 256) (i : Int) (h : granB i = true) : withS (withS s i true) i false = withS s i false := by
  refine ext256 (fun j hj => ?_)
  rw [with_bit _ _ _ h _ hj, with_bit _ _ _ h _ hj, with_bit _ _ _ h _ hj]
  split <;> simp_all
theorem gran_lt {i : Int} (h : granB i = true) : 0 ≤ i ∧ i < 256 := by simpa [granB] using h
theorem get_same (s : BitVec 256) (i : Int) (tag : Bool) (h : granB i = true) : getS (withS s i tag) i = tag := by
  have := gran_lt h
  unfold getS
  rw [h, with_bit _ _ _ h _ (by omega), if_pos rfl]
  rfl
theorem get_else (s : BitVec 256) (i k : Int) (tag : Bool) (h : granB i = true) (hk : granB k = true) (hne : i ≠ k) : getS (withS s i tag) k = getS s k := by
  have := gran_lt h
  have := gran_lt hk
  unfold getS
  rw [with_bit _ _ _ h _ (by omega), if_neg (by omega)]
theorem cnt_more {f g : Nat → Bool} {n q : Nat} (hq : q < n) (h1 : f q = true) (h2 : g q = false) (h : ∀ i, i ≠ q → f i = g i) : cnt f n = cnt g n + 1 := by
  induction n with
  | zero => omega
  | succ n ih =>
    rw [cnt, cnt]
    by_cases e : n = q
    · subst e
      rw [h1, h2, cnt_congr (fun i hi => h i (by omega))]
      simp
    · rw [ih (by omega), h n e]
      omega
theorem with_count (s : BitVec 256) (i : Int) (h : granB i = true) : cntS (withS s i true) = cntS (withS s i false) + 1 := by
  have hl := gran_lt h
  unfold cntS
  refine cnt_more (q := i.toNat) (by omega) ?_ ?_ (fun j hj => ?_)
  · rw [with_bit _ _ _ h _ (by omega), if_pos rfl]
  · rw [with_bit _ _ _ h _ (by omega), if_pos rfl]
  · by_cases hj2 : j < 256
    · rw [with_bit _ _ _ h _ hj2, with_bit _ _ _ h _ hj2, if_neg hj, if_neg hj]
    · rw [BitVec.getLsbD_of_ge _ _ (by omega), BitVec.getLsbD_of_ge _ _ (by omega)]
theorem cnt_parts (f g a b : Nat → Bool) (n : Nat) (ha : ∀ i, i < n → a i = (f i && !g i)) (hb : ∀ i, i < n → b i = (f i && g i)) : cnt a n + cnt b n = cnt f n := by
  induction n with
  | zero => rfl
  | succ n ih =>
    have := ih (fun i hi => ha i (by omega)) (fun i hi => hb i (by omega))
    rw [cnt, cnt, cnt, ha n (by omega), hb n (by omega)]
    cases f n <;> cases g n <;> simp <;> omega
theorem less_count (s t : BitVec 256) : cntS (lessS s t) + cntS (lessS s (lessS s t)) = cntS s := by
  unfold cntS
  refine cnt_parts _ (fun i => t.getLsbD i) _ _ 256 (fun i hi => less_bit _ _ _ hi) (fun i hi => ?_)
  rw [less_bit _ _ _ hi, less_bit _ _ _ hi]
  cases s.getLsbD i <;> cases t.getLsbD i <;> rfl
theorem less_none (s t : BitVec 256) : lessS (lessS s t) s = 0#256 := by
  refine ext256 (fun i hi => ?_)
  rw [less_bit _ _ _ hi, less_bit _ _ _ hi]
  cases s.getLsbD i <;> simp
theorem less_again (s t : BitVec 256) : lessS (lessS s t) t = lessS s t := by
  refine ext256 (fun i hi => ?_)
  rw [less_bit _ _ _ hi, less_bit _ _ _ hi]
  cases t.getLsbD i <;> simp
theorem cover_16 : getS (coverS 16 16) 1 = true := by
  unfold getS
  rw [cover_bit _ _ _ (by decide)]
  decide
theorem cnt_256 (s : BitVec 256) : cntS s ≤ 256 := cnt_le _ _
theorem lst_cnt (s : BitVec 256) : (lstS s).length = cntS s := lst_length _ _

theorem walk_set (s t : BitVec 256) (M N : Int) (w : World) :
    Calls Try.prog 6 #[.agg #[.int .u64 ((wd s 0).toNat : Int), .int .u64 ((wd s 1).toNat : Int), .int .u64 ((wd s 2).toNat : Int), .int .u64 ((wd s 3).toNat : Int)], .agg #[.int .u64 ((wd t 0).toNat : Int), .int .u64 ((wd t 1).toNat : Int), .int .u64 ((wd t 2).toNat : Int), .int .u64 ((wd t 3).toNat : Int)], .agg #[.int .i64 M, .int .i64 N]] w (Makes (.bool true) w) := by
  have hJ := and_255 M
  have hK := and_255 N
  have gJ := gran_255 M
  have gK := gran_255 N
  generalize M % 256 = J at *
  generalize N % 256 = K at *
  have w1 := fun W => with_any s J true W
  have w2 := fun W => with_any s J false W
  have w3 := fun W => with_any (withS s J true) J false W
  rw [with_again s J gJ] at w3
  have g1 := fun W => get_any (withS s J true) J W
  rw [get_same s J true gJ] at g1
  have g2 := fun W => get_any (withS s J false) J W
  rw [get_same s J false gJ] at g2
  have k1 := fun W => count_any (withS s J true) W
  have k2 := fun W => count_any (withS s J false) W
  have k3 := fun W => count_any (lessS s t) W
  have k4 := fun W => count_any (lessS s (lessS s t)) W
  have k5 := fun W => count_any s W
  have o1 := fun W => without_any s t W
  have o2 := fun W => without_any s (lessS s t) W
  have o3 := fun W => without_any (lessS s t) s W
  have o4 := fun W => without_any (lessS s t) t W
  rw [less_again] at o4
  have a1 := fun W => any_any (lessS (lessS s t) s) W
  rw [show (!decide (lessS (lessS s t) s = 0#256)) = false by rw [less_none]; simp] at a1
  have v1 := fun W => cover_any 16 16 (by omega) (by omega) W
  have g6 := fun W => get_any (coverS 16 16) 1 W
  rw [cover_16] at g6
  have l1 := fun W => all_any s W
  have px : (cntS (withS s J true) : Int) - (cntS (withS s J false) : Int) = 1 := by
    have := with_count s J gJ
    omega
  have px2 := cnt_256 (withS s J true)
  have py2 := cnt_256 (withS s J false)
  have ps := less_count s t
  have pl := cnt_256 s
  have pw : IntKind.i64.wrap ((cntS (lessS s t) : Int) + (cntS (lessS s (lessS s t)) : Int)) = (cntS s : Int) := by
    rw [IntKind.wrap_i64]
    omega
  by_cases he : lstS s = []
  · have h0 : cntS s = 0 := by rw [← lst_cnt, he]; rfl
    have hl : ∀ W, Calls Try.prog 7 #[.agg #[.int .u64 ((wd s 0).toNat : Int), .int .u64 ((wd s 1).toNat : Int), .int .u64 ((wd s 2).toNat : Int), .int .u64 ((wd s 3).toNat : Int)]] W (Makes (.slice none 0 0) W) := fun W => (l1 W).mono fun e W' ⟨v, e1, h1, h2⟩ => by
      rcases h1 with ⟨_, rfl⟩ | ⟨h1, _⟩
      · exact ⟨e1, h2⟩
      · exact absurd he h1
    have hA : cntS (lessS s t) = 0 := by omega
    have hB : cntS (lessS s (lessS s t)) = 0 := by omega
    rw [hA] at k3
    rw [hB] at k4
    rw [h0] at k5
    by_cases hjk : J = K
    · subst hjk
      exact walk_se M N J _ _ _ _ _ _ _ _ _ _ _ _ _ _ _ _ _ _ _ _ _ _ _ _ _ _ _ _ _ _ _ _ _ _ w1 w2 w3 g1 g2 k1 k2 k3 k4 k5 o1 o2 o3 o4 a1 v1 g6 hl hJ hK px px2 py2 w
    · have g3 := fun W => get_any (withS s J true) K W
      have g4 := fun W => get_any (withS s J false) K W
      have g5 := fun W => get_any s K W
      rw [get_else s J K true gJ gK hjk] at g3
      rw [get_else s J K false gJ gK hjk] at g4
      have hb : getS s K = false := by
        unfold getS
        have := gran_lt gK
        rw [cnt_zero h0 _ (show K.toNat < 256 by omega)]
        simp
      rw [hb] at g3 g4 g5
      exact walk_fe M N J K _ _ _ _ _ _ _ _ _ _ _ _ _ _ _ _ _ _ _ _ _ _ _ _ _ _ _ _ _ _ _ _ _ _ w1 w2 w3 g1 g2 g3 g4 g5 k1 k2 k3 k4 k5 o1 o2 o3 o4 a1 v1 g6 hl hJ hK px px2 py2 hjk (by simpa using hjk) (by simpa using hjk) w
  · have hl : ∀ W, Calls Try.prog 7 #[.agg #[.int .u64 ((wd s 0).toNat : Int), .int .u64 ((wd s 1).toNat : Int), .int .u64 ((wd s 2).toNat : Int), .int .u64 ((wd s 3).toNat : Int)]] W (fun e W' => ∃ g cap, e = .returned (.slice (some ⟨g, 0, none⟩) (cntS s) cap) ∧ Below W.heap.size W W') := fun W => (l1 W).mono fun e W' ⟨v, e1, h1, h2⟩ => by
      rcases h1 with ⟨h1, _⟩ | ⟨_, g, cap, rfl, _⟩
      · exact absurd h1 he
      · rw [lst_cnt] at e1
        exact ⟨g, cap, e1, h2⟩
    by_cases hjk : J = K
    · subst hjk
      exact walk_s M N J _ _ _ _ _ _ _ _ _ _ _ _ _ _ _ _ _ _ _ _ _ _ _ _ _ _ _ _ _ _ _ _ _ _ _ _ _ w1 w2 w3 g1 g2 k1 k2 k3 k4 k5 o1 o2 o3 o4 a1 v1 g6 hl hJ hK px px2 py2 pw w
    · have g3 := fun W => get_any (withS s J true) K W
      have g4 := fun W => get_any (withS s J false) K W
      have g5 := fun W => get_any s K W
      rw [get_else s J K true gJ gK hjk] at g3
      rw [get_else s J K false gJ gK hjk] at g4
      cases hb : getS s K with
      | true =>
        rw [hb] at g3 g4 g5
        exact walk_t M N J K _ _ _ _ _ _ _ _ _ _ _ _ _ _ _ _ _ _ _ _ _ _ _ _ _ _ _ _ _ _ _ _ _ _ _ _ _ w1 w2 w3 g1 g2 g3 g4 g5 k1 k2 k3 k4 k5 o1 o2 o3 o4 a1 v1 g6 hl hJ hK px px2 py2 pw hjk (by simpa using hjk) (by simpa using hjk) w
      | false =>
        rw [hb] at g3 g4 g5
        exact walk_f M N J K _ _ _ _ _ _ _ _ _ _ _ _ _ _ _ _ _ _ _ _ _ _ _ _ _ _ _ _ _ _ _ _ _ _ _ _ _ w1 w2 w3 g1 g2 g3 g4 g5 k1 k2 k3 k4 k5 o1 o2 o3 o4 a1 v1 g6 hl hJ hK px px2 py2 pw hjk (by simpa using hjk) (by simpa using hjk) w
theorem walk (a0 a1 a2 a3 b0 b1 b2 b3 : BitVec 64) (M N : Int) (w : World) :
    Calls Try.prog 6 #[.agg #[.int .u64 (a0.toNat : Int), .int .u64 (a1.toNat : Int), .int .u64 (a2.toNat : Int), .int .u64 (a3.toNat : Int)], .agg #[.int .u64 (b0.toNat : Int), .int .u64 (b1.toNat : Int), .int .u64 (b2.toNat : Int), .int .u64 (b3.toNat : Int)], .agg #[.int .i64 M, .int .i64 N]] w fun e w' => e = .returned (.bool true) ∧ Below w.heap.size w w' := by
  have h := walk_set (mk4 a0 a1 a2 a3) (mk4 b0 b1 b2 b3) M N w
  obtain ⟨e0, e1, e2, e3⟩ := mk4_words a0 a1 a2 a3
  obtain ⟨f0, f1, f2, f3⟩ := mk4_words b0 b1 b2 b3
  rw [e0, e1, e2, e3, f0, f1, f2, f3] at h
  exact h
open Go.ChangeShapes Go.WideShapes Go.ChangeAt
theorem walks : Frame.Walks 6 Try.f6 := by
  intro H enc W base args ds ps hval hA
  rw [Try.params6] at hA hval
  obtain ⟨v0, v1, v2, d0, d1, d2, p0, p1, p2, hargs, rfl, rfl, h0, h1, h2⟩ := trodAll_three hA
  obtain rfl : args = #[v0, v1, v2] := by cases args; simp_all
  obtain ⟨zs0, rfl, hl0, hz0⟩ := Frame.open_arr Try.underlying24 Try.underlying22 (by kernel_rfl) (by kernel_rfl) (hval 0 24 v0 rfl rfl) h0
  obtain ⟨z0_0, z0_1, z0_2, z0_3, rfl⟩ := Frame.arr4 hl0
  obtain ⟨zs1, rfl, hl1, hz1⟩ := Frame.open_arr Try.underlying24 Try.underlying22 (by kernel_rfl) (by kernel_rfl) (hval 1 24 v1 rfl rfl) h1
  obtain ⟨z1_0, z1_1, z1_2, z1_3, rfl⟩ := Frame.arr4 hl1
  obtain ⟨zs2, rfl, hl2, hz2⟩ := Frame.open_arr Try.underlying42 Try.underlying3 (by kernel_rfl) (by kernel_rfl) (hval 2 42 v2 rfl rfl) h2
  obtain ⟨z2_0, z2_1, rfl⟩ := Frame.arr2 hl2
  obtain ⟨Z0_0, rfl⟩ := Frame.wf_u64 (hz0 z0_0 (by simp))
  obtain ⟨Z0_1, rfl⟩ := Frame.wf_u64 (hz0 z0_1 (by simp))
  obtain ⟨Z0_2, rfl⟩ := Frame.wf_u64 (hz0 z0_2 (by simp))
  obtain ⟨Z0_3, rfl⟩ := Frame.wf_u64 (hz0 z0_3 (by simp))
  obtain ⟨Z1_0, rfl⟩ := Frame.wf_u64 (hz1 z1_0 (by simp))
  obtain ⟨Z1_1, rfl⟩ := Frame.wf_u64 (hz1 z1_1 (by simp))
  obtain ⟨Z1_2, rfl⟩ := Frame.wf_u64 (hz1 z1_2 (by simp))
  obtain ⟨Z1_3, rfl⟩ := Frame.wf_u64 (hz1 z1_3 (by simp))
  exact walk Z0_0 Z0_1 Z0_2 Z0_3 Z1_0 Z1_1 Z1_2 Z1_3 z2_0 z2_1 W
set_option maxRecDepth 100000 in
theorem proved : Rows.TagsSetsSaid :=
  OpenClaim.holds_of_wide 6 Try.f6 rfl rfl rfl rfl rfl rfl rfl ⟨rfl, rfl, rfl, rfl, rfl⟩ rfl rfl rfl rfl rfl (by kernel_rfl) Try.func6 (by kernel_rfl)
    (of_decide_eq_true (by kernel_rfl)) (by unfold Func.isWrapper; first | (rw [if_pos (by decide +kernel)]; kernel_rfl) | (rw [if_neg (by decide +kernel)]; exact ⟨rfl, rfl⟩))
    (fun os started H enc _ => Frame.lift os started H enc _ _ Rows.tagsSetsSpec 4 (by kernel_rfl) Try.func6 Try.underlying4 (by kernel_rfl) rfl (by kernel_rfl)
      (fun ds h => by match ds, h with | [_, _, _], _ => exact ⟨rfl, rfl, rfl⟩)
      (ChangeSpec.witness6 (enc := enc) (C := Try.checked) false ⟨#[], #[.agg #[.int .u64 0, .int .u64 0, .int .u64 0, .int .u64 0], .agg #[.int .u64 0, .int .u64 0, .int .u64 0, .int .u64 0], .agg #[.int .i64 0, .int .i64 0]], []⟩ 8 (by kernel_rfl) (by kernel_rfl) (by kernel_rfl) (by kernel_rfl)) walks)
end Go.Proofs.Ytpikipfchkhnbaa.TagsSets
