/-
  TagsTells holds: for every s, t and i the law returns true and turns nothing that was there.
-/
import Derived.Test.YtpikipfchkhnbaaTag5
import Derived.Test.YtpikipfchkhnbaaTag7
import Derived.Test.YtpikipfchkhnbaaLawFrame
namespace Go.Proofs.Ytpikipfchkhnbaa.TagsTells
open Go.RowKit Words

set_option maxRecDepth 100000 in
set_option maxHeartbeats 40000000 in
theorem walk_n (J S0 S1 S2 S3 T0 T1 T2 T3 X0 X1 X2 X3 Y0 Y1 Y2 Y3 D0 D1 D2 D3 : Int) (b : Bool) (fs ft fd : Nat → Bool) (l : List Int) (l1 : ∀ W, Calls Try.prog 7 #[.agg #[.int .u64 S0, .int .u64 S1, .int .u64 S2, .int .u64 S3]] W (fun e W' => ∃ g cap, e = .returned (.slice (some ⟨g, 0, none⟩) l.length cap) ∧ Row W' g (l.map (Value.int .i64)) ∧ Below W.heap.size W W')) (l2 : ∀ W, Calls Try.prog 8 #[.agg #[.int .u64 S0, .int .u64 S1, .int .u64 S2, .int .u64 S3]] W (fun e W' => ∃ g cap, e = .returned (.slice (some ⟨g, 0, none⟩) l.length cap) ∧ Row W' g (l.map (Value.int .i64)) ∧ Below W.heap.size W W')) (k1 : ∀ W, Calls Try.prog 9 #[.agg #[.int .u64 S0, .int .u64 S1, .int .u64 S2, .int .u64 S3]] W (Makes (.int .i64 (l.length : Int)) W)) (a1 : ∀ W, Calls Try.prog 10 #[.agg #[.int .u64 S0, .int .u64 S1, .int .u64 S2, .int .u64 S3]] W (Makes (.bool true) W)) (g1 : ∀ W, Calls Try.prog 11 #[.agg #[.int .u64 S0, .int .u64 S1, .int .u64 S2, .int .u64 S3], .int .i64 J] W (Makes (.bool b) W)) (g2 : ∀ W, Calls Try.prog 12 #[.agg #[.int .u64 S0, .int .u64 S1, .int .u64 S2, .int .u64 S3], .int .i64 J] W (Makes (.bool b) W)) (w1 : ∀ W, Calls Try.prog 13 #[.agg #[.int .u64 S0, .int .u64 S1, .int .u64 S2, .int .u64 S3], .int .i64 J, .bool true] W (Makes (.agg #[.int .u64 X0, .int .u64 X1, .int .u64 X2, .int .u64 X3]) W)) (w2 : ∀ W, Calls Try.prog 14 #[.agg #[.int .u64 S0, .int .u64 S1, .int .u64 S2, .int .u64 S3], .int .i64 J, .bool true] W (Makes (.agg #[.int .u64 X0, .int .u64 X1, .int .u64 X2, .int .u64 X3]) W)) (w3 : ∀ W, Calls Try.prog 13 #[.agg #[.int .u64 S0, .int .u64 S1, .int .u64 S2, .int .u64 S3], .int .i64 J, .bool false] W (Makes (.agg #[.int .u64 Y0, .int .u64 Y1, .int .u64 Y2, .int .u64 Y3]) W)) (w4 : ∀ W, Calls Try.prog 14 #[.agg #[.int .u64 S0, .int .u64 S1, .int .u64 S2, .int .u64 S3], .int .i64 J, .bool false] W (Makes (.agg #[.int .u64 Y0, .int .u64 Y1, .int .u64 Y2, .int .u64 Y3]) W)) (o1 : ∀ W, Calls Try.prog 15 #[.agg #[.int .u64 S0, .int .u64 S1, .int .u64 S2, .int .u64 S3], .agg #[.int .u64 T0, .int .u64 T1, .int .u64 T2, .int .u64 T3]] W (Makes (.agg #[.int .u64 D0, .int .u64 D1, .int .u64 D2, .int .u64 D3]) W)) (gs : ∀ k : Nat, k < 256 → ∀ W, Calls Try.prog 11 #[.agg #[.int .u64 S0, .int .u64 S1, .int .u64 S2, .int .u64 S3], .int .i64 (k : Int)] W (Makes (.bool (fs k)) W)) (gt : ∀ k : Nat, k < 256 → ∀ W, Calls Try.prog 11 #[.agg #[.int .u64 T0, .int .u64 T1, .int .u64 T2, .int .u64 T3], .int .i64 (k : Int)] W (Makes (.bool (ft k)) W)) (gd : ∀ k : Nat, k < 256 → ∀ W, Calls Try.prog 11 #[.agg #[.int .u64 D0, .int .u64 D1, .int .u64 D2, .int .u64 D3], .int .i64 (k : Int)] W (Makes (.bool (fd k)) W)) (hd : ∀ k : Nat, k < 256 → fd k = (fs k && !ft k)) (k5 : ∀ W, Calls Try.prog 9 #[.agg #[.int .u64 5, .int .u64 0, .int .u64 0, .int .u64 0]] W (Makes (.int .i64 2) W)) (_hl : 0 < (l.length : Int)) (_hlb : decide (0 < (l.length : Int)) = true) (_hln : 0 < l.length) (_hlc : decide (0 < l.length) = true) (_hlm : l.length ≤ 256) (w : World) :
    Calls Try.prog 3 #[.agg #[.int .u64 S0, .int .u64 S1, .int .u64 S2, .int .u64 S3], .agg #[.int .u64 T0, .int .u64 T1, .int .u64 T2, .int .u64 T3], .int .i64 J] w (Makes (.bool true) w) := by
  have Cl1 := hide l1
  have Cl2 := hide l2
  have Ck1 := hide k1
  have Ca1 := hide a1
  have Cg1 := hide g1
  have Cg2 := hide g2
  have Cw1 := hide w1
  have Cw2 := hide w2
  have Cw3 := hide w3
  have Cw4 := hide w4
  have Co1 := hide o1
  have Cgs := hide gs
  have Cgt := hide gt
  have Cgd := hide gd
  have Chd := hide hd
  have Ck5 := hide k5
  clear l1 l2 k1 a1 g1 g2 w1 w2 w3 w4 o1 gs gt gd hd k5
  have EIx : ∀ W, (Op.equalIn 10000 24 (.agg #[.int .u64 X0, .int .u64 X1, .int .u64 X2, .int .u64 X3]) (.agg #[.int .u64 X0, .int .u64 X1, .int .u64 X2, .int .u64 X3])).run Try.prog W = .ok true W := fun W => by
    rw [eqi_arr, decide_eq_true ⟨rfl, rfl, rfl, rfl⟩]
  have EEx : ∀ W, (binOp .eql 24 (.agg #[.int .u64 X0, .int .u64 X1, .int .u64 X2, .int .u64 X3]) (.agg #[.int .u64 X0, .int .u64 X1, .int .u64 X2, .int .u64 X3])).run Try.prog W = .ok (.bool true) W := fun W => by
    rw [run_eql_struct, EIx]
    rfl
  have NEx : ∀ W, (binOp .neq 24 (.agg #[.int .u64 X0, .int .u64 X1, .int .u64 X2, .int .u64 X3]) (.agg #[.int .u64 X0, .int .u64 X1, .int .u64 X2, .int .u64 X3])).run Try.prog W = .ok (.bool false) W := fun W => by
    rw [run_neq_struct, EIx]
    rfl
  have EIy : ∀ W, (Op.equalIn 10000 24 (.agg #[.int .u64 Y0, .int .u64 Y1, .int .u64 Y2, .int .u64 Y3]) (.agg #[.int .u64 Y0, .int .u64 Y1, .int .u64 Y2, .int .u64 Y3])).run Try.prog W = .ok true W := fun W => by
    rw [eqi_arr, decide_eq_true ⟨rfl, rfl, rfl, rfl⟩]
  have EEy : ∀ W, (binOp .eql 24 (.agg #[.int .u64 Y0, .int .u64 Y1, .int .u64 Y2, .int .u64 Y3]) (.agg #[.int .u64 Y0, .int .u64 Y1, .int .u64 Y2, .int .u64 Y3])).run Try.prog W = .ok (.bool true) W := fun W => by
    rw [run_eql_struct, EIy]
    rfl
  have NEy : ∀ W, (binOp .neq 24 (.agg #[.int .u64 Y0, .int .u64 Y1, .int .u64 Y2, .int .u64 Y3]) (.agg #[.int .u64 Y0, .int .u64 Y1, .int .u64 Y2, .int .u64 Y3])).run Try.prog W = .ok (.bool false) W := fun W => by
    rw [run_neq_struct, EIy]
    rfl
  have SS := cell_same
  have LB' := ltB_add
  have LS := ltB_self
  have LA' := alloc_reads
  have LH := alloc_holds
  go_enter Try.func3, Try.ntmps3
  go_upto_region 3 with (first | (go_at_call 7; (with_reducible refine (Cl1.out _).mono ?_); rintro e wb ⟨gb, pb, rfl, hrowb, hbb⟩; have hrb := below_reads hbb; have hhb := below_holds hbb; obtain ⟨mb, hsb⟩ := below_grew hbb) | (go_at_call 8; (with_reducible refine (Cl2.out _).mono ?_); rintro e wc ⟨gc, pc, rfl, hrowc, hbc⟩; have hrc := below_reads hbc; have hhc := below_holds hbc; obtain ⟨mc, hsc⟩ := below_grew hbc))
  refine wp_abs (fun W => Below w.heap.size w W ∧ W.cell? ⟨w.heap.size, 0, none⟩ = some (.int .u64 S0) ∧ W.cell? ⟨w.heap.size, 1, none⟩ = some (.int .u64 S1) ∧ W.cell? ⟨w.heap.size, 2, none⟩ = some (.int .u64 S2) ∧ W.cell? ⟨w.heap.size, 3, none⟩ = some (.int .u64 S3) ∧ W.cell? ⟨w.heap.size + 1, 0, none⟩ = some (.int .u64 T0) ∧ W.cell? ⟨w.heap.size + 1, 1, none⟩ = some (.int .u64 T1) ∧ W.cell? ⟨w.heap.size + 1, 2, none⟩ = some (.int .u64 T2) ∧ W.cell? ⟨w.heap.size + 1, 3, none⟩ = some (.int .u64 T3) ∧ Row W gb (l.map (Value.int .i64)) ∧ Row W gc (l.map (Value.int .i64))) ?_ ?_
  · refine ⟨?_, ?_, ?_, ?_, ?_, ?_, ?_, ?_, ?_, ?_, ?_⟩
    all_goals (first | with_reducible assumption | ((repeat (first | with_reducible assumption | with_reducible refine c_dr _ ?_ | with_reducible refine c_d1 ?_ | with_reducible refine c_al _ ?_ | (with_reducible refine c_set ?_ ?_; focus (dsimp only; omega)) | (with_reducible apply c_be; with_reducible assumption))); done) | ((repeat (first | with_reducible assumption | with_reducible refine k_dr _ ?_ | with_reducible refine k_d1 ?_ | with_reducible refine k_al _ ?_ | (with_reducible refine k_set ?_ ?_; focus (dsimp only; omega)) | (with_reducible apply k_be; with_reducible assumption))); done) | ((repeat (first | with_reducible assumption | with_reducible refine o_dr _ ?_ | with_reducible refine o_d1 ?_ | with_reducible refine o_set ?_ | (with_reducible refine o_new ?_ ?_; (focus (simp)); (focus (simp))) | with_reducible refine o_al _ ?_ | (with_reducible apply o_be; with_reducible assumption))); done) | ((repeat (first | with_reducible assumption | with_reducible exact Below.refl _ _ | with_reducible refine Below.drew ?_ | with_reducible refine below_drewN ?_ _ | with_reducible refine bw_alloc ?_ _ | (with_reducible refine bw_set ?_ ?_ _; focus (dsimp only; omega)) | (with_reducible apply bw_behind; with_reducible assumption))); done) | (simp [go_sem, *]; omega) | (simp (maxDischargeDepth := 4) [go_sem, *]; done))
  rintro w3 ⟨hB3, p0, p1, p2, p3, p4, p5, p6, p7, r0, r1⟩
  clear hrb hhb hsb hrc hhc hsc hbb hbc hrowb hrowc
  generalize w.heap.size + 1 = nt at *
  refine wp_abs (fun W => Below w3.heap.size w3 W ∧ W.cell? ⟨w.heap.size, 0, none⟩ = some (.int .u64 S0) ∧ W.cell? ⟨w.heap.size, 1, none⟩ = some (.int .u64 S1) ∧ W.cell? ⟨w.heap.size, 2, none⟩ = some (.int .u64 S2) ∧ W.cell? ⟨w.heap.size, 3, none⟩ = some (.int .u64 S3) ∧ W.cell? ⟨nt, 0, none⟩ = some (.int .u64 T0) ∧ W.cell? ⟨nt, 1, none⟩ = some (.int .u64 T1) ∧ W.cell? ⟨nt, 2, none⟩ = some (.int .u64 T2) ∧ W.cell? ⟨nt, 3, none⟩ = some (.int .u64 T3)) ?_ ?_
  · refine ⟨?_, ?_, ?_, ?_, ?_, ?_, ?_, ?_, ?_⟩
    all_goals (first | with_reducible assumption | ((repeat (first | with_reducible assumption | with_reducible refine c_dr _ ?_ | with_reducible refine c_d1 ?_ | with_reducible refine c_al _ ?_ | (with_reducible refine c_set ?_ ?_; focus (dsimp only; omega)) | (with_reducible apply c_be; with_reducible assumption))); done) | ((repeat (first | with_reducible assumption | with_reducible refine o_dr _ ?_ | with_reducible refine o_d1 ?_ | with_reducible refine o_set ?_ | (with_reducible refine o_new ?_ ?_; (focus (simp)); (focus (simp))) | with_reducible refine o_al _ ?_ | (with_reducible apply o_be; with_reducible assumption))); done) | ((repeat (first | with_reducible assumption | with_reducible exact Below.refl _ _ | with_reducible refine Below.drew ?_ | with_reducible refine below_drewN ?_ _ | with_reducible refine bw_alloc ?_ _ | (with_reducible refine bw_set ?_ ?_ _; focus (dsimp only; omega)) | (with_reducible apply bw_behind; with_reducible assumption))); done) | (simp [go_sem, *]; omega) | (simp (maxDischargeDepth := 4) [go_sem, *]; done))
  rintro w0r ⟨hB0r, cr0, cr1, cr2, cr3, cr4, cr5, cr6, cr7⟩
  have yr0 := behind_cell0 cr0
  have yr1 := behind_cell0 cr1
  have yr2 := behind_cell0 cr2
  have yr3 := behind_cell0 cr3
  have yr4 := behind_cell0 cr4
  have yr5 := behind_cell0 cr5
  have yr6 := behind_cell0 cr6
  have yr7 := behind_cell0 cr7
  have hsome := Behind.any w0r
  clear cr0 cr1 cr2 cr3 cr4 cr5 cr6 cr7
  refine wp_region_behind w0r (by kernel_rfl) (by kernel_rfl) (Below.refl _ _) ?_
  repeat (go_big_quiet_step (first | (go_at_call 9; with_reducible first | exact behind_one Ck1.out _) | (go_at_call 10; with_reducible first | exact behind_one Ca1.out _) | (go_at_call 11; with_reducible first | exact behind_one Cg1.out _) | (go_at_call 12; with_reducible first | exact behind_one Cg2.out _) | (go_at_call 13; with_reducible first | exact behind_one Cw1.out _ | exact behind_one Cw3.out _) | (go_at_call 14; with_reducible first | exact behind_one Cw2.out _ | exact behind_one Cw4.out _)))
  refine wpQuiet_nil ?_
  rintro _ ⟨y, rfl⟩
  have hBy := bw_behind y.below hB0r
  have xr0 := yr0 y
  have xr1 := yr1 y
  have xr2 := yr2 y
  have xr3 := yr3 y
  have xr4 := yr4 y
  have xr5 := yr5 y
  have xr6 := yr6 y
  have xr7 := yr7 y
  clear hsome yr0 yr1 yr2 yr3 yr4 yr5 yr6 yr7
  obtain ⟨w1r, hw1⟩ : ∃ W, W = y.world := ⟨_, rfl⟩
  rw [← hw1] at hBy xr0 xr1 xr2 xr3 xr4 xr5 xr6 xr7 ⊢
  clear hw1 y hB0r
  obtain ⟨z, hz⟩ := below_grew hBy
  have l0 : ltB (w.heap.size) w3.heap.size = true := by unfold ltB; simpa using World.block_lt_of_cell? _ _ p0
  have m0 : w.heap.size < w3.heap.size := World.block_lt_of_cell? _ _ p0
  have l4 : ltB (nt) w3.heap.size = true := by unfold ltB; simpa using World.block_lt_of_cell? _ _ p4
  have m4 : nt < w3.heap.size := World.block_lt_of_cell? _ _ p4
  clear p0 p1 p2 p3 p4 p5 p6 p7
  go_upto_region 6 with (first | (go_at_call 15; (with_reducible first | refine (Co1.out _).mono ?_); rintro e wd ⟨rfl, hbd⟩; have hrd := below_reads hbd; have hhd := below_holds hbd; obtain ⟨md, hsd⟩ := below_grew hbd))
  refine wp_abs (fun W => Below w3.heap.size w3 W ∧ W.cell? ⟨w.heap.size, 0, none⟩ = some (.int .u64 S0) ∧ W.cell? ⟨w.heap.size, 1, none⟩ = some (.int .u64 S1) ∧ W.cell? ⟨w.heap.size, 2, none⟩ = some (.int .u64 S2) ∧ W.cell? ⟨w.heap.size, 3, none⟩ = some (.int .u64 S3) ∧ W.cell? ⟨nt, 0, none⟩ = some (.int .u64 T0) ∧ W.cell? ⟨nt, 1, none⟩ = some (.int .u64 T1) ∧ W.cell? ⟨nt, 2, none⟩ = some (.int .u64 T2) ∧ W.cell? ⟨nt, 3, none⟩ = some (.int .u64 T3) ∧ W.cell? ⟨w3.heap.size + z + md, 0, none⟩ = some (.int .u64 D0) ∧ W.cell? ⟨w3.heap.size + z + md, 1, none⟩ = some (.int .u64 D1) ∧ W.cell? ⟨w3.heap.size + z + md, 2, none⟩ = some (.int .u64 D2) ∧ W.cell? ⟨w3.heap.size + z + md, 3, none⟩ = some (.int .u64 D3)) ?_ ?_
  · refine ⟨?_, ?_, ?_, ?_, ?_, ?_, ?_, ?_, ?_, ?_, ?_, ?_, ?_⟩
    all_goals (first | with_reducible assumption | ((repeat (first | with_reducible assumption | with_reducible refine c_dr _ ?_ | with_reducible refine c_d1 ?_ | with_reducible refine c_al _ ?_ | (with_reducible refine c_set ?_ ?_; focus (dsimp only; omega)) | (with_reducible apply c_be; with_reducible assumption))); done) | ((repeat (first | with_reducible assumption | with_reducible refine k_dr _ ?_ | with_reducible refine k_d1 ?_ | with_reducible refine k_al _ ?_ | (with_reducible refine k_set ?_ ?_; focus (dsimp only; omega)) | (with_reducible apply k_be; with_reducible assumption))); done) | ((repeat (first | with_reducible assumption | with_reducible refine o_dr _ ?_ | with_reducible refine o_d1 ?_ | with_reducible refine o_set ?_ | (with_reducible refine o_new ?_ ?_; (focus (simp)); (focus (simp))) | with_reducible refine o_al _ ?_ | (with_reducible apply o_be; with_reducible assumption))); done) | ((repeat (first | with_reducible assumption | with_reducible exact Below.refl _ _ | with_reducible refine Below.drew ?_ | with_reducible refine below_drewN ?_ _ | with_reducible refine bw_alloc ?_ _ | (with_reducible refine bw_set ?_ ?_ _; focus (dsimp only; omega)) | (with_reducible apply bw_behind; with_reducible assumption))); done) | (simp [go_sem, *]; omega) | (simp (maxDischargeDepth := 4) [go_sem, *]; done))
  rintro w5 ⟨hB5, q0, q1, q2, q3, q4, q5, q6, q7, q8, q9, q10, q11⟩
  clear hrd hhd hsd hbd hBy hz xr0 xr1 xr2 xr3 xr4 xr5 xr6 xr7 l0 l4 m0 m4
  generalize w3.heap.size + z + md = nd at *
  have s0 := hide (k_be hB5 r0)
  have s1 := hide (k_be hB5 r1)
  clear r0 r1
  have HB := hide (bw_behind hB5 hB3)
  clear hB5 hB3
  go_wp2_with fail
  go_loopw [10] (fun i wr => ∃ k : Nat, k ≤ 256 ∧ i = .int .i64 (k : Int) ∧ Below w5.heap.size w5 wr) (fun i _ => 256 - (intOf i).toNat)
  case atStart =>
    refine ⟨0, by omega, rfl, ?_⟩
    repeat (first | with_reducible assumption | with_reducible exact Below.refl _ _ | with_reducible refine Below.drew ?_ | with_reducible refine below_drewN ?_ _ | with_reducible refine bw_alloc ?_ _ | (with_reducible refine bw_set ?_ ?_ _; focus (dsimp only; omega)) | (with_reducible apply bw_behind; with_reducible assumption))
  case round =>
    obtain ⟨k, hk, rfl, hB⟩ := hrel
    by_cases h2 : k < 256
    · replace q0 := c_be hB q0
      replace q1 := c_be hB q1
      replace q2 := c_be hB q2
      replace q3 := c_be hB q3
      replace q4 := c_be hB q4
      replace q5 := c_be hB q5
      replace q6 := c_be hB q6
      replace q7 := c_be hB q7
      replace q8 := c_be hB q8
      replace q9 := c_be hB q9
      replace q10 := c_be hB q10
      replace q11 := c_be hB q11
      have gs := Cgs.out k h2
      have gt := Cgt.out k h2
      have gd := Cgd.out k h2
      have hd := Chd.out k h2
      generalize fs k = u at *
      generalize ft k = v at *
      generalize fd k = d at *
      subst hd
      cases u with
      | false =>
        have Gs := hide gs
        have Gt := hide gt
        have Gd := hide gd
        clear gs gt gd
        go_upto_region 9 with fail
        refine wp_abs (fun W => Below w5.heap.size w5 W ∧ W.cell? ⟨w.heap.size, 0, none⟩ = some (.int .u64 S0) ∧ W.cell? ⟨w.heap.size, 1, none⟩ = some (.int .u64 S1) ∧ W.cell? ⟨w.heap.size, 2, none⟩ = some (.int .u64 S2) ∧ W.cell? ⟨w.heap.size, 3, none⟩ = some (.int .u64 S3) ∧ W.cell? ⟨nt, 0, none⟩ = some (.int .u64 T0) ∧ W.cell? ⟨nt, 1, none⟩ = some (.int .u64 T1) ∧ W.cell? ⟨nt, 2, none⟩ = some (.int .u64 T2) ∧ W.cell? ⟨nt, 3, none⟩ = some (.int .u64 T3) ∧ W.cell? ⟨nd, 0, none⟩ = some (.int .u64 D0) ∧ W.cell? ⟨nd, 1, none⟩ = some (.int .u64 D1) ∧ W.cell? ⟨nd, 2, none⟩ = some (.int .u64 D2) ∧ W.cell? ⟨nd, 3, none⟩ = some (.int .u64 D3)) ?_ ?_
        · refine ⟨?_, ?_, ?_, ?_, ?_, ?_, ?_, ?_, ?_, ?_, ?_, ?_, ?_⟩
          all_goals (first | with_reducible assumption | ((repeat (first | with_reducible assumption | with_reducible refine c_dr _ ?_ | with_reducible refine c_d1 ?_ | with_reducible refine c_al _ ?_ | (with_reducible refine c_set ?_ ?_; focus (dsimp only; omega)) | (with_reducible apply c_be; with_reducible assumption))); done) | ((repeat (first | with_reducible assumption | with_reducible refine o_dr _ ?_ | with_reducible refine o_d1 ?_ | with_reducible refine o_set ?_ | (with_reducible refine o_new ?_ ?_; (focus (simp)); (focus (simp))) | with_reducible refine o_al _ ?_ | (with_reducible apply o_be; with_reducible assumption))); done) | ((repeat (first | with_reducible assumption | with_reducible exact Below.refl _ _ | with_reducible refine Below.drew ?_ | with_reducible refine below_drewN ?_ _ | with_reducible refine bw_alloc ?_ _ | (with_reducible refine bw_set ?_ ?_ _; focus (dsimp only; omega)) | (with_reducible apply bw_behind; with_reducible assumption))); done) | (simp [go_sem, *]; omega) | (simp (maxDischargeDepth := 4) [go_sem, *]; done))
        rintro w0v ⟨hB0v, cv0, cv1, cv2, cv3, cv4, cv5, cv6, cv7, cv8, cv9, cv10, cv11⟩
        have yv0 := behind_cell0 cv0
        have yv1 := behind_cell0 cv1
        have yv2 := behind_cell0 cv2
        have yv3 := behind_cell0 cv3
        have yv4 := behind_cell0 cv4
        have yv5 := behind_cell0 cv5
        have yv6 := behind_cell0 cv6
        have yv7 := behind_cell0 cv7
        have yv8 := behind_cell0 cv8
        have yv9 := behind_cell0 cv9
        have yv10 := behind_cell0 cv10
        have yv11 := behind_cell0 cv11
        have hsome := Behind.any w0v
        clear cv0 cv1 cv2 cv3 cv4 cv5 cv6 cv7 cv8 cv9 cv10 cv11
        refine wp_region_behind w0v (by kernel_rfl) (by kernel_rfl) (Below.refl _ _) ?_
        repeat (go_big_quiet_step (first | (go_at_call 11; with_reducible first | exact behind_one Gd.out _ | exact behind_one Gs.out _)))
        refine wpQuiet_nil ?_
        rintro _ ⟨y, rfl⟩
        have hBy := bw_behind y.below hB0v
        have xv0 := yv0 y
        have xv1 := yv1 y
        have xv2 := yv2 y
        have xv3 := yv3 y
        have xv4 := yv4 y
        have xv5 := yv5 y
        have xv6 := yv6 y
        have xv7 := yv7 y
        have xv8 := yv8 y
        have xv9 := yv9 y
        have xv10 := yv10 y
        have xv11 := yv11 y
        clear hsome yv0 yv1 yv2 yv3 yv4 yv5 yv6 yv7 yv8 yv9 yv10 yv11
        obtain ⟨w1v, hw1⟩ : ∃ W, W = y.world := ⟨_, rfl⟩
        rw [← hw1] at hBy xv0 xv1 xv2 xv3 xv4 xv5 xv6 xv7 xv8 xv9 xv10 xv11 ⊢
        clear hw1 y hB0v
        go_wp2_with fail
        go_roundw
        case rel =>
          refine ⟨k + 1, by omega, by go_num, ?_⟩
          repeat (first | with_reducible assumption | with_reducible exact Below.refl _ _ | with_reducible refine Below.drew ?_ | with_reducible refine below_drewN ?_ _ | with_reducible refine bw_alloc ?_ _ | (with_reducible refine bw_set ?_ ?_ _; focus (dsimp only; omega)) | (with_reducible apply bw_behind; with_reducible assumption))
        case measure => simp [intOf]; omega
      | true =>
        cases v with
        | true =>
          have Gs := hide gs
          have Gt := hide gt
          have Gd := hide gd
          clear gs gt gd
          go_upto_region 9 with fail
          refine wp_abs (fun W => Below w5.heap.size w5 W ∧ W.cell? ⟨w.heap.size, 0, none⟩ = some (.int .u64 S0) ∧ W.cell? ⟨w.heap.size, 1, none⟩ = some (.int .u64 S1) ∧ W.cell? ⟨w.heap.size, 2, none⟩ = some (.int .u64 S2) ∧ W.cell? ⟨w.heap.size, 3, none⟩ = some (.int .u64 S3) ∧ W.cell? ⟨nt, 0, none⟩ = some (.int .u64 T0) ∧ W.cell? ⟨nt, 1, none⟩ = some (.int .u64 T1) ∧ W.cell? ⟨nt, 2, none⟩ = some (.int .u64 T2) ∧ W.cell? ⟨nt, 3, none⟩ = some (.int .u64 T3) ∧ W.cell? ⟨nd, 0, none⟩ = some (.int .u64 D0) ∧ W.cell? ⟨nd, 1, none⟩ = some (.int .u64 D1) ∧ W.cell? ⟨nd, 2, none⟩ = some (.int .u64 D2) ∧ W.cell? ⟨nd, 3, none⟩ = some (.int .u64 D3)) ?_ ?_
          · refine ⟨?_, ?_, ?_, ?_, ?_, ?_, ?_, ?_, ?_, ?_, ?_, ?_, ?_⟩
            all_goals (first | with_reducible assumption | ((repeat (first | with_reducible assumption | with_reducible refine c_dr _ ?_ | with_reducible refine c_d1 ?_ | with_reducible refine c_al _ ?_ | (with_reducible refine c_set ?_ ?_; focus (dsimp only; omega)) | (with_reducible apply c_be; with_reducible assumption))); done) | ((repeat (first | with_reducible assumption | with_reducible refine o_dr _ ?_ | with_reducible refine o_d1 ?_ | with_reducible refine o_set ?_ | (with_reducible refine o_new ?_ ?_; (focus (simp)); (focus (simp))) | with_reducible refine o_al _ ?_ | (with_reducible apply o_be; with_reducible assumption))); done) | ((repeat (first | with_reducible assumption | with_reducible exact Below.refl _ _ | with_reducible refine Below.drew ?_ | with_reducible refine below_drewN ?_ _ | with_reducible refine bw_alloc ?_ _ | (with_reducible refine bw_set ?_ ?_ _; focus (dsimp only; omega)) | (with_reducible apply bw_behind; with_reducible assumption))); done) | (simp [go_sem, *]; omega) | (simp (maxDischargeDepth := 4) [go_sem, *]; done))
          rintro w0v ⟨hB0v, cv0, cv1, cv2, cv3, cv4, cv5, cv6, cv7, cv8, cv9, cv10, cv11⟩
          have yv0 := behind_cell0 cv0
          have yv1 := behind_cell0 cv1
          have yv2 := behind_cell0 cv2
          have yv3 := behind_cell0 cv3
          have yv4 := behind_cell0 cv4
          have yv5 := behind_cell0 cv5
          have yv6 := behind_cell0 cv6
          have yv7 := behind_cell0 cv7
          have yv8 := behind_cell0 cv8
          have yv9 := behind_cell0 cv9
          have yv10 := behind_cell0 cv10
          have yv11 := behind_cell0 cv11
          have hsome := Behind.any w0v
          clear cv0 cv1 cv2 cv3 cv4 cv5 cv6 cv7 cv8 cv9 cv10 cv11
          refine wp_region_behind w0v (by kernel_rfl) (by kernel_rfl) (Below.refl _ _) ?_
          repeat (go_big_quiet_step (first | (go_at_call 11; with_reducible first | exact behind_one Gd.out _ | exact behind_one Gs.out _ | exact behind_one Gt.out _)))
          refine wpQuiet_nil ?_
          rintro _ ⟨y, rfl⟩
          have hBy := bw_behind y.below hB0v
          have xv0 := yv0 y
          have xv1 := yv1 y
          have xv2 := yv2 y
          have xv3 := yv3 y
          have xv4 := yv4 y
          have xv5 := yv5 y
          have xv6 := yv6 y
          have xv7 := yv7 y
          have xv8 := yv8 y
          have xv9 := yv9 y
          have xv10 := yv10 y
          have xv11 := yv11 y
          clear hsome yv0 yv1 yv2 yv3 yv4 yv5 yv6 yv7 yv8 yv9 yv10 yv11
          obtain ⟨w1v, hw1⟩ : ∃ W, W = y.world := ⟨_, rfl⟩
          rw [← hw1] at hBy xv0 xv1 xv2 xv3 xv4 xv5 xv6 xv7 xv8 xv9 xv10 xv11 ⊢
          clear hw1 y hB0v
          go_wp2_with fail
          go_roundw
          case rel =>
            refine ⟨k + 1, by omega, by go_num, ?_⟩
            repeat (first | with_reducible assumption | with_reducible exact Below.refl _ _ | with_reducible refine Below.drew ?_ | with_reducible refine below_drewN ?_ _ | with_reducible refine bw_alloc ?_ _ | (with_reducible refine bw_set ?_ ?_ _; focus (dsimp only; omega)) | (with_reducible apply bw_behind; with_reducible assumption))
          case measure => simp [intOf]; omega
        | false =>
          have Gs := hide gs
          have Gt := hide gt
          have Gd := hide gd
          clear gs gt gd
          go_upto_region 9 with fail
          refine wp_abs (fun W => Below w5.heap.size w5 W ∧ W.cell? ⟨w.heap.size, 0, none⟩ = some (.int .u64 S0) ∧ W.cell? ⟨w.heap.size, 1, none⟩ = some (.int .u64 S1) ∧ W.cell? ⟨w.heap.size, 2, none⟩ = some (.int .u64 S2) ∧ W.cell? ⟨w.heap.size, 3, none⟩ = some (.int .u64 S3) ∧ W.cell? ⟨nt, 0, none⟩ = some (.int .u64 T0) ∧ W.cell? ⟨nt, 1, none⟩ = some (.int .u64 T1) ∧ W.cell? ⟨nt, 2, none⟩ = some (.int .u64 T2) ∧ W.cell? ⟨nt, 3, none⟩ = some (.int .u64 T3) ∧ W.cell? ⟨nd, 0, none⟩ = some (.int .u64 D0) ∧ W.cell? ⟨nd, 1, none⟩ = some (.int .u64 D1) ∧ W.cell? ⟨nd, 2, none⟩ = some (.int .u64 D2) ∧ W.cell? ⟨nd, 3, none⟩ = some (.int .u64 D3)) ?_ ?_
          · refine ⟨?_, ?_, ?_, ?_, ?_, ?_, ?_, ?_, ?_, ?_, ?_, ?_, ?_⟩
            all_goals (first | with_reducible assumption | ((repeat (first | with_reducible assumption | with_reducible refine c_dr _ ?_ | with_reducible refine c_d1 ?_ | with_reducible refine c_al _ ?_ | (with_reducible refine c_set ?_ ?_; focus (dsimp only; omega)) | (with_reducible apply c_be; with_reducible assumption))); done) | ((repeat (first | with_reducible assumption | with_reducible refine o_dr _ ?_ | with_reducible refine o_d1 ?_ | with_reducible refine o_set ?_ | (with_reducible refine o_new ?_ ?_; (focus (simp)); (focus (simp))) | with_reducible refine o_al _ ?_ | (with_reducible apply o_be; with_reducible assumption))); done) | ((repeat (first | with_reducible assumption | with_reducible exact Below.refl _ _ | with_reducible refine Below.drew ?_ | with_reducible refine below_drewN ?_ _ | with_reducible refine bw_alloc ?_ _ | (with_reducible refine bw_set ?_ ?_ _; focus (dsimp only; omega)) | (with_reducible apply bw_behind; with_reducible assumption))); done) | (simp [go_sem, *]; omega) | (simp (maxDischargeDepth := 4) [go_sem, *]; done))
          rintro w0v ⟨hB0v, cv0, cv1, cv2, cv3, cv4, cv5, cv6, cv7, cv8, cv9, cv10, cv11⟩
          have yv0 := behind_cell0 cv0
          have yv1 := behind_cell0 cv1
          have yv2 := behind_cell0 cv2
          have yv3 := behind_cell0 cv3
          have yv4 := behind_cell0 cv4
          have yv5 := behind_cell0 cv5
          have yv6 := behind_cell0 cv6
          have yv7 := behind_cell0 cv7
          have yv8 := behind_cell0 cv8
          have yv9 := behind_cell0 cv9
          have yv10 := behind_cell0 cv10
          have yv11 := behind_cell0 cv11
          have hsome := Behind.any w0v
          clear cv0 cv1 cv2 cv3 cv4 cv5 cv6 cv7 cv8 cv9 cv10 cv11
          refine wp_region_behind w0v (by kernel_rfl) (by kernel_rfl) (Below.refl _ _) ?_
          repeat (go_big_quiet_step (first | (go_at_call 11; with_reducible first | exact behind_one Gd.out _ | exact behind_one Gs.out _ | exact behind_one Gt.out _)))
          refine wpQuiet_nil ?_
          rintro _ ⟨y, rfl⟩
          have hBy := bw_behind y.below hB0v
          have xv0 := yv0 y
          have xv1 := yv1 y
          have xv2 := yv2 y
          have xv3 := yv3 y
          have xv4 := yv4 y
          have xv5 := yv5 y
          have xv6 := yv6 y
          have xv7 := yv7 y
          have xv8 := yv8 y
          have xv9 := yv9 y
          have xv10 := yv10 y
          have xv11 := yv11 y
          clear hsome yv0 yv1 yv2 yv3 yv4 yv5 yv6 yv7 yv8 yv9 yv10 yv11
          obtain ⟨w1v, hw1⟩ : ∃ W, W = y.world := ⟨_, rfl⟩
          rw [← hw1] at hBy xv0 xv1 xv2 xv3 xv4 xv5 xv6 xv7 xv8 xv9 xv10 xv11 ⊢
          clear hw1 y hB0v
          go_wp2_with fail
          go_roundw
          case rel =>
            refine ⟨k + 1, by omega, by go_num, ?_⟩
            repeat (first | with_reducible assumption | with_reducible exact Below.refl _ _ | with_reducible refine Below.drew ?_ | with_reducible refine below_drewN ?_ _ | with_reducible refine bw_alloc ?_ _ | (with_reducible refine bw_set ?_ ?_ _; focus (dsimp only; omega)) | (with_reducible apply bw_behind; with_reducible assumption))
          case measure => simp [intOf]; omega
    · obtain rfl : k = 256 := by omega
      clear q0 q1 q2 q3 q4 q5 q6 q7 q8 q9 q10 q11
      go_wp2_with fail
      go_loopw [11] (fun i wq => ∃ k : Nat, k ≤ l.length ∧ i = .int .i64 (k : Int) ∧ Below w5.heap.size w5 wq) (fun i _ => l.length - (intOf i).toNat)
      case atStart =>
        refine ⟨0, by omega, rfl, ?_⟩
        repeat (first | with_reducible assumption | with_reducible exact Below.refl _ _ | with_reducible refine Below.drew ?_ | with_reducible refine below_drewN ?_ _ | with_reducible refine bw_alloc ?_ _ | (with_reducible refine bw_set ?_ ?_ _; focus (dsimp only; omega)) | (with_reducible apply bw_behind; with_reducible assumption))
      case round =>
        clear hB
        obtain ⟨j, hj, rfl, hB⟩ := hrel
        by_cases h3 : j < l.length
        · have e0 := c_be hB (s0.out j (.int .i64 l[j]) (by simp [h3]))
          have e1 := c_be hB (s1.out j (.int .i64 l[j]) (by simp [h3]))
          have hx : (j : Int) < (l.length : Int) := by omega
          have hx0 : (0 : Int) ≤ (j : Int) := by omega
          generalize l[j] = E at *
          go_upto_region 14 with fail
          go_quiet (fail)
          go_wp2_with fail
          go_roundw
          case rel =>
            refine ⟨j + 1, by omega, by go_num, ?_⟩
            repeat (first | with_reducible assumption | with_reducible exact Below.refl _ _ | with_reducible refine Below.drew ?_ | with_reducible refine below_drewN ?_ _ | with_reducible refine bw_alloc ?_ _ | (with_reducible refine bw_set ?_ ?_ _; focus (dsimp only; omega)) | (with_reducible apply bw_behind; with_reducible assumption))
          case measure => simp [intOf]; omega
        · obtain rfl : j = l.length := by omega
          go_wp2_with (first | (go_at_call 9; (with_reducible first | refine (Ck5.out _).mono ?_); rintro e wn ⟨rfl, hbn⟩; have hrn := below_reads hbn; have hhn := below_holds hbn; obtain ⟨mn, hsn⟩ := below_grew hbn))
          refine bodyPost_ret (v := .bool true) (by simp (maxDischargeDepth := 4) [results, Try.results3, go_sem, *]) rfl ?_
          have HBw := HB.out
          refine ⟨rfl, ?_⟩
          repeat (first | with_reducible assumption | with_reducible exact Below.refl _ _ | with_reducible refine Below.drew ?_ | with_reducible refine below_drewN ?_ _ | with_reducible refine bw_alloc ?_ _ | (with_reducible refine bw_set ?_ ?_ _; focus (dsimp only; omega)) | (with_reducible apply bw_behind; with_reducible assumption))

set_option maxRecDepth 100000 in
set_option maxHeartbeats 40000000 in
theorem walk_e (J S0 S1 S2 S3 T0 T1 T2 T3 X0 X1 X2 X3 Y0 Y1 Y2 Y3 D0 D1 D2 D3 : Int) (b : Bool) (fs ft fd : Nat → Bool) (l1 : ∀ W, Calls Try.prog 7 #[.agg #[.int .u64 S0, .int .u64 S1, .int .u64 S2, .int .u64 S3]] W (Makes (.slice none 0 0) W)) (l2 : ∀ W, Calls Try.prog 8 #[.agg #[.int .u64 S0, .int .u64 S1, .int .u64 S2, .int .u64 S3]] W (Makes (.slice none 0 0) W)) (k1 : ∀ W, Calls Try.prog 9 #[.agg #[.int .u64 S0, .int .u64 S1, .int .u64 S2, .int .u64 S3]] W (Makes (.int .i64 0) W)) (a1 : ∀ W, Calls Try.prog 10 #[.agg #[.int .u64 S0, .int .u64 S1, .int .u64 S2, .int .u64 S3]] W (Makes (.bool false) W)) (g1 : ∀ W, Calls Try.prog 11 #[.agg #[.int .u64 S0, .int .u64 S1, .int .u64 S2, .int .u64 S3], .int .i64 J] W (Makes (.bool b) W)) (g2 : ∀ W, Calls Try.prog 12 #[.agg #[.int .u64 S0, .int .u64 S1, .int .u64 S2, .int .u64 S3], .int .i64 J] W (Makes (.bool b) W)) (w1 : ∀ W, Calls Try.prog 13 #[.agg #[.int .u64 S0, .int .u64 S1, .int .u64 S2, .int .u64 S3], .int .i64 J, .bool true] W (Makes (.agg #[.int .u64 X0, .int .u64 X1, .int .u64 X2, .int .u64 X3]) W)) (w2 : ∀ W, Calls Try.prog 14 #[.agg #[.int .u64 S0, .int .u64 S1, .int .u64 S2, .int .u64 S3], .int .i64 J, .bool true] W (Makes (.agg #[.int .u64 X0, .int .u64 X1, .int .u64 X2, .int .u64 X3]) W)) (w3 : ∀ W, Calls Try.prog 13 #[.agg #[.int .u64 S0, .int .u64 S1, .int .u64 S2, .int .u64 S3], .int .i64 J, .bool false] W (Makes (.agg #[.int .u64 Y0, .int .u64 Y1, .int .u64 Y2, .int .u64 Y3]) W)) (w4 : ∀ W, Calls Try.prog 14 #[.agg #[.int .u64 S0, .int .u64 S1, .int .u64 S2, .int .u64 S3], .int .i64 J, .bool false] W (Makes (.agg #[.int .u64 Y0, .int .u64 Y1, .int .u64 Y2, .int .u64 Y3]) W)) (o1 : ∀ W, Calls Try.prog 15 #[.agg #[.int .u64 S0, .int .u64 S1, .int .u64 S2, .int .u64 S3], .agg #[.int .u64 T0, .int .u64 T1, .int .u64 T2, .int .u64 T3]] W (Makes (.agg #[.int .u64 D0, .int .u64 D1, .int .u64 D2, .int .u64 D3]) W)) (gs : ∀ k : Nat, k < 256 → ∀ W, Calls Try.prog 11 #[.agg #[.int .u64 S0, .int .u64 S1, .int .u64 S2, .int .u64 S3], .int .i64 (k : Int)] W (Makes (.bool (fs k)) W)) (gt : ∀ k : Nat, k < 256 → ∀ W, Calls Try.prog 11 #[.agg #[.int .u64 T0, .int .u64 T1, .int .u64 T2, .int .u64 T3], .int .i64 (k : Int)] W (Makes (.bool (ft k)) W)) (gd : ∀ k : Nat, k < 256 → ∀ W, Calls Try.prog 11 #[.agg #[.int .u64 D0, .int .u64 D1, .int .u64 D2, .int .u64 D3], .int .i64 (k : Int)] W (Makes (.bool (fd k)) W)) (hd : ∀ k : Nat, k < 256 → fd k = (fs k && !ft k)) (k5 : ∀ W, Calls Try.prog 9 #[.agg #[.int .u64 5, .int .u64 0, .int .u64 0, .int .u64 0]] W (Makes (.int .i64 2) W)) (w : World) :
    Calls Try.prog 3 #[.agg #[.int .u64 S0, .int .u64 S1, .int .u64 S2, .int .u64 S3], .agg #[.int .u64 T0, .int .u64 T1, .int .u64 T2, .int .u64 T3], .int .i64 J] w (Makes (.bool true) w) := by
  have Cl1 := hide l1
  have Cl2 := hide l2
  have Ck1 := hide k1
  have Ca1 := hide a1
  have Cg1 := hide g1
  have Cg2 := hide g2
  have Cw1 := hide w1
  have Cw2 := hide w2
  have Cw3 := hide w3
  have Cw4 := hide w4
  have Co1 := hide o1
  have Cgs := hide gs
  have Cgt := hide gt
  have Cgd := hide gd
  have Chd := hide hd
  have Ck5 := hide k5
  clear l1 l2 k1 a1 g1 g2 w1 w2 w3 w4 o1 gs gt gd hd k5
  have EIx : ∀ W, (Op.equalIn 10000 24 (.agg #[.int .u64 X0, .int .u64 X1, .int .u64 X2, .int .u64 X3]) (.agg #[.int .u64 X0, .int .u64 X1, .int .u64 X2, .int .u64 X3])).run Try.prog W = .ok true W := fun W => by
    rw [eqi_arr, decide_eq_true ⟨rfl, rfl, rfl, rfl⟩]
  have EEx : ∀ W, (binOp .eql 24 (.agg #[.int .u64 X0, .int .u64 X1, .int .u64 X2, .int .u64 X3]) (.agg #[.int .u64 X0, .int .u64 X1, .int .u64 X2, .int .u64 X3])).run Try.prog W = .ok (.bool true) W := fun W => by
    rw [run_eql_struct, EIx]
    rfl
  have NEx : ∀ W, (binOp .neq 24 (.agg #[.int .u64 X0, .int .u64 X1, .int .u64 X2, .int .u64 X3]) (.agg #[.int .u64 X0, .int .u64 X1, .int .u64 X2, .int .u64 X3])).run Try.prog W = .ok (.bool false) W := fun W => by
    rw [run_neq_struct, EIx]
    rfl
  have EIy : ∀ W, (Op.equalIn 10000 24 (.agg #[.int .u64 Y0, .int .u64 Y1, .int .u64 Y2, .int .u64 Y3]) (.agg #[.int .u64 Y0, .int .u64 Y1, .int .u64 Y2, .int .u64 Y3])).run Try.prog W = .ok true W := fun W => by
    rw [eqi_arr, decide_eq_true ⟨rfl, rfl, rfl, rfl⟩]
  have EEy : ∀ W, (binOp .eql 24 (.agg #[.int .u64 Y0, .int .u64 Y1, .int .u64 Y2, .int .u64 Y3]) (.agg #[.int .u64 Y0, .int .u64 Y1, .int .u64 Y2, .int .u64 Y3])).run Try.prog W = .ok (.bool true) W := fun W => by
    rw [run_eql_struct, EIy]
    rfl
  have NEy : ∀ W, (binOp .neq 24 (.agg #[.int .u64 Y0, .int .u64 Y1, .int .u64 Y2, .int .u64 Y3]) (.agg #[.int .u64 Y0, .int .u64 Y1, .int .u64 Y2, .int .u64 Y3])).run Try.prog W = .ok (.bool false) W := fun W => by
    rw [run_neq_struct, EIy]
    rfl
  have SS := cell_same
  have LB' := ltB_add
  have LS := ltB_self
  have LA' := alloc_reads
  have LH := alloc_holds
  go_enter Try.func3, Try.ntmps3
  go_upto_region 3 with (first | (go_at_call 7; (with_reducible first | refine (Cl1.out _).mono ?_); rintro e wb ⟨rfl, hbb⟩; have hrb := below_reads hbb; have hhb := below_holds hbb; obtain ⟨mb, hsb⟩ := below_grew hbb) | (go_at_call 8; (with_reducible first | refine (Cl2.out _).mono ?_); rintro e wc ⟨rfl, hbc⟩; have hrc := below_reads hbc; have hhc := below_holds hbc; obtain ⟨mc, hsc⟩ := below_grew hbc))
  refine wp_abs (fun W => Below w.heap.size w W ∧ W.cell? ⟨w.heap.size, 0, none⟩ = some (.int .u64 S0) ∧ W.cell? ⟨w.heap.size, 1, none⟩ = some (.int .u64 S1) ∧ W.cell? ⟨w.heap.size, 2, none⟩ = some (.int .u64 S2) ∧ W.cell? ⟨w.heap.size, 3, none⟩ = some (.int .u64 S3) ∧ W.cell? ⟨w.heap.size + 1, 0, none⟩ = some (.int .u64 T0) ∧ W.cell? ⟨w.heap.size + 1, 1, none⟩ = some (.int .u64 T1) ∧ W.cell? ⟨w.heap.size + 1, 2, none⟩ = some (.int .u64 T2) ∧ W.cell? ⟨w.heap.size + 1, 3, none⟩ = some (.int .u64 T3)) ?_ ?_
  · refine ⟨?_, ?_, ?_, ?_, ?_, ?_, ?_, ?_, ?_⟩
    all_goals (first | with_reducible assumption | ((repeat (first | with_reducible assumption | with_reducible refine c_dr _ ?_ | with_reducible refine c_d1 ?_ | with_reducible refine c_al _ ?_ | (with_reducible refine c_set ?_ ?_; focus (dsimp only; omega)) | (with_reducible apply c_be; with_reducible assumption))); done) | ((repeat (first | with_reducible assumption | with_reducible refine k_dr _ ?_ | with_reducible refine k_d1 ?_ | with_reducible refine k_al _ ?_ | (with_reducible refine k_set ?_ ?_; focus (dsimp only; omega)) | (with_reducible apply k_be; with_reducible assumption))); done) | ((repeat (first | with_reducible assumption | with_reducible refine o_dr _ ?_ | with_reducible refine o_d1 ?_ | with_reducible refine o_set ?_ | (with_reducible refine o_new ?_ ?_; (focus (simp)); (focus (simp))) | with_reducible refine o_al _ ?_ | (with_reducible apply o_be; with_reducible assumption))); done) | ((repeat (first | with_reducible assumption | with_reducible exact Below.refl _ _ | with_reducible refine Below.drew ?_ | with_reducible refine below_drewN ?_ _ | with_reducible refine bw_alloc ?_ _ | (with_reducible refine bw_set ?_ ?_ _; focus (dsimp only; omega)) | (with_reducible apply bw_behind; with_reducible assumption))); done) | (simp [go_sem, *]; omega) | (simp (maxDischargeDepth := 4) [go_sem, *]; done))
  rintro w3 ⟨hB3, p0, p1, p2, p3, p4, p5, p6, p7⟩
  clear hrb hhb hsb hrc hhc hsc hbb hbc
  generalize w.heap.size + 1 = nt at *
  refine wp_abs (fun W => Below w3.heap.size w3 W ∧ W.cell? ⟨w.heap.size, 0, none⟩ = some (.int .u64 S0) ∧ W.cell? ⟨w.heap.size, 1, none⟩ = some (.int .u64 S1) ∧ W.cell? ⟨w.heap.size, 2, none⟩ = some (.int .u64 S2) ∧ W.cell? ⟨w.heap.size, 3, none⟩ = some (.int .u64 S3) ∧ W.cell? ⟨nt, 0, none⟩ = some (.int .u64 T0) ∧ W.cell? ⟨nt, 1, none⟩ = some (.int .u64 T1) ∧ W.cell? ⟨nt, 2, none⟩ = some (.int .u64 T2) ∧ W.cell? ⟨nt, 3, none⟩ = some (.int .u64 T3)) ?_ ?_
  · refine ⟨?_, ?_, ?_, ?_, ?_, ?_, ?_, ?_, ?_⟩
    all_goals (first | with_reducible assumption | ((repeat (first | with_reducible assumption | with_reducible refine c_dr _ ?_ | with_reducible refine c_d1 ?_ | with_reducible refine c_al _ ?_ | (with_reducible refine c_set ?_ ?_; focus (dsimp only; omega)) | (with_reducible apply c_be; with_reducible assumption))); done) | ((repeat (first | with_reducible assumption | with_reducible refine o_dr _ ?_ | with_reducible refine o_d1 ?_ | with_reducible refine o_set ?_ | (with_reducible refine o_new ?_ ?_; (focus (simp)); (focus (simp))) | with_reducible refine o_al _ ?_ | (with_reducible apply o_be; with_reducible assumption))); done) | ((repeat (first | with_reducible assumption | with_reducible exact Below.refl _ _ | with_reducible refine Below.drew ?_ | with_reducible refine below_drewN ?_ _ | with_reducible refine bw_alloc ?_ _ | (with_reducible refine bw_set ?_ ?_ _; focus (dsimp only; omega)) | (with_reducible apply bw_behind; with_reducible assumption))); done) | (simp [go_sem, *]; omega) | (simp (maxDischargeDepth := 4) [go_sem, *]; done))
  rintro w0r ⟨hB0r, cr0, cr1, cr2, cr3, cr4, cr5, cr6, cr7⟩
  have yr0 := behind_cell0 cr0
  have yr1 := behind_cell0 cr1
  have yr2 := behind_cell0 cr2
  have yr3 := behind_cell0 cr3
  have yr4 := behind_cell0 cr4
  have yr5 := behind_cell0 cr5
  have yr6 := behind_cell0 cr6
  have yr7 := behind_cell0 cr7
  have hsome := Behind.any w0r
  clear cr0 cr1 cr2 cr3 cr4 cr5 cr6 cr7
  refine wp_region_behind w0r (by kernel_rfl) (by kernel_rfl) (Below.refl _ _) ?_
  repeat (go_big_quiet_step (first | (go_at_call 9; with_reducible first | exact behind_one Ck1.out _) | (go_at_call 10; with_reducible first | exact behind_one Ca1.out _) | (go_at_call 11; with_reducible first | exact behind_one Cg1.out _) | (go_at_call 12; with_reducible first | exact behind_one Cg2.out _) | (go_at_call 13; with_reducible first | exact behind_one Cw1.out _ | exact behind_one Cw3.out _) | (go_at_call 14; with_reducible first | exact behind_one Cw2.out _ | exact behind_one Cw4.out _)))
  refine wpQuiet_nil ?_
  rintro _ ⟨y, rfl⟩
  have hBy := bw_behind y.below hB0r
  have xr0 := yr0 y
  have xr1 := yr1 y
  have xr2 := yr2 y
  have xr3 := yr3 y
  have xr4 := yr4 y
  have xr5 := yr5 y
  have xr6 := yr6 y
  have xr7 := yr7 y
  clear hsome yr0 yr1 yr2 yr3 yr4 yr5 yr6 yr7
  obtain ⟨w1r, hw1⟩ : ∃ W, W = y.world := ⟨_, rfl⟩
  rw [← hw1] at hBy xr0 xr1 xr2 xr3 xr4 xr5 xr6 xr7 ⊢
  clear hw1 y hB0r
  obtain ⟨z, hz⟩ := below_grew hBy
  have l0 : ltB (w.heap.size) w3.heap.size = true := by unfold ltB; simpa using World.block_lt_of_cell? _ _ p0
  have m0 : w.heap.size < w3.heap.size := World.block_lt_of_cell? _ _ p0
  have l4 : ltB (nt) w3.heap.size = true := by unfold ltB; simpa using World.block_lt_of_cell? _ _ p4
  have m4 : nt < w3.heap.size := World.block_lt_of_cell? _ _ p4
  clear p0 p1 p2 p3 p4 p5 p6 p7
  go_upto_region 6 with (first | (go_at_call 15; (with_reducible first | refine (Co1.out _).mono ?_); rintro e wd ⟨rfl, hbd⟩; have hrd := below_reads hbd; have hhd := below_holds hbd; obtain ⟨md, hsd⟩ := below_grew hbd))
  refine wp_abs (fun W => Below w3.heap.size w3 W ∧ W.cell? ⟨w.heap.size, 0, none⟩ = some (.int .u64 S0) ∧ W.cell? ⟨w.heap.size, 1, none⟩ = some (.int .u64 S1) ∧ W.cell? ⟨w.heap.size, 2, none⟩ = some (.int .u64 S2) ∧ W.cell? ⟨w.heap.size, 3, none⟩ = some (.int .u64 S3) ∧ W.cell? ⟨nt, 0, none⟩ = some (.int .u64 T0) ∧ W.cell? ⟨nt, 1, none⟩ = some (.int .u64 T1) ∧ W.cell? ⟨nt, 2, none⟩ = some (.int .u64 T2) ∧ W.cell? ⟨nt, 3, none⟩ = some (.int .u64 T3) ∧ W.cell? ⟨w3.heap.size + z + md, 0, none⟩ = some (.int .u64 D0) ∧ W.cell? ⟨w3.heap.size + z + md, 1, none⟩ = some (.int .u64 D1) ∧ W.cell? ⟨w3.heap.size + z + md, 2, none⟩ = some (.int .u64 D2) ∧ W.cell? ⟨w3.heap.size + z + md, 3, none⟩ = some (.int .u64 D3)) ?_ ?_
  · refine ⟨?_, ?_, ?_, ?_, ?_, ?_, ?_, ?_, ?_, ?_, ?_, ?_, ?_⟩
    all_goals (first | with_reducible assumption | ((repeat (first | with_reducible assumption | with_reducible refine c_dr _ ?_ | with_reducible refine c_d1 ?_ | with_reducible refine c_al _ ?_ | (with_reducible refine c_set ?_ ?_; focus (dsimp only; omega)) | (with_reducible apply c_be; with_reducible assumption))); done) | ((repeat (first | with_reducible assumption | with_reducible refine k_dr _ ?_ | with_reducible refine k_d1 ?_ | with_reducible refine k_al _ ?_ | (with_reducible refine k_set ?_ ?_; focus (dsimp only; omega)) | (with_reducible apply k_be; with_reducible assumption))); done) | ((repeat (first | with_reducible assumption | with_reducible refine o_dr _ ?_ | with_reducible refine o_d1 ?_ | with_reducible refine o_set ?_ | (with_reducible refine o_new ?_ ?_; (focus (simp)); (focus (simp))) | with_reducible refine o_al _ ?_ | (with_reducible apply o_be; with_reducible assumption))); done) | ((repeat (first | with_reducible assumption | with_reducible exact Below.refl _ _ | with_reducible refine Below.drew ?_ | with_reducible refine below_drewN ?_ _ | with_reducible refine bw_alloc ?_ _ | (with_reducible refine bw_set ?_ ?_ _; focus (dsimp only; omega)) | (with_reducible apply bw_behind; with_reducible assumption))); done) | (simp [go_sem, *]; omega) | (simp (maxDischargeDepth := 4) [go_sem, *]; done))
  rintro w5 ⟨hB5, q0, q1, q2, q3, q4, q5, q6, q7, q8, q9, q10, q11⟩
  clear hrd hhd hsd hbd hBy hz xr0 xr1 xr2 xr3 xr4 xr5 xr6 xr7 l0 l4 m0 m4
  generalize w3.heap.size + z + md = nd at *
  have HB := hide (bw_behind hB5 hB3)
  clear hB5 hB3
  go_wp2_with fail
  go_loopw [10] (fun i wr => ∃ k : Nat, k ≤ 256 ∧ i = .int .i64 (k : Int) ∧ Below w5.heap.size w5 wr) (fun i _ => 256 - (intOf i).toNat)
  case atStart =>
    refine ⟨0, by omega, rfl, ?_⟩
    repeat (first | with_reducible assumption | with_reducible exact Below.refl _ _ | with_reducible refine Below.drew ?_ | with_reducible refine below_drewN ?_ _ | with_reducible refine bw_alloc ?_ _ | (with_reducible refine bw_set ?_ ?_ _; focus (dsimp only; omega)) | (with_reducible apply bw_behind; with_reducible assumption))
  case round =>
    obtain ⟨k, hk, rfl, hB⟩ := hrel
    by_cases h2 : k < 256
    · replace q0 := c_be hB q0
      replace q1 := c_be hB q1
      replace q2 := c_be hB q2
      replace q3 := c_be hB q3
      replace q4 := c_be hB q4
      replace q5 := c_be hB q5
      replace q6 := c_be hB q6
      replace q7 := c_be hB q7
      replace q8 := c_be hB q8
      replace q9 := c_be hB q9
      replace q10 := c_be hB q10
      replace q11 := c_be hB q11
      have gs := Cgs.out k h2
      have gt := Cgt.out k h2
      have gd := Cgd.out k h2
      have hd := Chd.out k h2
      generalize fs k = u at *
      generalize ft k = v at *
      generalize fd k = d at *
      subst hd
      cases u with
      | false =>
        have Gs := hide gs
        have Gt := hide gt
        have Gd := hide gd
        clear gs gt gd
        go_upto_region 9 with fail
        refine wp_abs (fun W => Below w5.heap.size w5 W ∧ W.cell? ⟨w.heap.size, 0, none⟩ = some (.int .u64 S0) ∧ W.cell? ⟨w.heap.size, 1, none⟩ = some (.int .u64 S1) ∧ W.cell? ⟨w.heap.size, 2, none⟩ = some (.int .u64 S2) ∧ W.cell? ⟨w.heap.size, 3, none⟩ = some (.int .u64 S3) ∧ W.cell? ⟨nt, 0, none⟩ = some (.int .u64 T0) ∧ W.cell? ⟨nt, 1, none⟩ = some (.int .u64 T1) ∧ W.cell? ⟨nt, 2, none⟩ = some (.int .u64 T2) ∧ W.cell? ⟨nt, 3, none⟩ = some (.int .u64 T3) ∧ W.cell? ⟨nd, 0, none⟩ = some (.int .u64 D0) ∧ W.cell? ⟨nd, 1, none⟩ = some (.int .u64 D1) ∧ W.cell? ⟨nd, 2, none⟩ = some (.int .u64 D2) ∧ W.cell? ⟨nd, 3, none⟩ = some (.int .u64 D3)) ?_ ?_
        · refine ⟨?_, ?_, ?_, ?_, ?_, ?_, ?_, ?_, ?_, ?_, ?_, ?_, ?_⟩
          all_goals (first | with_reducible assumption | ((repeat (first | with_reducible assumption | with_reducible refine c_dr _ ?_ | with_reducible refine c_d1 ?_ | with_reducible refine c_al _ ?_ | (with_reducible refine c_set ?_ ?_; focus (dsimp only; omega)) | (with_reducible apply c_be; with_reducible assumption))); done) | ((repeat (first | with_reducible assumption | with_reducible refine o_dr _ ?_ | with_reducible refine o_d1 ?_ | with_reducible refine o_set ?_ | (with_reducible refine o_new ?_ ?_; (focus (simp)); (focus (simp))) | with_reducible refine o_al _ ?_ | (with_reducible apply o_be; with_reducible assumption))); done) | ((repeat (first | with_reducible assumption | with_reducible exact Below.refl _ _ | with_reducible refine Below.drew ?_ | with_reducible refine below_drewN ?_ _ | with_reducible refine bw_alloc ?_ _ | (with_reducible refine bw_set ?_ ?_ _; focus (dsimp only; omega)) | (with_reducible apply bw_behind; with_reducible assumption))); done) | (simp [go_sem, *]; omega) | (simp (maxDischargeDepth := 4) [go_sem, *]; done))
        rintro w0v ⟨hB0v, cv0, cv1, cv2, cv3, cv4, cv5, cv6, cv7, cv8, cv9, cv10, cv11⟩
        have yv0 := behind_cell0 cv0
        have yv1 := behind_cell0 cv1
        have yv2 := behind_cell0 cv2
        have yv3 := behind_cell0 cv3
        have yv4 := behind_cell0 cv4
        have yv5 := behind_cell0 cv5
        have yv6 := behind_cell0 cv6
        have yv7 := behind_cell0 cv7
        have yv8 := behind_cell0 cv8
        have yv9 := behind_cell0 cv9
        have yv10 := behind_cell0 cv10
        have yv11 := behind_cell0 cv11
        have hsome := Behind.any w0v
        clear cv0 cv1 cv2 cv3 cv4 cv5 cv6 cv7 cv8 cv9 cv10 cv11
        refine wp_region_behind w0v (by kernel_rfl) (by kernel_rfl) (Below.refl _ _) ?_
        repeat (go_big_quiet_step (first | (go_at_call 11; with_reducible first | exact behind_one Gd.out _ | exact behind_one Gs.out _)))
        refine wpQuiet_nil ?_
        rintro _ ⟨y, rfl⟩
        have hBy := bw_behind y.below hB0v
        have xv0 := yv0 y
        have xv1 := yv1 y
        have xv2 := yv2 y
        have xv3 := yv3 y
        have xv4 := yv4 y
        have xv5 := yv5 y
        have xv6 := yv6 y
        have xv7 := yv7 y
        have xv8 := yv8 y
        have xv9 := yv9 y
        have xv10 := yv10 y
        have xv11 := yv11 y
        clear hsome yv0 yv1 yv2 yv3 yv4 yv5 yv6 yv7 yv8 yv9 yv10 yv11
        obtain ⟨w1v, hw1⟩ : ∃ W, W = y.world := ⟨_, rfl⟩
        rw [← hw1] at hBy xv0 xv1 xv2 xv3 xv4 xv5 xv6 xv7 xv8 xv9 xv10 xv11 ⊢
        clear hw1 y hB0v
        go_wp2_with fail
        go_roundw
        case rel =>
          refine ⟨k + 1, by omega, by go_num, ?_⟩
          repeat (first | with_reducible assumption | with_reducible exact Below.refl _ _ | with_reducible refine Below.drew ?_ | with_reducible refine below_drewN ?_ _ | with_reducible refine bw_alloc ?_ _ | (with_reducible refine bw_set ?_ ?_ _; focus (dsimp only; omega)) | (with_reducible apply bw_behind; with_reducible assumption))
        case measure => simp [intOf]; omega
      | true =>
        cases v with
        | true =>
          have Gs := hide gs
          have Gt := hide gt
          have Gd := hide gd
          clear gs gt gd
          go_upto_region 9 with fail
          refine wp_abs (fun W => Below w5.heap.size w5 W ∧ W.cell? ⟨w.heap.size, 0, none⟩ = some (.int .u64 S0) ∧ W.cell? ⟨w.heap.size, 1, none⟩ = some (.int .u64 S1) ∧ W.cell? ⟨w.heap.size, 2, none⟩ = some (.int .u64 S2) ∧ W.cell? ⟨w.heap.size, 3, none⟩ = some (.int .u64 S3) ∧ W.cell? ⟨nt, 0, none⟩ = some (.int .u64 T0) ∧ W.cell? ⟨nt, 1, none⟩ = some (.int .u64 T1) ∧ W.cell? ⟨nt, 2, none⟩ = some (.int .u64 T2) ∧ W.cell? ⟨nt, 3, none⟩ = some (.int .u64 T3) ∧ W.cell? ⟨nd, 0, none⟩ = some (.int .u64 D0) ∧ W.cell? ⟨nd, 1, none⟩ = some (.int .u64 D1) ∧ W.cell? ⟨nd, 2, none⟩ = some (.int .u64 D2) ∧ W.cell? ⟨nd, 3, none⟩ = some (.int .u64 D3)) ?_ ?_
          · refine ⟨?_, ?_, ?_, ?_, ?_, ?_, ?_, ?_, ?_, ?_, ?_, ?_, ?_⟩
            all_goals (first | with_reducible assumption | ((repeat (first | with_reducible assumption | with_reducible refine c_dr _ ?_ | with_reducible refine c_d1 ?_ | with_reducible refine c_al _ ?_ | (with_reducible refine c_set ?_ ?_; focus (dsimp only; omega)) | (with_reducible apply c_be; with_reducible assumption))); done) | ((repeat (first | with_reducible assumption | with_reducible refine o_dr _ ?_ | with_reducible refine o_d1 ?_ | with_reducible refine o_set ?_ | (with_reducible refine o_new ?_ ?_; (focus (simp)); (focus (simp))) | with_reducible refine o_al _ ?_ | (with_reducible apply o_be; with_reducible assumption))); done) | ((repeat (first | with_reducible assumption | with_reducible exact Below.refl _ _ | with_reducible refine Below.drew ?_ | with_reducible refine below_drewN ?_ _ | with_reducible refine bw_alloc ?_ _ | (with_reducible refine bw_set ?_ ?_ _; focus (dsimp only; omega)) | (with_reducible apply bw_behind; with_reducible assumption))); done) | (simp [go_sem, *]; omega) | (simp (maxDischargeDepth := 4) [go_sem, *]; done))
          rintro w0v ⟨hB0v, cv0, cv1, cv2, cv3, cv4, cv5, cv6, cv7, cv8, cv9, cv10, cv11⟩
          have yv0 := behind_cell0 cv0
          have yv1 := behind_cell0 cv1
          have yv2 := behind_cell0 cv2
          have yv3 := behind_cell0 cv3
          have yv4 := behind_cell0 cv4
          have yv5 := behind_cell0 cv5
          have yv6 := behind_cell0 cv6
          have yv7 := behind_cell0 cv7
          have yv8 := behind_cell0 cv8
          have yv9 := behind_cell0 cv9
          have yv10 := behind_cell0 cv10
          have yv11 := behind_cell0 cv11
          have hsome := Behind.any w0v
          clear cv0 cv1 cv2 cv3 cv4 cv5 cv6 cv7 cv8 cv9 cv10 cv11
          refine wp_region_behind w0v (by kernel_rfl) (by kernel_rfl) (Below.refl _ _) ?_
          repeat (go_big_quiet_step (first | (go_at_call 11; with_reducible first | exact behind_one Gd.out _ | exact behind_one Gs.out _ | exact behind_one Gt.out _)))
          refine wpQuiet_nil ?_
          rintro _ ⟨y, rfl⟩
          have hBy := bw_behind y.below hB0v
          have xv0 := yv0 y
          have xv1 := yv1 y
          have xv2 := yv2 y
          have xv3 := yv3 y
          have xv4 := yv4 y
          have xv5 := yv5 y
          have xv6 := yv6 y
          have xv7 := yv7 y
          have xv8 := yv8 y
          have xv9 := yv9 y
          have xv10 := yv10 y
          have xv11 := yv11 y
          clear hsome yv0 yv1 yv2 yv3 yv4 yv5 yv6 yv7 yv8 yv9 yv10 yv11
          obtain ⟨w1v, hw1⟩ : ∃ W, W = y.world := ⟨_, rfl⟩
          rw [← hw1] at hBy xv0 xv1 xv2 xv3 xv4 xv5 xv6 xv7 xv8 xv9 xv10 xv11 ⊢
          clear hw1 y hB0v
          go_wp2_with fail
          go_roundw
          case rel =>
            refine ⟨k + 1, by omega, by go_num, ?_⟩
            repeat (first | with_reducible assumption | with_reducible exact Below.refl _ _ | with_reducible refine Below.drew ?_ | with_reducible refine below_drewN ?_ _ | with_reducible refine bw_alloc ?_ _ | (with_reducible refine bw_set ?_ ?_ _; focus (dsimp only; omega)) | (with_reducible apply bw_behind; with_reducible assumption))
          case measure => simp [intOf]; omega
        | false =>
          have Gs := hide gs
          have Gt := hide gt
          have Gd := hide gd
          clear gs gt gd
          go_upto_region 9 with fail
          refine wp_abs (fun W => Below w5.heap.size w5 W ∧ W.cell? ⟨w.heap.size, 0, none⟩ = some (.int .u64 S0) ∧ W.cell? ⟨w.heap.size, 1, none⟩ = some (.int .u64 S1) ∧ W.cell? ⟨w.heap.size, 2, none⟩ = some (.int .u64 S2) ∧ W.cell? ⟨w.heap.size, 3, none⟩ = some (.int .u64 S3) ∧ W.cell? ⟨nt, 0, none⟩ = some (.int .u64 T0) ∧ W.cell? ⟨nt, 1, none⟩ = some (.int .u64 T1) ∧ W.cell? ⟨nt, 2, none⟩ = some (.int .u64 T2) ∧ W.cell? ⟨nt, 3, none⟩ = some (.int .u64 T3) ∧ W.cell? ⟨nd, 0, none⟩ = some (.int .u64 D0) ∧ W.cell? ⟨nd, 1, none⟩ = some (.int .u64 D1) ∧ W.cell? ⟨nd, 2, none⟩ = some (.int .u64 D2) ∧ W.cell? ⟨nd, 3, none⟩ = some (.int .u64 D3)) ?_ ?_
          · refine ⟨?_, ?_, ?_, ?_, ?_, ?_, ?_, ?_, ?_, ?_, ?_, ?_, ?_⟩
            all_goals (first | with_reducible assumption | ((repeat (first | with_reducible assumption | with_reducible refine c_dr _ ?_ | with_reducible refine c_d1 ?_ | with_reducible refine c_al _ ?_ | (with_reducible refine c_set ?_ ?_; focus (dsimp only; omega)) | (with_reducible apply c_be; with_reducible assumption))); done) | ((repeat (first | with_reducible assumption | with_reducible refine o_dr _ ?_ | with_reducible refine o_d1 ?_ | with_reducible refine o_set ?_ | (with_reducible refine o_new ?_ ?_; (focus (simp)); (focus (simp))) | with_reducible refine o_al _ ?_ | (with_reducible apply o_be; with_reducible assumption))); done) | ((repeat (first | with_reducible assumption | with_reducible exact Below.refl _ _ | with_reducible refine Below.drew ?_ | with_reducible refine below_drewN ?_ _ | with_reducible refine bw_alloc ?_ _ | (with_reducible refine bw_set ?_ ?_ _; focus (dsimp only; omega)) | (with_reducible apply bw_behind; with_reducible assumption))); done) | (simp [go_sem, *]; omega) | (simp (maxDischargeDepth := 4) [go_sem, *]; done))
          rintro w0v ⟨hB0v, cv0, cv1, cv2, cv3, cv4, cv5, cv6, cv7, cv8, cv9, cv10, cv11⟩
          have yv0 := behind_cell0 cv0
          have yv1 := behind_cell0 cv1
          have yv2 := behind_cell0 cv2
          have yv3 := behind_cell0 cv3
          have yv4 := behind_cell0 cv4
          have yv5 := behind_cell0 cv5
          have yv6 := behind_cell0 cv6
          have yv7 := behind_cell0 cv7
          have yv8 := behind_cell0 cv8
          have yv9 := behind_cell0 cv9
          have yv10 := behind_cell0 cv10
          have yv11 := behind_cell0 cv11
          have hsome := Behind.any w0v
          clear cv0 cv1 cv2 cv3 cv4 cv5 cv6 cv7 cv8 cv9 cv10 cv11
          refine wp_region_behind w0v (by kernel_rfl) (by kernel_rfl) (Below.refl _ _) ?_
          repeat (go_big_quiet_step (first | (go_at_call 11; with_reducible first | exact behind_one Gd.out _ | exact behind_one Gs.out _ | exact behind_one Gt.out _)))
          refine wpQuiet_nil ?_
          rintro _ ⟨y, rfl⟩
          have hBy := bw_behind y.below hB0v
          have xv0 := yv0 y
          have xv1 := yv1 y
          have xv2 := yv2 y
          have xv3 := yv3 y
          have xv4 := yv4 y
          have xv5 := yv5 y
          have xv6 := yv6 y
          have xv7 := yv7 y
          have xv8 := yv8 y
          have xv9 := yv9 y
          have xv10 := yv10 y
          have xv11 := yv11 y
          clear hsome yv0 yv1 yv2 yv3 yv4 yv5 yv6 yv7 yv8 yv9 yv10 yv11
          obtain ⟨w1v, hw1⟩ : ∃ W, W = y.world := ⟨_, rfl⟩
          rw [← hw1] at hBy xv0 xv1 xv2 xv3 xv4 xv5 xv6 xv7 xv8 xv9 xv10 xv11 ⊢
          clear hw1 y hB0v
          go_wp2_with fail
          go_roundw
          case rel =>
            refine ⟨k + 1, by omega, by go_num, ?_⟩
            repeat (first | with_reducible assumption | with_reducible exact Below.refl _ _ | with_reducible refine Below.drew ?_ | with_reducible refine below_drewN ?_ _ | with_reducible refine bw_alloc ?_ _ | (with_reducible refine bw_set ?_ ?_ _; focus (dsimp only; omega)) | (with_reducible apply bw_behind; with_reducible assumption))
          case measure => simp [intOf]; omega
    · obtain rfl : k = 256 := by omega
      clear q0 q1 q2 q3 q4 q5 q6 q7 q8 q9 q10 q11
      go_wp2_with fail
      refine wp_loop_rounds 1 ?_
      rw [rounds_succ]
      go_wp2_with (first | (go_at_call 9; (with_reducible first | refine (Ck5.out _).mono ?_); rintro e wn ⟨rfl, hbn⟩; have hrn := below_reads hbn; have hhn := below_holds hbn; obtain ⟨mn, hsn⟩ := below_grew hbn))
      refine bodyPost_ret (v := .bool true) (by simp (maxDischargeDepth := 4) [results, Try.results3, go_sem, *]) rfl ?_
      have HBw := HB.out
      refine ⟨rfl, ?_⟩
      repeat (first | with_reducible assumption | with_reducible exact Below.refl _ _ | with_reducible refine Below.drew ?_ | with_reducible refine below_drewN ?_ _ | with_reducible refine bw_alloc ?_ _ | (with_reducible refine bw_set ?_ ?_ _; focus (dsimp only; omega)) | (with_reducible apply bw_behind; with_reducible assumption))

theorem count_five : ∀ W, Calls Try.prog 9 #[.agg #[.int .u64 5, .int .u64 0, .int .u64 0, .int .u64 0]] W (Makes (.int .i64 2) W) := fun W => by
  have h := count_any (mk4 5#64 0#64 0#64 0#64) W
  obtain ⟨e0, e1, e2, e3⟩ := mk4_words 5#64 0#64 0#64 0#64
  rw [e0, e1, e2, e3, show cntS (mk4 5#64 0#64 0#64 0#64) = 2 by decide +kernel] at h
  exact h
theorem lst_cnt (s : BitVec 256) : (lstS s).length = cntS s := lst_length _ _
theorem none_of (s : BitVec 256) (h : cntS s = 0) : s = 0#256 := ext256 (fun i hi => by rw [cnt_zero h i hi]; simp)
theorem some_of (s : BitVec 256) (h : cntS s ≠ 0) : s ≠ 0#256 := fun e => h (by rw [e]; decide +kernel)
theorem getK (s : BitVec 256) : ∀ k : Nat, k < 256 → ∀ W, Calls Try.prog 11 #[.agg #[.int .u64 ((wd s 0).toNat : Int), .int .u64 ((wd s 1).toNat : Int), .int .u64 ((wd s 2).toNat : Int), .int .u64 ((wd s 3).toNat : Int)], .int .i64 (k : Int)] W (Makes (.bool (s.getLsbD k)) W) := fun k hk W => by
  have h := get_any s (k : Int) W
  unfold getS at h
  rw [gran_nat hk, Bool.true_and, Int.toNat_natCast] at h
  exact h
theorem listed_some {f : FuncId} {args : Array Value} {l : List Int} (he : l ≠ []) (c : ∀ W, Calls Try.prog f args W fun e W' => ∃ v, e = .returned v ∧ Listed W' W.heap.size v l ∧ Below W.heap.size W W') :
    ∀ W, Calls Try.prog f args W (fun e W' => ∃ g cap, e = .returned (.slice (some ⟨g, 0, none⟩) l.length cap) ∧ Row W' g (l.map (Value.int .i64)) ∧ Below W.heap.size W W') := fun W => (c W).mono fun e W' ⟨v, e1, h1, h2⟩ => by
  rcases h1 with ⟨h1, _⟩ | ⟨_, g, cap, rfl, _, _, _, h5⟩
  · exact absurd h1 he
  · exact ⟨g, cap, e1, h5, h2⟩
theorem listed_none {f : FuncId} {args : Array Value} {l : List Int} (he : l = []) (c : ∀ W, Calls Try.prog f args W fun e W' => ∃ v, e = .returned v ∧ Listed W' W.heap.size v l ∧ Below W.heap.size W W') :
    ∀ W, Calls Try.prog f args W (Makes (.slice none 0 0) W) := fun W => (c W).mono fun e W' ⟨v, e1, h1, h2⟩ => by
  rcases h1 with ⟨_, rfl⟩ | ⟨h1, _⟩
  · exact ⟨e1, h2⟩
  · exact absurd he h1
theorem walk_set (s t : BitVec 256) (J : Int) (w : World) : Calls Try.prog 3 #[.agg #[.int .u64 ((wd s 0).toNat : Int), .int .u64 ((wd s 1).toNat : Int), .int .u64 ((wd s 2).toNat : Int), .int .u64 ((wd s 3).toNat : Int)], .agg #[.int .u64 ((wd t 0).toNat : Int), .int .u64 ((wd t 1).toNat : Int), .int .u64 ((wd t 2).toNat : Int), .int .u64 ((wd t 3).toNat : Int)], .int .i64 J] w (Makes (.bool true) w) := by
  have k1 := fun W => count_any s W
  have a1 := fun W => any_any s W
  have g1 := fun W => get_any s J W
  have g2 := fun W => rget_any s J W
  have w1 := fun W => with_any s J true W
  have w2 := fun W => rwith_any s J true W
  have w3 := fun W => with_any s J false W
  have w4 := fun W => rwith_any s J false W
  have o1 := fun W => without_any s t W
  have hd : ∀ k : Nat, k < 256 → (lessS s t).getLsbD k = (s.getLsbD k && !t.getLsbD k) := fun k hk => less_bit s t k hk
  by_cases he : lstS s = []
  · have h0 : cntS s = 0 := by rw [← lst_cnt, he]; rfl
    rw [h0] at k1
    rw [show (!decide (s = 0#256)) = false by simp [none_of s h0]] at a1
    exact walk_e J _ _ _ _ _ _ _ _ _ _ _ _ _ _ _ _ _ _ _ _ _ _ _ _ (listed_none he (fun W => all_any s W)) (listed_none he (fun W => rall_any s W)) k1 a1 g1 g2 w1 w2 w3 w4 o1 (getK s) (getK t) (getK (lessS s t)) hd count_five w
  · have hne : (lstS s).length ≠ 0 := fun e => he (List.length_eq_zero_iff.1 e)
    have hle : (lstS s).length ≤ 256 := by rw [lst_cnt]; exact cnt_le _ _
    rw [← lst_cnt] at k1
    rw [show (!decide (s = 0#256)) = true by simp [some_of s (by rw [← lst_cnt]; exact hne)]] at a1
    exact walk_n J _ _ _ _ _ _ _ _ _ _ _ _ _ _ _ _ _ _ _ _ _ _ _ _ (lstS s) (listed_some he (fun W => all_any s W)) (listed_some he (fun W => rall_any s W)) k1 a1 g1 g2 w1 w2 w3 w4 o1 (getK s) (getK t) (getK (lessS s t)) hd count_five (by omega) (decide_eq_true (by omega)) (by omega) (decide_eq_true (by omega)) hle w
theorem walk (a0 a1 a2 a3 b0 b1 b2 b3 : BitVec 64) (J : Int) (w : World) :
    Calls Try.prog 3 #[.agg #[.int .u64 (a0.toNat : Int), .int .u64 (a1.toNat : Int), .int .u64 (a2.toNat : Int), .int .u64 (a3.toNat : Int)], .agg #[.int .u64 (b0.toNat : Int), .int .u64 (b1.toNat : Int), .int .u64 (b2.toNat : Int), .int .u64 (b3.toNat : Int)], .int .i64 J] w fun e w' => e = .returned (.bool true) ∧ Below w.heap.size w w' := by
  have h := walk_set (mk4 a0 a1 a2 a3) (mk4 b0 b1 b2 b3) J w
  obtain ⟨e0, e1, e2, e3⟩ := mk4_words a0 a1 a2 a3
  obtain ⟨f0, f1, f2, f3⟩ := mk4_words b0 b1 b2 b3
  rw [e0, e1, e2, e3, f0, f1, f2, f3] at h
  exact h
open Go.ChangeShapes Go.WideShapes Go.ChangeAt
theorem walks : Frame.Walks 3 Try.f3 := by
  intro H enc W base args ds ps hval hA
  rw [Try.params3] at hA hval
  obtain ⟨v0, v1, v2, d0, d1, d2, p0, p1, p2, hargs, rfl, rfl, h0, h1, h2⟩ := trodAll_three hA
  obtain rfl : args = #[v0, v1, v2] := by cases args; simp_all
  obtain ⟨zs0, rfl, hl0, hz0⟩ := Frame.open_arr Try.underlying24 Try.underlying22 (by kernel_rfl) (by kernel_rfl) (hval 0 24 v0 rfl rfl) h0
  obtain ⟨z0_0, z0_1, z0_2, z0_3, rfl⟩ := Frame.arr4 hl0
  obtain ⟨zs1, rfl, hl1, hz1⟩ := Frame.open_arr Try.underlying24 Try.underlying22 (by kernel_rfl) (by kernel_rfl) (hval 1 24 v1 rfl rfl) h1
  obtain ⟨z1_0, z1_1, z1_2, z1_3, rfl⟩ := Frame.arr4 hl1
  obtain ⟨x2, rfl, rfl, rfl, w2⟩ := open_int Try.underlying3 (hval 2 3 v2 rfl rfl) h2
  obtain ⟨Z0_0, rfl⟩ := Frame.wf_u64 (hz0 z0_0 (by simp))
  obtain ⟨Z0_1, rfl⟩ := Frame.wf_u64 (hz0 z0_1 (by simp))
  obtain ⟨Z0_2, rfl⟩ := Frame.wf_u64 (hz0 z0_2 (by simp))
  obtain ⟨Z0_3, rfl⟩ := Frame.wf_u64 (hz0 z0_3 (by simp))
  obtain ⟨Z1_0, rfl⟩ := Frame.wf_u64 (hz1 z1_0 (by simp))
  obtain ⟨Z1_1, rfl⟩ := Frame.wf_u64 (hz1 z1_1 (by simp))
  obtain ⟨Z1_2, rfl⟩ := Frame.wf_u64 (hz1 z1_2 (by simp))
  obtain ⟨Z1_3, rfl⟩ := Frame.wf_u64 (hz1 z1_3 (by simp))
  exact walk Z0_0 Z0_1 Z0_2 Z0_3 Z1_0 Z1_1 Z1_2 Z1_3 x2 W
set_option maxRecDepth 100000 in
theorem proved : Rows.TagsTellsSaid :=
  OpenClaim.holds_of_wide 3 Try.f3 rfl rfl rfl rfl rfl rfl rfl ⟨rfl, rfl, rfl, rfl, rfl⟩ rfl rfl rfl rfl rfl (by kernel_rfl) Try.func3 (by kernel_rfl)
    (of_decide_eq_true (by kernel_rfl)) (by unfold Func.isWrapper; first | (rw [if_pos (by decide +kernel)]; kernel_rfl) | (rw [if_neg (by decide +kernel)]; exact ⟨rfl, rfl⟩))
    (fun os started H enc _ => Frame.lift os started H enc _ _ Rows.tagsTellsSpec 4 (by kernel_rfl) Try.func3 Try.underlying4 (by kernel_rfl) rfl (by kernel_rfl)
      (fun ds h => by match ds, h with | [_, _, _], _ => exact ⟨rfl, rfl, rfl⟩)
      (ChangeSpec.witness6 (enc := enc) (C := Try.checked) false ⟨#[], #[.agg #[.int .u64 0, .int .u64 0, .int .u64 0, .int .u64 0], .agg #[.int .u64 0, .int .u64 0, .int .u64 0, .int .u64 0], .int .i64 0], []⟩ 8 (by kernel_rfl) (by kernel_rfl) (by kernel_rfl) (by kernel_rfl)) walks)
end Go.Proofs.Ytpikipfchkhnbaa.TagsTells
