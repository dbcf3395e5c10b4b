/-
  What the document's own Translate answers, over letters: a walk, no access.
-/
import Derived.Test.YtkajndonefkegaaDoorGMr
import Derived.BigQuiet
set_option maxRecDepth 100000
set_option maxHeartbeats 64000000
namespace Go.Proofs.YtkajndonefkegaaDoor
open Go.RowKit Words FieldMath PteMath

theorem rt_bad (w : World) (b : Nat) (_hbw : b ≤ w.heap.size) (B : Nat -> Prop) (_hB : ∀ g, w.heap.size ≤ g -> B g) (sa sb s1 s2 : Option Addr) (na ca nb cb n1 q1 n2 q2 : Nat) (A V k Z Q : Int) (G t S : Bool) (L L' : List (LnX Int)) (E E' : List Fd) (D D' : List (Nat × BitVec 8)) (N : Int) (b0 b1 b2 b3 b4 b5 b6 b7 b8 b9 b10 b11 : Bool) (F a : Int)  (cW : ∀ W, Below w.heap.size w W -> Calls Tryd.prog 39 #[.agg #[.int .i64 8, .slice sa na ca, .slice sb nb cb, .slice none 0 0], .int .u64 0, .int .u64 V] W (Makes (.tuple #[.agg #[.bool b0, .bool b1, .bool b2, .bool b3, .bool b4, .bool b5, .bool b6, .bool b7, .bool b8, .bool b9, .bool b10, .bool b11, .int .u64 F], .int .u64 a, .int .i64 0]) W)) (cC : ∀ W, Calls Tryd.prog 36 #[.agg #[.bool b0, .bool b1, .bool b2, .bool b3, .bool b4, .bool b5, .bool b6, .bool b7, .bool b8, .bool b9, .bool b10, .bool b11, .int .u64 F], .int .i64 k, .bool t, .bool G] W (Makes (.int .i64 Q) W)) (_n1 : V.tdiv 4096 = N) (_n2 : V / 4096 = N) (_n3 : IntKind.u64.wrap N = N) (_hV : ¬ (274877906944 ≤ V)) (hEE0 : E.length = n2) (hE9 : E.length ≤ 900) (hH : (∀ W, Below w.heap.size w W -> Calls Tryd.prog 35 #[.slice s1 n1 q1, .int .u64 A, .int .u64 N] W (Makes (.tuple #[.agg #[.int .u64 0, .int .u64 0, .int .u64 0], .bool false]) W)) ∨ (∃ (g X : Nat) (X1 X2 : Int) (DC XC c0 c1 c2 c3 c4 c5 c6 c7 c8 c9 c10 c11 : Bool) (F0 : Int), (∀ W, Below w.heap.size w W -> Calls Tryd.prog 35 #[.slice s1 n1 q1, .int .u64 A, .int .u64 N] W (Makes (.tuple #[.agg #[.int .u64 X1, .int .u64 X2, .int .u64 (X : Int)], .bool true]) W)) /\ (∀ W, Calls Tryd.prog 36 #[.agg #[.bool c0, .bool c1, .bool c2, .bool c3, .bool c4, .bool c5, .bool c6, .bool c7, .bool c8, .bool c9, .bool c10, .bool c11, .int .u64 F0], .int .i64 k, .bool t, .bool G] W (Makes (.int .i64 0) W)) /\ (∀ W, Calls Tryd.prog 37 #[.agg #[.bool c0, .bool c1, .bool c2, .bool c3, .bool c4, .bool c5, .bool c6, .bool c7, .bool c8, .bool c9, .bool c10, .bool c11, .int .u64 F0], .int .i64 k, .bool t] W (Makes (.agg #[.bool c0, .bool c1, .bool c2, .bool c3, .bool c4, .bool c5, .bool true, .bool DC, .bool c8, .bool c9, .bool XC, .bool c11, .int .u64 F0]) W)) /\ (∀ W, (binOp .eql 66 (.agg #[.bool c0, .bool c1, .bool c2, .bool c3, .bool c4, .bool c5, .bool true, .bool DC, .bool c8, .bool c9, .bool XC, .bool c11, .int .u64 F0]) (.agg #[.bool c0, .bool c1, .bool c2, .bool c3, .bool c4, .bool c5, .bool c6, .bool c7, .bool c8, .bool c9, .bool c10, .bool c11, .int .u64 F0])).run Tryd.prog W = .ok (.bool false) W) /\ (∀ W, (Op.equalIn 10000 66 (.agg #[.bool c0, .bool c1, .bool c2, .bool c3, .bool c4, .bool c5, .bool true, .bool DC, .bool c8, .bool c9, .bool XC, .bool c11, .int .u64 F0]) (.agg #[.bool c0, .bool c1, .bool c2, .bool c3, .bool c4, .bool c5, .bool c6, .bool c7, .bool c8, .bool c9, .bool c10, .bool c11, .int .u64 F0])).run Tryd.prog W = .ok false W) /\ s2 = some ⟨g, 0, none⟩ /\ (X : Int) < (n2 : Int) /\ ∀ j v, [.bool c0, .bool c1, .bool c2, .bool c3, .bool c4, .bool c5, .bool c6, .bool c7, .bool c8, .bool c9, .bool c10, .bool c11, .int .u64 F0][j]? = some v -> w.cell? ⟨g, X * 13 + j, none⟩ = some v)) (_hQ : (Q != 0) = true) (hZ : Z = 0) (hS : S = false) (hLL : L' = L) (hEE : E' = E) (hDD : D' = D) (hL : RefB w b (.slice s1 n1 q1) L) (hE : EntB w b (.slice s2 n2 q2) E) (hD : MemR w B sa na ca sb nb cb D) : Calls Tryd.prog 8 #[.agg #[.slice s1 n1 q1, .slice s2 n2 q2, .int .u64 0, .int .u64 A, .bool G], .agg #[.int .i64 8, .slice sa na ca, .slice sb nb cb, .slice none 0 0], .int .u64 V, .int .i64 k, .bool t] w (fun e w' => ∃ s1' n1' q1' s2' n2' q2' sa' na' ca' sb' nb' cb', e = .returned (.tuple #[.agg #[.slice s1' n1' q1', .slice s2' n2' q2', .int .u64 0, .int .u64 A, .bool G], .agg #[.int .i64 8, .slice sa' na' ca', .slice sb' nb' cb', .slice none 0 0], .agg #[.int .u64 Z, .bool S], .int .i64 Q]) /\ RefB w' b (.slice s1' n1' q1') L' /\ EntB w' b (.slice s2' n2' q2') E' /\ MemR w' B sa' na' ca' sb' nb' cb' D' /\ Below w.heap.size w w') := by
  have CcW := hide cW
  have CcC := hide cC
  clear cW cC
  obtain ⟨SS, LB', LS, LA', LH⟩ := rules5
  subst hZ hS hLL hEE hDD
  rcases hH with cL | ⟨g, X, X1, X2, DC, XC, c0, c1, c2, c3, c4, c5, c6, c7, c8, c9, c10, c11, F0, cL, cC0, cM0, EQ0, EI0, hs2, _i1, hE0⟩
  case' inl =>
    have CcL := hide cL
    clear cL
    go_enter Tryd.func8, Tryd.ntmps8
    go_upto_region 3 with fail
    refine wp_abs (fun W => Below w.heap.size w W /\ W.cell? ⟨w.heap.size, 0, none⟩ = some (.slice s1 n1 q1) /\ W.cell? ⟨w.heap.size, 1, none⟩ = some (.slice s2 n2 q2) /\ W.cell? ⟨w.heap.size, 2, none⟩ = some (.int .u64 0) /\ W.cell? ⟨w.heap.size, 3, none⟩ = some (.int .u64 A) /\ W.cell? ⟨w.heap.size, 4, none⟩ = some (.bool G) /\ W.cell? ⟨w.heap.size + 1, 0, none⟩ = some (.int .i64 8) /\ W.cell? ⟨w.heap.size + 1, 1, none⟩ = some (.slice sa na ca) /\ W.cell? ⟨w.heap.size + 1, 2, none⟩ = some (.slice sb nb cb) /\ W.cell? ⟨w.heap.size + 1, 3, none⟩ = some (.slice none 0 0) /\ Own W (w.heap.size) 5 /\ Own W (w.heap.size + 1) 4 /\ Own W (w.heap.size + 2) 5 /\ Own W (w.heap.size + 3) 4 /\ Own W (w.heap.size + 4) 2) ?_ ?_
    · refine ⟨?_, ?_, ?_, ?_, ?_, ?_, ?_, ?_, ?_, ?_, ?_, ?_, ?_, ?_, ?_⟩
      all_goals (first | ((repeat (with_reducible first | assumption | exact Below.refl _ _ | refine Below.drew ?_ | refine below_drewN ?_ _ | refine bw_alloc ?_ _ | (refine bw_set ?_ ?_ _; focus (dsimp only; omega)) | (apply bw_behind; assumption))); done) | ((repeat (first | (with_reducible first | assumption | refine o_dr _ ?_ | refine o_d1 ?_ | refine o_set ?_) | (with_reducible refine o_new ?_ ?_; (focus (simp)); (focus (simp))) | (with_reducible first | refine o_al _ ?_ | (apply o_be; assumption)))); done) | (simp [go_sem, *]; done))
    rintro w1 ⟨hB1, u1_0, u1_1, u1_2, u1_3, u1_4, m1_0, m1_1, m1_2, m1_3, o1_0, o1_1, o1_2, o1_3, o1_4⟩
    have hz1 : w.heap.size + 4 < w1.heap.size := by
      obtain ⟨x, hx⟩ := Option.isSome_iff_exists.1 (o1_4 0 (by omega)).1
      exact World.block_lt_of_cell? w1 _ hx
    have lb1_0 : ltB (w.heap.size) w1.heap.size = true := decide_eq_true (by omega)
    have lb1_1 : ltB (w.heap.size + 1) w1.heap.size = true := decide_eq_true (by omega)
    have lb1_2 : ltB (w.heap.size + 2) w1.heap.size = true := decide_eq_true (by omega)
    have lb1_3 : ltB (w.heap.size + 3) w1.heap.size = true := decide_eq_true (by omega)
    have lb1_4 : ltB (w.heap.size + 4) w1.heap.size = true := decide_eq_true (by omega)
    go_upto_region 11 with (first | (go_at_call 35; (with_reducible refine (CcL.out _ ?_).mono ?_); (focus (repeat (with_reducible first | assumption | exact Below.refl _ _ | refine Below.drew ?_ | refine below_drewN ?_ _ | refine bw_alloc ?_ _ | (refine bw_set ?_ ?_ _; focus (dsimp only; omega)) | (apply bw_behind; assumption) | (refine bw_sc _ ?_ ?_; focus omega)))); rintro e wk ⟨rfl, hbk⟩; obtain ⟨hrk, hhk, mk, hsk⟩ := bl_all hbk))
    refine wp_abs (fun W => Below w.heap.size w W /\ W.cell? ⟨w.heap.size, 0, none⟩ = some (.slice s1 n1 q1) /\ W.cell? ⟨w.heap.size, 1, none⟩ = some (.slice s2 n2 q2) /\ W.cell? ⟨w.heap.size, 2, none⟩ = some (.int .u64 0) /\ W.cell? ⟨w.heap.size, 3, none⟩ = some (.int .u64 A) /\ W.cell? ⟨w.heap.size, 4, none⟩ = some (.bool G) /\ W.cell? ⟨w.heap.size + 1, 0, none⟩ = some (.int .i64 8) /\ W.cell? ⟨w.heap.size + 1, 1, none⟩ = some (.slice sa na ca) /\ W.cell? ⟨w.heap.size + 1, 2, none⟩ = some (.slice sb nb cb) /\ W.cell? ⟨w.heap.size + 1, 3, none⟩ = some (.slice none 0 0) /\ Own W (w.heap.size) 5 /\ Own W (w.heap.size + 1) 4 /\ Own W (w.heap.size + 2) 5 /\ Own W (w.heap.size + 3) 4 /\ Own W (w.heap.size + 4) 2) ?_ ?_
    · refine ⟨?_, ?_, ?_, ?_, ?_, ?_, ?_, ?_, ?_, ?_, ?_, ?_, ?_, ?_, ?_⟩
      iterate 15 (first | (focus ((first | ((repeat (with_reducible first | assumption | exact Below.refl _ _ | refine Below.drew ?_ | refine below_drewN ?_ _ | refine bw_alloc ?_ _ | (refine bw_set ?_ ?_ _; focus (dsimp only; omega)) | (apply bw_behind; assumption) | (refine bw_sc _ ?_ ?_; focus omega))); done) | ((repeat (with_reducible first | assumption | refine c_dr _ ?_ | refine c_d1 ?_ | refine c_al _ ?_ | (refine c_set ?_ ?_; focus (dsimp only; omega)) | (apply c_be; assumption) | (refine c_sc ?_ ?_; focus (dsimp only; omega)))); done) | ((repeat (first | (with_reducible first | assumption | refine o_dr _ ?_ | refine o_d1 ?_ | refine o_set ?_) | (with_reducible refine o_new ?_ ?_; (focus (simp)); (focus (simp))) | (with_reducible refine o_new ?_ ?_; (focus (simp [*]; done)); (focus (simp))) | (with_reducible refine o_new ?_ ?_; (focus (simp [*]; omega)); (focus (simp))) | (with_reducible first | refine o_sc ?_ | refine o_al _ ?_ | (apply o_be; assumption)))); done) | (simp [go_sem, *]; done) | (simp [go_sem, *]; omega)))))
    rintro w3 ⟨hB3, u3_0, u3_1, u3_2, u3_3, u3_4, m3_0, m3_1, m3_2, m3_3, o3_0, o3_1, o3_2, o3_3, o3_4⟩
    have hz3 : w.heap.size + 4 < w3.heap.size := by
      obtain ⟨x, hx⟩ := Option.isSome_iff_exists.1 (o3_4 0 (by omega)).1
      exact World.block_lt_of_cell? w3 _ hx
    have lb3_0 : ltB (w.heap.size) w3.heap.size = true := decide_eq_true (by omega)
    have lb3_1 : ltB (w.heap.size + 1) w3.heap.size = true := decide_eq_true (by omega)
    have lb3_2 : ltB (w.heap.size + 2) w3.heap.size = true := decide_eq_true (by omega)
    have lb3_3 : ltB (w.heap.size + 3) w3.heap.size = true := decide_eq_true (by omega)
    have lb3_4 : ltB (w.heap.size + 4) w3.heap.size = true := decide_eq_true (by omega)
    clear hB1 u1_0 u1_1 u1_2 u1_3 u1_4 m1_0 m1_1 m1_2 m1_3 o1_0 o1_1 o1_2 o1_3 o1_4 hz1 lb1_0 lb1_1 lb1_2 lb1_3 lb1_4 hbk hrk hhk hsk
  case' inr =>
    have CcL := hide cL
    have CcC0 := hide cC0
    have CcM0 := hide cM0
    clear cL cC0 cM0
    have _i0 : (0 : Int) ≤ (X : Int) := by omega
    go_enter Tryd.func8, Tryd.ntmps8
    go_upto_region 3 with fail
    refine wp_abs (fun W => Below w.heap.size w W /\ W.cell? ⟨w.heap.size, 0, none⟩ = some (.slice s1 n1 q1) /\ W.cell? ⟨w.heap.size, 1, none⟩ = some (.slice s2 n2 q2) /\ W.cell? ⟨w.heap.size, 2, none⟩ = some (.int .u64 0) /\ W.cell? ⟨w.heap.size, 3, none⟩ = some (.int .u64 A) /\ W.cell? ⟨w.heap.size, 4, none⟩ = some (.bool G) /\ W.cell? ⟨w.heap.size + 1, 0, none⟩ = some (.int .i64 8) /\ W.cell? ⟨w.heap.size + 1, 1, none⟩ = some (.slice sa na ca) /\ W.cell? ⟨w.heap.size + 1, 2, none⟩ = some (.slice sb nb cb) /\ W.cell? ⟨w.heap.size + 1, 3, none⟩ = some (.slice none 0 0) /\ Own W (w.heap.size) 5 /\ Own W (w.heap.size + 1) 4 /\ Own W (w.heap.size + 2) 5 /\ Own W (w.heap.size + 3) 4 /\ Own W (w.heap.size + 4) 2) ?_ ?_
    · refine ⟨?_, ?_, ?_, ?_, ?_, ?_, ?_, ?_, ?_, ?_, ?_, ?_, ?_, ?_, ?_⟩
      all_goals (first | ((repeat (with_reducible first | assumption | exact Below.refl _ _ | refine Below.drew ?_ | refine below_drewN ?_ _ | refine bw_alloc ?_ _ | (refine bw_set ?_ ?_ _; focus (dsimp only; omega)) | (apply bw_behind; assumption))); done) | ((repeat (first | (with_reducible first | assumption | refine o_dr _ ?_ | refine o_d1 ?_ | refine o_set ?_) | (with_reducible refine o_new ?_ ?_; (focus (simp)); (focus (simp))) | (with_reducible first | refine o_al _ ?_ | (apply o_be; assumption)))); done) | (simp [go_sem, *]; done))
    rintro w1 ⟨hB1, u1_0, u1_1, u1_2, u1_3, u1_4, m1_0, m1_1, m1_2, m1_3, o1_0, o1_1, o1_2, o1_3, o1_4⟩
    have hz1 : w.heap.size + 4 < w1.heap.size := by
      obtain ⟨x, hx⟩ := Option.isSome_iff_exists.1 (o1_4 0 (by omega)).1
      exact World.block_lt_of_cell? w1 _ hx
    have lb1_0 : ltB (w.heap.size) w1.heap.size = true := decide_eq_true (by omega)
    have lb1_1 : ltB (w.heap.size + 1) w1.heap.size = true := decide_eq_true (by omega)
    have lb1_2 : ltB (w.heap.size + 2) w1.heap.size = true := decide_eq_true (by omega)
    have lb1_3 : ltB (w.heap.size + 3) w1.heap.size = true := decide_eq_true (by omega)
    have lb1_4 : ltB (w.heap.size + 4) w1.heap.size = true := decide_eq_true (by omega)
    have hg0 : g < w.heap.size := World.block_lt_of_cell? w _ (hE0 0 _ rfl)
    have r0 := c_be hB1 (hE0 0 _ rfl)
    have r1 := c_be hB1 (hE0 1 _ rfl)
    have r2 := c_be hB1 (hE0 2 _ rfl)
    have r3 := c_be hB1 (hE0 3 _ rfl)
    have r4 := c_be hB1 (hE0 4 _ rfl)
    have r5 := c_be hB1 (hE0 5 _ rfl)
    have r6 := c_be hB1 (hE0 6 _ rfl)
    have r7 := c_be hB1 (hE0 7 _ rfl)
    have r8 := c_be hB1 (hE0 8 _ rfl)
    have r9 := c_be hB1 (hE0 9 _ rfl)
    have r10 := c_be hB1 (hE0 10 _ rfl)
    have r11 := c_be hB1 (hE0 11 _ rfl)
    have r12 := c_be hB1 (hE0 12 _ rfl)
    rw [Nat.add_zero] at r0
    have lg1 : ltB g w1.heap.size = true := decide_eq_true (by omega)
    go_upto_region 9 with (first | (go_at_call 35; (with_reducible refine (CcL.out _ ?_).mono ?_); (focus (repeat (with_reducible first | assumption | exact Below.refl _ _ | refine Below.drew ?_ | refine below_drewN ?_ _ | refine bw_alloc ?_ _ | (refine bw_set ?_ ?_ _; focus (dsimp only; omega)) | (apply bw_behind; assumption) | (refine bw_sc _ ?_ ?_; focus omega)))); rintro e wk ⟨rfl, hbk⟩; obtain ⟨hrk, hhk, mk, hsk⟩ := bl_all hbk) | (go_at_call 36; (with_reducible refine (CcC0.out _).mono ?_); rintro e wq ⟨rfl, hbq⟩; obtain ⟨hrq, hhq, mq, hsq⟩ := bl_all hbq))
    refine wp_abs (fun W => Below w.heap.size w W /\ W.cell? ⟨w.heap.size, 0, none⟩ = some (.slice s1 n1 q1) /\ W.cell? ⟨w.heap.size, 1, none⟩ = some (.slice s2 n2 q2) /\ W.cell? ⟨w.heap.size, 2, none⟩ = some (.int .u64 0) /\ W.cell? ⟨w.heap.size, 3, none⟩ = some (.int .u64 A) /\ W.cell? ⟨w.heap.size, 4, none⟩ = some (.bool G) /\ W.cell? ⟨w.heap.size + 1, 0, none⟩ = some (.int .i64 8) /\ W.cell? ⟨w.heap.size + 1, 1, none⟩ = some (.slice sa na ca) /\ W.cell? ⟨w.heap.size + 1, 2, none⟩ = some (.slice sb nb cb) /\ W.cell? ⟨w.heap.size + 1, 3, none⟩ = some (.slice none 0 0) /\ Own W (w.heap.size) 5 /\ Own W (w.heap.size + 1) 4 /\ Own W (w.heap.size + 2) 5 /\ Own W (w.heap.size + 3) 4 /\ Own W (w.heap.size + 4) 2 /\ W.cell? ⟨w1.heap.size + mk + 1, 0, none⟩ = some (.bool c0) /\ W.cell? ⟨w1.heap.size + mk + 1, 1, none⟩ = some (.bool c1) /\ W.cell? ⟨w1.heap.size + mk + 1, 2, none⟩ = some (.bool c2) /\ W.cell? ⟨w1.heap.size + mk + 1, 3, none⟩ = some (.bool c3) /\ W.cell? ⟨w1.heap.size + mk + 1, 4, none⟩ = some (.bool c4) /\ W.cell? ⟨w1.heap.size + mk + 1, 5, none⟩ = some (.bool c5) /\ W.cell? ⟨w1.heap.size + mk + 1, 6, none⟩ = some (.bool c6) /\ W.cell? ⟨w1.heap.size + mk + 1, 7, none⟩ = some (.bool c7) /\ W.cell? ⟨w1.heap.size + mk + 1, 8, none⟩ = some (.bool c8) /\ W.cell? ⟨w1.heap.size + mk + 1, 9, none⟩ = some (.bool c9) /\ W.cell? ⟨w1.heap.size + mk + 1, 10, none⟩ = some (.bool c10) /\ W.cell? ⟨w1.heap.size + mk + 1, 11, none⟩ = some (.bool c11) /\ W.cell? ⟨w1.heap.size + mk + 1, 12, none⟩ = some (.int .u64 F0)) ?_ ?_
    · refine ⟨?_, ?_, ?_, ?_, ?_, ?_, ?_, ?_, ?_, ?_, ?_, ?_, ?_, ?_, ?_, ?_, ?_, ?_, ?_, ?_, ?_, ?_, ?_, ?_, ?_, ?_, ?_, ?_⟩
      iterate 28 (first | (focus ((first | ((repeat (with_reducible first | assumption | exact Below.refl _ _ | refine Below.drew ?_ | refine below_drewN ?_ _ | refine bw_alloc ?_ _ | (refine bw_set ?_ ?_ _; focus (dsimp only; omega)) | (apply bw_behind; assumption) | (refine bw_sc _ ?_ ?_; focus omega))); done) | ((repeat (with_reducible first | assumption | refine c_dr _ ?_ | refine c_d1 ?_ | refine c_al _ ?_ | (refine c_set ?_ ?_; focus (dsimp only; omega)) | (apply c_be; assumption) | (refine c_sc ?_ ?_; focus (dsimp only; omega)))); done) | ((repeat (first | (with_reducible first | assumption | refine o_dr _ ?_ | refine o_d1 ?_ | refine o_set ?_) | (with_reducible refine o_new ?_ ?_; (focus (simp)); (focus (simp))) | (with_reducible refine o_new ?_ ?_; (focus (simp [*]; done)); (focus (simp))) | (with_reducible refine o_new ?_ ?_; (focus (simp [*]; omega)); (focus (simp))) | (with_reducible first | refine o_sc ?_ | refine o_al _ ?_ | (apply o_be; assumption)))); done) | (simp [go_sem, *]; done) | (simp [go_sem, *]; omega)))))
    rintro w2 ⟨hB2, u2_0, u2_1, u2_2, u2_3, u2_4, m2_0, m2_1, m2_2, m2_3, o2_0, o2_1, o2_2, o2_3, o2_4, x2_0, x2_1, x2_2, x2_3, x2_4, x2_5, x2_6, x2_7, x2_8, x2_9, x2_10, x2_11, x2_12⟩
    have hz2 : w.heap.size + 4 < w2.heap.size := by
      obtain ⟨x, hx⟩ := Option.isSome_iff_exists.1 (o2_4 0 (by omega)).1
      exact World.block_lt_of_cell? w2 _ hx
    have lb2_0 : ltB (w.heap.size) w2.heap.size = true := decide_eq_true (by omega)
    have lb2_1 : ltB (w.heap.size + 1) w2.heap.size = true := decide_eq_true (by omega)
    have lb2_2 : ltB (w.heap.size + 2) w2.heap.size = true := decide_eq_true (by omega)
    have lb2_3 : ltB (w.heap.size + 3) w2.heap.size = true := decide_eq_true (by omega)
    have lb2_4 : ltB (w.heap.size + 4) w2.heap.size = true := decide_eq_true (by omega)
    have hsx2 : w1.heap.size + mk + 1 < w2.heap.size := World.block_lt_of_cell? w2 _ x2_0
    have hhx2 : w.heap.size + 4 < w1.heap.size + mk + 1 := by omega
    clear hB1 u1_0 u1_1 u1_2 u1_3 u1_4 m1_0 m1_1 m1_2 m1_3 o1_0 o1_1 o1_2 o1_3 o1_4 hz1 lb1_0 lb1_1 lb1_2 lb1_3 lb1_4 hbk hrk hhk hsk hbq hrq hhq hsq lg1 r0 r1 r2 r3 r4 r5 r6 r7 r8 r9 r10 r11 r12
    generalize w1.heap.size + mk + 1 = xb at *
    have lbx2 : ltB xb w2.heap.size = true := decide_eq_true hsx2
    have y0 := behind_cell0 x2_0
    have y1 := behind_cell0 x2_1
    have y2 := behind_cell0 x2_2
    have y3 := behind_cell0 x2_3
    have y4 := behind_cell0 x2_4
    have y5 := behind_cell0 x2_5
    have y6 := behind_cell0 x2_6
    have y7 := behind_cell0 x2_7
    have y8 := behind_cell0 x2_8
    have y9 := behind_cell0 x2_9
    have y10 := behind_cell0 x2_10
    have y11 := behind_cell0 x2_11
    have y12 := behind_cell0 x2_12
    have hsome := Behind.any w2
    refine wp_region_behind w2 (by kernel_rfl) (by kernel_rfl) (Below.refl _ _) ?_
    repeat (go_big_quiet_step (first | (go_at_call 37; with_reducible first | exact behind_one CcM0.out _)))
    refine wpQuiet_nil ?_
    rintro _ ⟨y, rfl⟩
    have hBy := y.below
    clear hsome y0 y1 y2 y3 y4 y5 y6 y7 y8 y9 y10 y11 y12
    go_upto_region 11 with fail
    refine wp_abs (fun W => Below w.heap.size w W /\ W.cell? ⟨w.heap.size, 0, none⟩ = some (.slice s1 n1 q1) /\ W.cell? ⟨w.heap.size, 1, none⟩ = some (.slice s2 n2 q2) /\ W.cell? ⟨w.heap.size, 2, none⟩ = some (.int .u64 0) /\ W.cell? ⟨w.heap.size, 3, none⟩ = some (.int .u64 A) /\ W.cell? ⟨w.heap.size, 4, none⟩ = some (.bool G) /\ W.cell? ⟨w.heap.size + 1, 0, none⟩ = some (.int .i64 8) /\ W.cell? ⟨w.heap.size + 1, 1, none⟩ = some (.slice sa na ca) /\ W.cell? ⟨w.heap.size + 1, 2, none⟩ = some (.slice sb nb cb) /\ W.cell? ⟨w.heap.size + 1, 3, none⟩ = some (.slice none 0 0) /\ Own W (w.heap.size) 5 /\ Own W (w.heap.size + 1) 4 /\ Own W (w.heap.size + 2) 5 /\ Own W (w.heap.size + 3) 4 /\ Own W (w.heap.size + 4) 2) ?_ ?_
    · refine ⟨?_, ?_, ?_, ?_, ?_, ?_, ?_, ?_, ?_, ?_, ?_, ?_, ?_, ?_, ?_⟩
      iterate 15 (first | (focus ((first | ((repeat (with_reducible first | assumption | exact Below.refl _ _ | refine Below.drew ?_ | refine below_drewN ?_ _ | refine bw_alloc ?_ _ | (refine bw_set ?_ ?_ _; focus (dsimp only; omega)) | (apply bw_behind; assumption) | (refine bw_sc _ ?_ ?_; focus omega))); done) | ((repeat (with_reducible first | assumption | refine c_dr _ ?_ | refine c_d1 ?_ | refine c_al _ ?_ | (refine c_set ?_ ?_; focus (dsimp only; omega)) | (apply c_be; assumption) | (refine c_sc ?_ ?_; focus (dsimp only; omega)))); done) | ((repeat (first | (with_reducible first | assumption | refine o_dr _ ?_ | refine o_d1 ?_ | refine o_set ?_) | (with_reducible refine o_new ?_ ?_; (focus (simp)); (focus (simp))) | (with_reducible refine o_new ?_ ?_; (focus (simp [*]; done)); (focus (simp))) | (with_reducible refine o_new ?_ ?_; (focus (simp [*]; omega)); (focus (simp))) | (with_reducible first | refine o_sc ?_ | refine o_al _ ?_ | (apply o_be; assumption)))); done) | (simp [go_sem, *]; done) | (simp [go_sem, *]; omega)))))
    rintro w3 ⟨hB3, u3_0, u3_1, u3_2, u3_3, u3_4, m3_0, m3_1, m3_2, m3_3, o3_0, o3_1, o3_2, o3_3, o3_4⟩
    have hz3 : w.heap.size + 4 < w3.heap.size := by
      obtain ⟨x, hx⟩ := Option.isSome_iff_exists.1 (o3_4 0 (by omega)).1
      exact World.block_lt_of_cell? w3 _ hx
    have lb3_0 : ltB (w.heap.size) w3.heap.size = true := decide_eq_true (by omega)
    have lb3_1 : ltB (w.heap.size + 1) w3.heap.size = true := decide_eq_true (by omega)
    have lb3_2 : ltB (w.heap.size + 2) w3.heap.size = true := decide_eq_true (by omega)
    have lb3_3 : ltB (w.heap.size + 3) w3.heap.size = true := decide_eq_true (by omega)
    have lb3_4 : ltB (w.heap.size + 4) w3.heap.size = true := decide_eq_true (by omega)
    clear hB2 u2_0 u2_1 u2_2 u2_3 u2_4 m2_0 m2_1 m2_2 m2_3 o2_0 o2_1 o2_2 o2_3 o2_4 hz2 lb2_0 lb2_1 lb2_2 lb2_3 lb2_4 x2_0 x2_1 x2_2 x2_3 x2_4 x2_5 x2_6 x2_7 x2_8 x2_9 x2_10 x2_11 x2_12 hsx2 lbx2 hBy hhx2 hs2 _i0 _i1 hE0 hg0 EQ0 EI0 CcC0 CcM0
  all_goals
    go_upto_region 17 with (first | (go_at_call 39; (with_reducible refine (CcW.out _ ?_).mono ?_); (focus (repeat (with_reducible first | assumption | exact Below.refl _ _ | refine Below.drew ?_ | refine below_drewN ?_ _ | refine bw_alloc ?_ _ | (refine bw_set ?_ ?_ _; focus (dsimp only; omega)) | (apply bw_behind; assumption) | (refine bw_sc _ ?_ ?_; focus omega)))); rintro e wv ⟨rfl, hbv⟩; obtain ⟨hrv, hhv, mv, hsv⟩ := bl_all hbv) | (go_at_call 36; (with_reducible refine (CcC.out _).mono ?_); rintro e wr ⟨rfl, hbr⟩; obtain ⟨hrr, hhr, mr, hsr⟩ := bl_all hbr))
    refine wp_abs (fun W => Below w.heap.size w W /\ W.cell? ⟨w.heap.size, 0, none⟩ = some (.slice s1 n1 q1) /\ W.cell? ⟨w.heap.size, 1, none⟩ = some (.slice s2 n2 q2) /\ W.cell? ⟨w.heap.size, 2, none⟩ = some (.int .u64 0) /\ W.cell? ⟨w.heap.size, 3, none⟩ = some (.int .u64 A) /\ W.cell? ⟨w.heap.size, 4, none⟩ = some (.bool G) /\ W.cell? ⟨w.heap.size + 1, 0, none⟩ = some (.int .i64 8) /\ W.cell? ⟨w.heap.size + 1, 1, none⟩ = some (.slice sa na ca) /\ W.cell? ⟨w.heap.size + 1, 2, none⟩ = some (.slice sb nb cb) /\ W.cell? ⟨w.heap.size + 1, 3, none⟩ = some (.slice none 0 0) /\ Own W (w.heap.size) 5 /\ Own W (w.heap.size + 1) 4 /\ Own W (w.heap.size + 2) 5 /\ Own W (w.heap.size + 3) 4 /\ Own W (w.heap.size + 4) 2) ?_ ?_
    · refine ⟨?_, ?_, ?_, ?_, ?_, ?_, ?_, ?_, ?_, ?_, ?_, ?_, ?_, ?_, ?_⟩
      iterate 15 (first | (focus ((first | ((repeat (with_reducible first | assumption | exact Below.refl _ _ | refine Below.drew ?_ | refine below_drewN ?_ _ | refine bw_alloc ?_ _ | (refine bw_set ?_ ?_ _; focus (dsimp only; omega)) | (apply bw_behind; assumption) | (refine bw_sc _ ?_ ?_; focus omega))); done) | ((repeat (with_reducible first | assumption | refine c_dr _ ?_ | refine c_d1 ?_ | refine c_al _ ?_ | (refine c_set ?_ ?_; focus (dsimp only; omega)) | (apply c_be; assumption) | (refine c_sc ?_ ?_; focus (dsimp only; omega)))); done) | ((repeat (first | (with_reducible first | assumption | refine o_dr _ ?_ | refine o_d1 ?_ | refine o_set ?_) | (with_reducible refine o_new ?_ ?_; (focus (simp)); (focus (simp))) | (with_reducible refine o_new ?_ ?_; (focus (simp [*]; done)); (focus (simp))) | (with_reducible refine o_new ?_ ?_; (focus (simp [*]; omega)); (focus (simp))) | (with_reducible first | refine o_sc ?_ | refine o_al _ ?_ | (apply o_be; assumption)))); done) | (simp [go_sem, *]; done) | (simp [go_sem, *]; omega)))))
    rintro w4 ⟨hB4, u4_0, u4_1, u4_2, u4_3, u4_4, m4_0, m4_1, m4_2, m4_3, o4_0, o4_1, o4_2, o4_3, o4_4⟩
    have hz4 : w.heap.size + 4 < w4.heap.size := by
      obtain ⟨x, hx⟩ := Option.isSome_iff_exists.1 (o4_4 0 (by omega)).1
      exact World.block_lt_of_cell? w4 _ hx
    have lb4_0 : ltB (w.heap.size) w4.heap.size = true := decide_eq_true (by omega)
    have lb4_1 : ltB (w.heap.size + 1) w4.heap.size = true := decide_eq_true (by omega)
    have lb4_2 : ltB (w.heap.size + 2) w4.heap.size = true := decide_eq_true (by omega)
    have lb4_3 : ltB (w.heap.size + 3) w4.heap.size = true := decide_eq_true (by omega)
    have lb4_4 : ltB (w.heap.size + 4) w4.heap.size = true := decide_eq_true (by omega)
    clear hB3 u3_0 u3_1 u3_2 u3_3 u3_4 m3_0 m3_1 m3_2 m3_3 o3_0 o3_1 o3_2 o3_3 o3_4 hz3 lb3_0 lb3_1 lb3_2 lb3_3 lb3_4 hbv hrv hhv hsv hbr hrr hhr hsr
    have fr2_0 := (o4_2 0 (by omega)).2
    obtain ⟨x2_0, v2_0⟩ := Option.isSome_iff_exists.1 (o4_2 0 (by omega)).1
    have fr2_1 := (o4_2 1 (by omega)).2
    obtain ⟨x2_1, v2_1⟩ := Option.isSome_iff_exists.1 (o4_2 1 (by omega)).1
    have fr2_2 := (o4_2 2 (by omega)).2
    obtain ⟨x2_2, v2_2⟩ := Option.isSome_iff_exists.1 (o4_2 2 (by omega)).1
    have fr2_3 := (o4_2 3 (by omega)).2
    obtain ⟨x2_3, v2_3⟩ := Option.isSome_iff_exists.1 (o4_2 3 (by omega)).1
    have fr2_4 := (o4_2 4 (by omega)).2
    obtain ⟨x2_4, v2_4⟩ := Option.isSome_iff_exists.1 (o4_2 4 (by omega)).1
    have fr3_0 := (o4_3 0 (by omega)).2
    obtain ⟨x3_0, v3_0⟩ := Option.isSome_iff_exists.1 (o4_3 0 (by omega)).1
    have fr3_1 := (o4_3 1 (by omega)).2
    obtain ⟨x3_1, v3_1⟩ := Option.isSome_iff_exists.1 (o4_3 1 (by omega)).1
    have fr3_2 := (o4_3 2 (by omega)).2
    obtain ⟨x3_2, v3_2⟩ := Option.isSome_iff_exists.1 (o4_3 2 (by omega)).1
    have fr3_3 := (o4_3 3 (by omega)).2
    obtain ⟨x3_3, v3_3⟩ := Option.isSome_iff_exists.1 (o4_3 3 (by omega)).1
    have fr4_0 := (o4_4 0 (by omega)).2
    obtain ⟨x4_0, v4_0⟩ := Option.isSome_iff_exists.1 (o4_4 0 (by omega)).1
    have fr4_1 := (o4_4 1 (by omega)).2
    obtain ⟨x4_1, v4_1⟩ := Option.isSome_iff_exists.1 (o4_4 1 (by omega)).1
    go_region
    go_wp2
    refine bodyPost_ret (v := .tuple #[.agg #[.slice s1 n1 q1, .slice s2 n2 q2, .int .u64 0, .int .u64 A, .bool G], .agg #[.int .i64 8, .slice sa na ca, .slice sb nb cb, .slice none 0 0], .agg #[.int .u64 0, .bool false], .int .i64 Q]) (by simp (maxDischargeDepth := 4) [results, Tryd.results8, go_sem, *]) rfl ?_
    refine ⟨s1, n1, q1, s2, n2, q2, sa, na, ca, sb, nb, cb, rfl, ?_, ?_, ?_, ?_⟩
    · refine rb_be ?_ hL; repeat (with_reducible first | assumption | exact Below.refl _ _ | refine Below.drew ?_ | refine below_drewN ?_ _ | refine bw_alloc ?_ _ | (refine bw_set ?_ ?_ _; focus (dsimp only; omega)) | (apply bw_behind; assumption) | (refine bw_sc _ ?_ ?_; focus omega))
    · refine ez_rb_be ?_ hE; repeat (with_reducible first | assumption | exact Below.refl _ _ | refine Below.drew ?_ | refine below_drewN ?_ _ | refine bw_alloc ?_ _ | (refine bw_set ?_ ?_ _; focus (dsimp only; omega)) | (apply bw_behind; assumption) | (refine bw_sc _ ?_ ?_; focus omega))
    · refine mr_be ?_ hD; repeat (with_reducible first | assumption | exact Below.refl _ _ | refine Below.drew ?_ | refine below_drewN ?_ _ | refine bw_alloc ?_ _ | (refine bw_set ?_ ?_ _; focus (dsimp only; omega)) | (apply bw_behind; assumption) | (refine bw_sc _ ?_ ?_; focus omega))
    · repeat (with_reducible first | assumption | exact Below.refl _ _ | refine Below.drew ?_ | refine below_drewN ?_ _ | refine bw_alloc ?_ _ | (refine bw_set ?_ ?_ _; focus (dsimp only; omega)) | (apply bw_behind; assumption) | (refine bw_sc _ ?_ ?_; focus omega))
end Go.Proofs.YtkajndonefkegaaDoor
