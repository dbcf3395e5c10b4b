/-
  What the document's own Translate answers, over letters: a walk, marks stored.
-/
import Derived.Test.YtkajndonefkegaaDoorMmuRefTl
import Derived.BigQuiet
set_option maxRecDepth 100000
set_option maxHeartbeats 64000000
namespace Go.Proofs.YtkajndonefkegaaDoor
open Go.RowKit Words FieldMath PteMath

theorem rt_store (w : World) (b : Nat) (_hbw : b ≤ w.heap.size) (B : Nat -> Prop) (_hB : ∀ g, w.heap.size ≤ g -> B g) (sa sb s1 s2 : Option Addr) (na ca nb cb n1 q1 n2 q2 : Nat) (A V k Z Q : Int) (G t S : Bool) (L L' : List (LnX Int)) (E E' : List Fd) (D D' : List (Nat × BitVec 8)) (N : Int) (b0 b1 b2 b3 b4 b5 b6 b7 b8 b9 b10 b11 : Bool) (F a : Int) (DD XX : Bool) (Y : Int)  (cW : ∀ W, Below w.heap.size w W -> Calls Tryd.prog 39 #[.agg #[.int .i64 8, .slice sa na ca, .slice sb nb cb, .slice none 0 0], .int .u64 0, .int .u64 V] W (Makes (.tuple #[.agg #[.bool b0, .bool b1, .bool b2, .bool b3, .bool b4, .bool b5, .bool b6, .bool b7, .bool b8, .bool b9, .bool b10, .bool b11, .int .u64 F], .int .u64 a, .int .i64 0]) W)) (cC : ∀ W, Calls Tryd.prog 36 #[.agg #[.bool b0, .bool b1, .bool b2, .bool b3, .bool b4, .bool b5, .bool b6, .bool b7, .bool b8, .bool b9, .bool b10, .bool b11, .int .u64 F], .int .i64 k, .bool t, .bool G] W (Makes (.int .i64 0) W)) (cM : ∀ W, Calls Tryd.prog 37 #[.agg #[.bool b0, .bool b1, .bool b2, .bool b3, .bool b4, .bool b5, .bool b6, .bool b7, .bool b8, .bool b9, .bool b10, .bool b11, .int .u64 F], .int .i64 k, .bool t] W (Makes (.agg #[.bool b0, .bool b1, .bool b2, .bool b3, .bool b4, .bool b5, .bool true, .bool DD, .bool b8, .bool b9, .bool XX, .bool b11, .int .u64 F]) W)) (cU : ∀ W, Below w.heap.size w W -> w.heap.size + 5 ≤ W.heap.size -> Calls Tryd.prog 40 #[.slice s1 n1 q1, .agg #[.int .u64 A, .int .u64 N, .int .u64 (n2 : Int)]] W (fun e w' => ∃ s n q, e = .returned (.slice s n q) /\ RefB w' (w.heap.size + 5) (.slice s n q) L' /\ Below W.heap.size W w')) (cP : ∀ W, Calls Tryd.prog 38 #[.agg #[.bool b0, .bool b1, .bool b2, .bool b3, .bool b4, .bool b5, .bool true, .bool DD, .bool b8, .bool b9, .bool XX, .bool b11, .int .u64 F], .int .u64 V, .int .i64 k] W (Makes (.agg #[.int .u64 Z, .bool S]) W)) (cO : ∀ W, Calls Tryd.prog 14 #[.agg #[.bool b0, .bool b1, .bool b2, .bool b3, .bool b4, .bool b5, .bool true, .bool DD, .bool b8, .bool b9, .bool XX, .bool b11, .int .u64 F]] W (Makes (.int .u64 Y) W)) (cS : ∀ W, Below w.heap.size w W -> w.heap.size + 5 ≤ W.heap.size -> Calls Tryd.prog 13 #[.agg #[.int .i64 8, .slice sa na ca, .slice sb nb cb, .slice none 0 0], .int .u64 a, .int .i64 8, .int .u64 Y] W (fun e w' => ∃ sa' na' ca' sb' nb' cb', e = .returned (.tuple #[.agg #[.int .i64 8, .slice sa' na' ca', .slice sb' nb' cb', .slice none 0 0], .int .i64 0]) /\ MemR w' (fun g => w.heap.size + 5 ≤ g) sa' na' ca' sb' nb' cb' D' /\ Below W.heap.size W w')) (_n1 : V.tdiv 4096 = N) (_n2 : V / 4096 = N) (_n3 : IntKind.u64.wrap N = N) (_hV : ¬ (274877906944 ≤ V)) (hEE0 : E.length = n2) (hE9 : E.length ≤ 900) (hH : (∀ W, Below w.heap.size w W -> Calls Tryd.prog 35 #[.slice s1 n1 q1, .int .u64 A, .int .u64 N] W (Makes (.tuple #[.agg #[.int .u64 0, .int .u64 0, .int .u64 0], .bool false]) W)) ∨ (∃ (g X : Nat) (X1 X2 : Int) (DC XC c0 c1 c2 c3 c4 c5 c6 c7 c8 c9 c10 c11 : Bool) (F0 : Int), (∀ W, Below w.heap.size w W -> Calls Tryd.prog 35 #[.slice s1 n1 q1, .int .u64 A, .int .u64 N] W (Makes (.tuple #[.agg #[.int .u64 X1, .int .u64 X2, .int .u64 (X : Int)], .bool true]) W)) /\ (∀ W, Calls Tryd.prog 36 #[.agg #[.bool c0, .bool c1, .bool c2, .bool c3, .bool c4, .bool c5, .bool c6, .bool c7, .bool c8, .bool c9, .bool c10, .bool c11, .int .u64 F0], .int .i64 k, .bool t, .bool G] W (Makes (.int .i64 0) W)) /\ (∀ W, Calls Tryd.prog 37 #[.agg #[.bool c0, .bool c1, .bool c2, .bool c3, .bool c4, .bool c5, .bool c6, .bool c7, .bool c8, .bool c9, .bool c10, .bool c11, .int .u64 F0], .int .i64 k, .bool t] W (Makes (.agg #[.bool c0, .bool c1, .bool c2, .bool c3, .bool c4, .bool c5, .bool true, .bool DC, .bool c8, .bool c9, .bool XC, .bool c11, .int .u64 F0]) W)) /\ (∀ W, (binOp .eql 66 (.agg #[.bool c0, .bool c1, .bool c2, .bool c3, .bool c4, .bool c5, .bool true, .bool DC, .bool c8, .bool c9, .bool XC, .bool c11, .int .u64 F0]) (.agg #[.bool c0, .bool c1, .bool c2, .bool c3, .bool c4, .bool c5, .bool c6, .bool c7, .bool c8, .bool c9, .bool c10, .bool c11, .int .u64 F0])).run Tryd.prog W = .ok (.bool false) W) /\ (∀ W, (Op.equalIn 10000 66 (.agg #[.bool c0, .bool c1, .bool c2, .bool c3, .bool c4, .bool c5, .bool true, .bool DC, .bool c8, .bool c9, .bool XC, .bool c11, .int .u64 F0]) (.agg #[.bool c0, .bool c1, .bool c2, .bool c3, .bool c4, .bool c5, .bool c6, .bool c7, .bool c8, .bool c9, .bool c10, .bool c11, .int .u64 F0])).run Tryd.prog W = .ok false W) /\ s2 = some ⟨g, 0, none⟩ /\ (X : Int) < (n2 : Int) /\ ∀ j v, [.bool c0, .bool c1, .bool c2, .bool c3, .bool c4, .bool c5, .bool c6, .bool c7, .bool c8, .bool c9, .bool c10, .bool c11, .int .u64 F0][j]? = some v -> w.cell? ⟨g, X * 13 + j, none⟩ = some v)) (av : Int) (hEE : E' = E ++ [(⟨b0, b1, b2, b3, b4, b5, true, DD, b8, b9, XX, b11, F, av⟩ : Fd)]) (NE1 : ∀ W, (binOp .neq 66 (.agg #[.bool b0, .bool b1, .bool b2, .bool b3, .bool b4, .bool b5, .bool true, .bool DD, .bool b8, .bool b9, .bool XX, .bool b11, .int .u64 F]) (.agg #[.bool b0, .bool b1, .bool b2, .bool b3, .bool b4, .bool b5, .bool b6, .bool b7, .bool b8, .bool b9, .bool b10, .bool b11, .int .u64 F])).run Tryd.prog W = .ok (.bool true) W) (hQ : Q = 0) (_hL : RefB w b (.slice s1 n1 q1) L) (hE : EntB w b (.slice s2 n2 q2) E) (_hD : MemR w B sa na ca sb nb cb D) : Calls Tryd.prog 8 #[.agg #[.slice s1 n1 q1, .slice s2 n2 q2, .int .u64 0, .int .u64 A, .bool G], .agg #[.int .i64 8, .slice sa na ca, .slice sb nb cb, .slice none 0 0], .int .u64 V, .int .i64 k, .bool t] w (fun e w' => ∃ s1' n1' q1' s2' n2' q2' sa' na' ca' sb' nb' cb', e = .returned (.tuple #[.agg #[.slice s1' n1' q1', .slice s2' n2' q2', .int .u64 0, .int .u64 A, .bool G], .agg #[.int .i64 8, .slice sa' na' ca', .slice sb' nb' cb', .slice none 0 0], .agg #[.int .u64 Z, .bool S], .int .i64 Q]) /\ RefB w' b (.slice s1' n1' q1') L' /\ EntB w' b (.slice s2' n2' q2') E' /\ MemR w' B sa' na' ca' sb' nb' cb' D' /\ Below w.heap.size w w') := by
  have CcW := hide cW
  have CcC := hide cC
  have CcM := hide cM
  have CcU := hide cU
  have CcP := hide cP
  have CcO := hide cO
  have CcS := hide cS
  clear cW cC cM cU cP cO cS
  obtain ⟨SS, LB', LS, LA', LH⟩ := rules5
  subst hQ hEE
  obtain ⟨is, Y1, Y2, Y3, cL, hH2⟩ : ∃ (is : Bool) (Y1 Y2 Y3 : Int), (∀ W, Below w.heap.size w W -> Calls Tryd.prog 35 #[.slice s1 n1 q1, .int .u64 A, .int .u64 N] W (Makes (.tuple #[.agg #[.int .u64 Y1, .int .u64 Y2, .int .u64 Y3], .bool is]) W)) /\ (is = false ∨ (is = true /\ ∃ (g X : Nat) (DC XC c0 c1 c2 c3 c4 c5 c6 c7 c8 c9 c10 c11 : Bool) (F0 : Int), Y3 = (X : Int) /\ (∀ W, Calls Tryd.prog 36 #[.agg #[.bool c0, .bool c1, .bool c2, .bool c3, .bool c4, .bool c5, .bool c6, .bool c7, .bool c8, .bool c9, .bool c10, .bool c11, .int .u64 F0], .int .i64 k, .bool t, .bool G] W (Makes (.int .i64 0) W)) /\ (∀ W, Calls Tryd.prog 37 #[.agg #[.bool c0, .bool c1, .bool c2, .bool c3, .bool c4, .bool c5, .bool c6, .bool c7, .bool c8, .bool c9, .bool c10, .bool c11, .int .u64 F0], .int .i64 k, .bool t] W (Makes (.agg #[.bool c0, .bool c1, .bool c2, .bool c3, .bool c4, .bool c5, .bool true, .bool DC, .bool c8, .bool c9, .bool XC, .bool c11, .int .u64 F0]) W)) /\ (∀ W, (binOp .eql 66 (.agg #[.bool c0, .bool c1, .bool c2, .bool c3, .bool c4, .bool c5, .bool true, .bool DC, .bool c8, .bool c9, .bool XC, .bool c11, .int .u64 F0]) (.agg #[.bool c0, .bool c1, .bool c2, .bool c3, .bool c4, .bool c5, .bool c6, .bool c7, .bool c8, .bool c9, .bool c10, .bool c11, .int .u64 F0])).run Tryd.prog W = .ok (.bool false) W) /\ (∀ W, (Op.equalIn 10000 66 (.agg #[.bool c0, .bool c1, .bool c2, .bool c3, .bool c4, .bool c5, .bool true, .bool DC, .bool c8, .bool c9, .bool XC, .bool c11, .int .u64 F0]) (.agg #[.bool c0, .bool c1, .bool c2, .bool c3, .bool c4, .bool c5, .bool c6, .bool c7, .bool c8, .bool c9, .bool c10, .bool c11, .int .u64 F0])).run Tryd.prog W = .ok false W) /\ s2 = some ⟨g, 0, none⟩ /\ (X : Int) < (n2 : Int) /\ ∀ j v, [.bool c0, .bool c1, .bool c2, .bool c3, .bool c4, .bool c5, .bool c6, .bool c7, .bool c8, .bool c9, .bool c10, .bool c11, .int .u64 F0][j]? = some v -> w.cell? ⟨g, X * 13 + j, none⟩ = some v)) := by
    rcases hH with cL | ⟨g, X, X1, X2, DC, XC, c0, c1, c2, c3, c4, c5, c6, c7, c8, c9, c10, c11, F0, cL, cC0, cM0, EQ0, EI0, hs2, _i1, hE0⟩
    · exact ⟨false, 0, 0, 0, cL, .inl rfl⟩
    · exact ⟨true, X1, X2, (X : Int), cL, .inr ⟨rfl, g, X, DC, XC, c0, c1, c2, c3, c4, c5, c6, c7, c8, c9, c10, c11, F0, rfl, cC0, cM0, EQ0, EI0, hs2, _i1, hE0⟩⟩
  have HH2 := hide hH2
  clear hH hH2
  have CcL := hide cL
  clear cL
  go_enter Tryd.func8, Tryd.ntmps8
  go_upto_region 3 with fail
  refine wp_abs (fun W => Below w.heap.size w W /\ W.cell? ⟨w.heap.size, 0, none⟩ = some (.slice s1 n1 q1) /\ W.cell? ⟨w.heap.size, 1, none⟩ = some (.slice s2 n2 q2) /\ W.cell? ⟨w.heap.size, 2, none⟩ = some (.int .u64 0) /\ W.cell? ⟨w.heap.size, 3, none⟩ = some (.int .u64 A) /\ W.cell? ⟨w.heap.size, 4, none⟩ = some (.bool G) /\ W.cell? ⟨w.heap.size + 1, 0, none⟩ = some (.int .i64 8) /\ W.cell? ⟨w.heap.size + 1, 1, none⟩ = some (.slice sa na ca) /\ W.cell? ⟨w.heap.size + 1, 2, none⟩ = some (.slice sb nb cb) /\ W.cell? ⟨w.heap.size + 1, 3, none⟩ = some (.slice none 0 0) /\ Own W (w.heap.size) 5 /\ Own W (w.heap.size + 1) 4 /\ Own W (w.heap.size + 2) 5 /\ Own W (w.heap.size + 3) 4 /\ Own W (w.heap.size + 4) 2) ?_ ?_
  · refine ⟨?_, ?_, ?_, ?_, ?_, ?_, ?_, ?_, ?_, ?_, ?_, ?_, ?_, ?_, ?_⟩
    all_goals (first | ((repeat (with_reducible first | assumption | exact Below.refl _ _ | refine Below.drew ?_ | refine below_drewN ?_ _ | refine bw_alloc ?_ _ | (refine bw_set ?_ ?_ _; focus (dsimp only; omega)) | (apply bw_behind; assumption))); done) | ((repeat (first | (with_reducible first | assumption | refine o_dr _ ?_ | refine o_d1 ?_ | refine o_set ?_) | (with_reducible refine o_new ?_ ?_; (focus (simp)); (focus (simp))) | (with_reducible first | refine o_al _ ?_ | (apply o_be; assumption)))); done) | (simp [go_sem, *]; done))
  rintro w1 ⟨hB1, u1_0, u1_1, u1_2, u1_3, u1_4, m1_0, m1_1, m1_2, m1_3, o1_0, o1_1, o1_2, o1_3, o1_4⟩
  have hz1 : w.heap.size + 4 < w1.heap.size := by
    obtain ⟨x, hx⟩ := Option.isSome_iff_exists.1 (o1_4 0 (by omega)).1
    exact World.block_lt_of_cell? w1 _ hx
  have lb1_0 : ltB (w.heap.size) w1.heap.size = true := decide_eq_true (by omega)
  have lb1_1 : ltB (w.heap.size + 1) w1.heap.size = true := decide_eq_true (by omega)
  have lb1_2 : ltB (w.heap.size + 2) w1.heap.size = true := decide_eq_true (by omega)
  have lb1_3 : ltB (w.heap.size + 3) w1.heap.size = true := decide_eq_true (by omega)
  have lb1_4 : ltB (w.heap.size + 4) w1.heap.size = true := decide_eq_true (by omega)
  go_upto_if 37 with (first | (go_at_call 35; (with_reducible refine (CcL.out _ ?_).mono ?_); (focus (repeat (with_reducible first | assumption | exact Below.refl _ _ | refine Below.drew ?_ | refine below_drewN ?_ _ | refine bw_alloc ?_ _ | (refine bw_set ?_ ?_ _; focus (dsimp only; omega)) | (apply bw_behind; assumption) | (refine bw_sc _ ?_ ?_; focus omega)))); rintro e wk ⟨rfl, hbk⟩; obtain ⟨hrk, hhk, mk, hsk⟩ := bl_all hbk))
  refine wp_abs (fun W => Below w.heap.size w W /\ W.cell? ⟨w.heap.size, 0, none⟩ = some (.slice s1 n1 q1) /\ W.cell? ⟨w.heap.size, 1, none⟩ = some (.slice s2 n2 q2) /\ W.cell? ⟨w.heap.size, 2, none⟩ = some (.int .u64 0) /\ W.cell? ⟨w.heap.size, 3, none⟩ = some (.int .u64 A) /\ W.cell? ⟨w.heap.size, 4, none⟩ = some (.bool G) /\ W.cell? ⟨w.heap.size + 1, 0, none⟩ = some (.int .i64 8) /\ W.cell? ⟨w.heap.size + 1, 1, none⟩ = some (.slice sa na ca) /\ W.cell? ⟨w.heap.size + 1, 2, none⟩ = some (.slice sb nb cb) /\ W.cell? ⟨w.heap.size + 1, 3, none⟩ = some (.slice none 0 0) /\ Own W (w.heap.size) 5 /\ Own W (w.heap.size + 1) 4 /\ Own W (w.heap.size + 2) 5 /\ Own W (w.heap.size + 3) 4 /\ Own W (w.heap.size + 4) 2 /\ W.cell? ⟨w1.heap.size + mk, 0, none⟩ = some (.int .u64 Y1) /\ W.cell? ⟨w1.heap.size + mk, 1, none⟩ = some (.int .u64 Y2) /\ W.cell? ⟨w1.heap.size + mk, 2, none⟩ = some (.int .u64 Y3)) ?_ ?_
  · refine ⟨?_, ?_, ?_, ?_, ?_, ?_, ?_, ?_, ?_, ?_, ?_, ?_, ?_, ?_, ?_, ?_, ?_, ?_⟩
    iterate 18 (first | (focus ((first | ((repeat (with_reducible first | assumption | exact Below.refl _ _ | refine Below.drew ?_ | refine below_drewN ?_ _ | refine bw_alloc ?_ _ | (refine bw_set ?_ ?_ _; focus (dsimp only; omega)) | (apply bw_behind; assumption) | (refine bw_sc _ ?_ ?_; focus omega))); done) | ((repeat (with_reducible first | assumption | refine c_dr _ ?_ | refine c_d1 ?_ | refine c_al _ ?_ | (refine c_set ?_ ?_; focus (dsimp only; omega)) | (apply c_be; assumption) | (refine c_sc ?_ ?_; focus (dsimp only; omega)))); done) | ((repeat (first | (with_reducible first | assumption | refine o_dr _ ?_ | refine o_d1 ?_ | refine o_set ?_) | (with_reducible refine o_new ?_ ?_; (focus (simp)); (focus (simp))) | (with_reducible refine o_new ?_ ?_; (focus (simp [*]; done)); (focus (simp))) | (with_reducible refine o_new ?_ ?_; (focus (simp [*]; omega)); (focus (simp))) | (with_reducible first | refine o_sc ?_ | refine o_al _ ?_ | (apply o_be; assumption)))); done) | (simp [go_sem, *]; done) | (simp [go_sem, *]; omega)))))
  rintro w2 ⟨hB2, u2_0, u2_1, u2_2, u2_3, u2_4, m2_0, m2_1, m2_2, m2_3, o2_0, o2_1, o2_2, o2_3, o2_4, l2_0, l2_1, l2_2⟩
  have hz2 : w.heap.size + 4 < w2.heap.size := by
    obtain ⟨x, hx⟩ := Option.isSome_iff_exists.1 (o2_4 0 (by omega)).1
    exact World.block_lt_of_cell? w2 _ hx
  have lb2_0 : ltB (w.heap.size) w2.heap.size = true := decide_eq_true (by omega)
  have lb2_1 : ltB (w.heap.size + 1) w2.heap.size = true := decide_eq_true (by omega)
  have lb2_2 : ltB (w.heap.size + 2) w2.heap.size = true := decide_eq_true (by omega)
  have lb2_3 : ltB (w.heap.size + 3) w2.heap.size = true := decide_eq_true (by omega)
  have lb2_4 : ltB (w.heap.size + 4) w2.heap.size = true := decide_eq_true (by omega)
  have hsl2 : w1.heap.size + mk < w2.heap.size := World.block_lt_of_cell? w2 _ l2_0
  have hhl2 : w.heap.size + 4 < w1.heap.size + mk := by omega
  clear hB1 u1_0 u1_1 u1_2 u1_3 u1_4 m1_0 m1_1 m1_2 m1_3 o1_0 o1_1 o1_2 o1_3 o1_4 hz1 lb1_0 lb1_1 lb1_2 lb1_3 lb1_4 hbk hrk hhk hsk
  generalize w1.heap.size + mk = lb at *
  have lbl2 : ltB lb w2.heap.size = true := decide_eq_true hsl2
  go_cut [] (fun wx => Below w.heap.size w wx /\ wx.cell? ⟨w.heap.size, 0, none⟩ = some (.slice s1 n1 q1) /\ wx.cell? ⟨w.heap.size, 1, none⟩ = some (.slice s2 n2 q2) /\ wx.cell? ⟨w.heap.size, 2, none⟩ = some (.int .u64 0) /\ wx.cell? ⟨w.heap.size, 3, none⟩ = some (.int .u64 A) /\ wx.cell? ⟨w.heap.size, 4, none⟩ = some (.bool G) /\ wx.cell? ⟨w.heap.size + 1, 0, none⟩ = some (.int .i64 8) /\ wx.cell? ⟨w.heap.size + 1, 1, none⟩ = some (.slice sa na ca) /\ wx.cell? ⟨w.heap.size + 1, 2, none⟩ = some (.slice sb nb cb) /\ wx.cell? ⟨w.heap.size + 1, 3, none⟩ = some (.slice none 0 0) /\ Own wx (w.heap.size) 5 /\ Own wx (w.heap.size + 1) 4 /\ Own wx (w.heap.size + 2) 5 /\ Own wx (w.heap.size + 3) 4 /\ Own wx (w.heap.size + 4) 2)
  case first =>
    have hH3 := HH2.out
    clear HH2
    rcases hH3 with rfl | ⟨rfl, g, X, DC, XC, c0, c1, c2, c3, c4, c5, c6, c7, c8, c9, c10, c11, F0, rfl, cC0, cM0, EQ0, EI0, rfl, _i1, hE0⟩
    · go_wp2_with fail
      go_meet
      refine ⟨?_, ?_, ?_, ?_, ?_, ?_, ?_, ?_, ?_, ?_, ?_, ?_, ?_, ?_, ?_⟩
      iterate 15 (first | (focus ((first | ((repeat (with_reducible first | assumption | exact Below.refl _ _ | refine Below.drew ?_ | refine below_drewN ?_ _ | refine bw_alloc ?_ _ | (refine bw_set ?_ ?_ _; focus (dsimp only; omega)) | (apply bw_behind; assumption) | (refine bw_sc _ ?_ ?_; focus omega))); done) | ((repeat (with_reducible first | assumption | refine c_dr _ ?_ | refine c_d1 ?_ | refine c_al _ ?_ | (refine c_set ?_ ?_; focus (dsimp only; omega)) | (apply c_be; assumption) | (refine c_sc ?_ ?_; focus (dsimp only; omega)))); done) | ((repeat (first | (with_reducible first | assumption | refine o_dr _ ?_ | refine o_d1 ?_ | refine o_set ?_) | (with_reducible refine o_new ?_ ?_; (focus (simp)); (focus (simp))) | (with_reducible refine o_new ?_ ?_; (focus (simp [*]; done)); (focus (simp))) | (with_reducible refine o_new ?_ ?_; (focus (simp [*]; omega)); (focus (simp))) | (with_reducible first | refine o_sc ?_ | refine o_al _ ?_ | (apply o_be; assumption)))); done) | (simp [go_sem, *]; done) | (simp [go_sem, *]; omega)))))
    · have _i0 : (0 : Int) ≤ (X : Int) := by omega
      have CcC0 := hide cC0
      have CcM0 := hide cM0
      clear cC0 cM0
      have hg0 : g < w.heap.size := World.block_lt_of_cell? w _ (hE0 0 _ rfl)
      have r0 := c_be hB2 (hE0 0 _ rfl)
      have r1 := c_be hB2 (hE0 1 _ rfl)
      have r2 := c_be hB2 (hE0 2 _ rfl)
      have r3 := c_be hB2 (hE0 3 _ rfl)
      have r4 := c_be hB2 (hE0 4 _ rfl)
      have r5 := c_be hB2 (hE0 5 _ rfl)
      have r6 := c_be hB2 (hE0 6 _ rfl)
      have r7 := c_be hB2 (hE0 7 _ rfl)
      have r8 := c_be hB2 (hE0 8 _ rfl)
      have r9 := c_be hB2 (hE0 9 _ rfl)
      have r10 := c_be hB2 (hE0 10 _ rfl)
      have r11 := c_be hB2 (hE0 11 _ rfl)
      have r12 := c_be hB2 (hE0 12 _ rfl)
      rw [Nat.add_zero] at r0
      have lg2 : ltB g w2.heap.size = true := decide_eq_true (by omega)
      go_upto_region 9 with (first | (go_at_call 36; (with_reducible refine (CcC0.out _).mono ?_); rintro e wq ⟨rfl, hbq⟩; obtain ⟨hrq, hhq, mq, hsq⟩ := bl_all hbq))
      refine wp_abs (fun W => Below w.heap.size w W /\ W.cell? ⟨w.heap.size, 0, none⟩ = some (.slice s1 n1 q1) /\ W.cell? ⟨w.heap.size, 1, none⟩ = some (.slice (some ⟨g, 0, none⟩) n2 q2) /\ W.cell? ⟨w.heap.size, 2, none⟩ = some (.int .u64 0) /\ W.cell? ⟨w.heap.size, 3, none⟩ = some (.int .u64 A) /\ W.cell? ⟨w.heap.size, 4, none⟩ = some (.bool G) /\ W.cell? ⟨w.heap.size + 1, 0, none⟩ = some (.int .i64 8) /\ W.cell? ⟨w.heap.size + 1, 1, none⟩ = some (.slice sa na ca) /\ W.cell? ⟨w.heap.size + 1, 2, none⟩ = some (.slice sb nb cb) /\ W.cell? ⟨w.heap.size + 1, 3, none⟩ = some (.slice none 0 0) /\ Own W (w.heap.size) 5 /\ Own W (w.heap.size + 1) 4 /\ Own W (w.heap.size + 2) 5 /\ Own W (w.heap.size + 3) 4 /\ Own W (w.heap.size + 4) 2 /\ W.cell? ⟨w2.heap.size, 0, none⟩ = some (.bool c0) /\ W.cell? ⟨w2.heap.size, 1, none⟩ = some (.bool c1) /\ W.cell? ⟨w2.heap.size, 2, none⟩ = some (.bool c2) /\ W.cell? ⟨w2.heap.size, 3, none⟩ = some (.bool c3) /\ W.cell? ⟨w2.heap.size, 4, none⟩ = some (.bool c4) /\ W.cell? ⟨w2.heap.size, 5, none⟩ = some (.bool c5) /\ W.cell? ⟨w2.heap.size, 6, none⟩ = some (.bool c6) /\ W.cell? ⟨w2.heap.size, 7, none⟩ = some (.bool c7) /\ W.cell? ⟨w2.heap.size, 8, none⟩ = some (.bool c8) /\ W.cell? ⟨w2.heap.size, 9, none⟩ = some (.bool c9) /\ W.cell? ⟨w2.heap.size, 10, none⟩ = some (.bool c10) /\ W.cell? ⟨w2.heap.size, 11, none⟩ = some (.bool c11) /\ W.cell? ⟨w2.heap.size, 12, none⟩ = some (.int .u64 F0)) ?_ ?_
      · refine ⟨?_, ?_, ?_, ?_, ?_, ?_, ?_, ?_, ?_, ?_, ?_, ?_, ?_, ?_, ?_, ?_, ?_, ?_, ?_, ?_, ?_, ?_, ?_, ?_, ?_, ?_, ?_, ?_⟩
        iterate 28 (first | (focus ((first | ((repeat (with_reducible first | assumption | exact Below.refl _ _ | refine Below.drew ?_ | refine below_drewN ?_ _ | refine bw_alloc ?_ _ | (refine bw_set ?_ ?_ _; focus (dsimp only; omega)) | (apply bw_behind; assumption) | (refine bw_sc _ ?_ ?_; focus omega))); done) | ((repeat (with_reducible first | assumption | refine c_dr _ ?_ | refine c_d1 ?_ | refine c_al _ ?_ | (refine c_set ?_ ?_; focus (dsimp only; omega)) | (apply c_be; assumption) | (refine c_sc ?_ ?_; focus (dsimp only; omega)))); done) | ((repeat (first | (with_reducible first | assumption | refine o_dr _ ?_ | refine o_d1 ?_ | refine o_set ?_) | (with_reducible refine o_new ?_ ?_; (focus (simp)); (focus (simp))) | (with_reducible refine o_new ?_ ?_; (focus (simp [*]; done)); (focus (simp))) | (with_reducible refine o_new ?_ ?_; (focus (simp [*]; omega)); (focus (simp))) | (with_reducible first | refine o_sc ?_ | refine o_al _ ?_ | (apply o_be; assumption)))); done) | (simp [go_sem, *]; done) | (simp [go_sem, *]; omega)))))
      rintro w3 ⟨hB3, u3_0, u3_1, u3_2, u3_3, u3_4, m3_0, m3_1, m3_2, m3_3, o3_0, o3_1, o3_2, o3_3, o3_4, x3_0, x3_1, x3_2, x3_3, x3_4, x3_5, x3_6, x3_7, x3_8, x3_9, x3_10, x3_11, x3_12⟩
      have hz3 : w.heap.size + 4 < w3.heap.size := by
        obtain ⟨x, hx⟩ := Option.isSome_iff_exists.1 (o3_4 0 (by omega)).1
        exact World.block_lt_of_cell? w3 _ hx
      have lb3_0 : ltB (w.heap.size) w3.heap.size = true := decide_eq_true (by omega)
      have lb3_1 : ltB (w.heap.size + 1) w3.heap.size = true := decide_eq_true (by omega)
      have lb3_2 : ltB (w.heap.size + 2) w3.heap.size = true := decide_eq_true (by omega)
      have lb3_3 : ltB (w.heap.size + 3) w3.heap.size = true := decide_eq_true (by omega)
      have lb3_4 : ltB (w.heap.size + 4) w3.heap.size = true := decide_eq_true (by omega)
      have hsx3 : w2.heap.size < w3.heap.size := World.block_lt_of_cell? w3 _ x3_0
      have hhx3 : w.heap.size + 4 < w2.heap.size := by omega
      clear hB2 u2_0 u2_1 u2_2 u2_3 u2_4 m2_0 m2_1 m2_2 m2_3 o2_0 o2_1 o2_2 o2_3 o2_4 hz2 lb2_0 lb2_1 lb2_2 lb2_3 lb2_4 l2_0 l2_1 l2_2 hsl2 lbl2 hbq hrq hhq hsq lg2 r0 r1 r2 r3 r4 r5 r6 r7 r8 r9 r10 r11 r12
      generalize w2.heap.size = xb at *
      have lbx3 : ltB xb w3.heap.size = true := decide_eq_true hsx3
      have y0 := behind_cell0 x3_0
      have y1 := behind_cell0 x3_1
      have y2 := behind_cell0 x3_2
      have y3 := behind_cell0 x3_3
      have y4 := behind_cell0 x3_4
      have y5 := behind_cell0 x3_5
      have y6 := behind_cell0 x3_6
      have y7 := behind_cell0 x3_7
      have y8 := behind_cell0 x3_8
      have y9 := behind_cell0 x3_9
      have y10 := behind_cell0 x3_10
      have y11 := behind_cell0 x3_11
      have y12 := behind_cell0 x3_12
      have hsome := Behind.any w3
      refine wp_region_behind w3 (by kernel_rfl) (by kernel_rfl) (Below.refl _ _) ?_
      repeat (go_big_quiet_step (first | (go_at_call 37; with_reducible first | exact behind_one CcM0.out _)))
      refine wpQuiet_nil ?_
      rintro _ ⟨y, rfl⟩
      have hBy := y.below
      clear hsome y0 y1 y2 y3 y4 y5 y6 y7 y8 y9 y10 y11 y12
      go_wp2_with fail
      go_meet
      refine ⟨?_, ?_, ?_, ?_, ?_, ?_, ?_, ?_, ?_, ?_, ?_, ?_, ?_, ?_, ?_⟩
      iterate 15 (first | (focus ((first | ((repeat (with_reducible first | assumption | exact Below.refl _ _ | refine Below.drew ?_ | refine below_drewN ?_ _ | refine bw_alloc ?_ _ | (refine bw_set ?_ ?_ _; focus (dsimp only; omega)) | (apply bw_behind; assumption) | (refine bw_sc _ ?_ ?_; focus omega))); done) | ((repeat (with_reducible first | assumption | refine c_dr _ ?_ | refine c_d1 ?_ | refine c_al _ ?_ | (refine c_set ?_ ?_; focus (dsimp only; omega)) | (apply c_be; assumption) | (refine c_sc ?_ ?_; focus (dsimp only; omega)))); done) | ((repeat (first | (with_reducible first | assumption | refine o_dr _ ?_ | refine o_d1 ?_ | refine o_set ?_) | (with_reducible refine o_new ?_ ?_; (focus (simp)); (focus (simp))) | (with_reducible refine o_new ?_ ?_; (focus (simp [*]; done)); (focus (simp))) | (with_reducible refine o_new ?_ ?_; (focus (simp [*]; omega)); (focus (simp))) | (with_reducible first | refine o_sc ?_ | refine o_al _ ?_ | (apply o_be; assumption)))); done) | (simp [go_sem, *]; done) | (simp [go_sem, *]; omega)))))
  case rest =>
    go_upto_region 11 with fail
    refine wp_abs (fun W => Below w.heap.size w W /\ W.cell? ⟨w.heap.size, 0, none⟩ = some (.slice s1 n1 q1) /\ W.cell? ⟨w.heap.size, 1, none⟩ = some (.slice s2 n2 q2) /\ W.cell? ⟨w.heap.size, 2, none⟩ = some (.int .u64 0) /\ W.cell? ⟨w.heap.size, 3, none⟩ = some (.int .u64 A) /\ W.cell? ⟨w.heap.size, 4, none⟩ = some (.bool G) /\ W.cell? ⟨w.heap.size + 1, 0, none⟩ = some (.int .i64 8) /\ W.cell? ⟨w.heap.size + 1, 1, none⟩ = some (.slice sa na ca) /\ W.cell? ⟨w.heap.size + 1, 2, none⟩ = some (.slice sb nb cb) /\ W.cell? ⟨w.heap.size + 1, 3, none⟩ = some (.slice none 0 0) /\ Own W (w.heap.size) 5 /\ Own W (w.heap.size + 1) 4 /\ Own W (w.heap.size + 2) 5 /\ Own W (w.heap.size + 3) 4 /\ Own W (w.heap.size + 4) 2) hcut ?_
    clear hcut HH2
    clear u2_0 u2_1 u2_2 u2_3 u2_4 m2_0 m2_1 m2_2 m2_3 o2_0 o2_1 o2_2 o2_3 o2_4 hz2 lb2_0 lb2_1 lb2_2 lb2_3 lb2_4 l2_0 l2_1 l2_2 hsl2 lbl2 hhl2
    rintro w3 ⟨hB3, u3_0, u3_1, u3_2, u3_3, u3_4, m3_0, m3_1, m3_2, m3_3, o3_0, o3_1, o3_2, o3_3, o3_4⟩
    have hz3 : w.heap.size + 4 < w3.heap.size := by
      obtain ⟨x, hx⟩ := Option.isSome_iff_exists.1 (o3_4 0 (by omega)).1
      exact World.block_lt_of_cell? w3 _ hx
    have lb3_0 : ltB (w.heap.size) w3.heap.size = true := decide_eq_true (by omega)
    have lb3_1 : ltB (w.heap.size + 1) w3.heap.size = true := decide_eq_true (by omega)
    have lb3_2 : ltB (w.heap.size + 2) w3.heap.size = true := decide_eq_true (by omega)
    have lb3_3 : ltB (w.heap.size + 3) w3.heap.size = true := decide_eq_true (by omega)
    have lb3_4 : ltB (w.heap.size + 4) w3.heap.size = true := decide_eq_true (by omega)
    clear hB2
    go_upto_region 19 with (first | (go_at_call 39; (with_reducible refine (CcW.out _ ?_).mono ?_); (focus (repeat (with_reducible first | assumption | exact Below.refl _ _ | refine Below.drew ?_ | refine below_drewN ?_ _ | refine bw_alloc ?_ _ | (refine bw_set ?_ ?_ _; focus (dsimp only; omega)) | (apply bw_behind; assumption) | (refine bw_sc _ ?_ ?_; focus omega)))); rintro e wv ⟨rfl, hbv⟩; obtain ⟨hrv, hhv, mv, hsv⟩ := bl_all hbv) | (go_at_call 36; (with_reducible refine (CcC.out _).mono ?_); rintro e wr ⟨rfl, hbr⟩; obtain ⟨hrr, hhr, mr, hsr⟩ := bl_all hbr) | (go_at_call 37; (with_reducible refine (CcM.out _).mono ?_); rintro e wn ⟨rfl, hbn⟩; obtain ⟨hrn, hhn, mn, hsn⟩ := bl_all hbn))
    refine wp_abs (fun W => Below w.heap.size w W /\ W.cell? ⟨w.heap.size, 0, none⟩ = some (.slice s1 n1 q1) /\ W.cell? ⟨w.heap.size, 1, none⟩ = some (.slice s2 n2 q2) /\ W.cell? ⟨w.heap.size, 2, none⟩ = some (.int .u64 0) /\ W.cell? ⟨w.heap.size, 3, none⟩ = some (.int .u64 A) /\ W.cell? ⟨w.heap.size, 4, none⟩ = some (.bool G) /\ W.cell? ⟨w.heap.size + 1, 0, none⟩ = some (.int .i64 8) /\ W.cell? ⟨w.heap.size + 1, 1, none⟩ = some (.slice sa na ca) /\ W.cell? ⟨w.heap.size + 1, 2, none⟩ = some (.slice sb nb cb) /\ W.cell? ⟨w.heap.size + 1, 3, none⟩ = some (.slice none 0 0) /\ Own W (w.heap.size) 5 /\ Own W (w.heap.size + 1) 4 /\ Own W (w.heap.size + 2) 5 /\ Own W (w.heap.size + 3) 4 /\ Own W (w.heap.size + 4) 2 /\ W.cell? ⟨w3.heap.size + mv, 0, none⟩ = some (.bool b0) /\ W.cell? ⟨w3.heap.size + mv, 1, none⟩ = some (.bool b1) /\ W.cell? ⟨w3.heap.size + mv, 2, none⟩ = some (.bool b2) /\ W.cell? ⟨w3.heap.size + mv, 3, none⟩ = some (.bool b3) /\ W.cell? ⟨w3.heap.size + mv, 4, none⟩ = some (.bool b4) /\ W.cell? ⟨w3.heap.size + mv, 5, none⟩ = some (.bool b5) /\ W.cell? ⟨w3.heap.size + mv, 6, none⟩ = some (.bool b6) /\ W.cell? ⟨w3.heap.size + mv, 7, none⟩ = some (.bool b7) /\ W.cell? ⟨w3.heap.size + mv, 8, none⟩ = some (.bool b8) /\ W.cell? ⟨w3.heap.size + mv, 9, none⟩ = some (.bool b9) /\ W.cell? ⟨w3.heap.size + mv, 10, none⟩ = some (.bool b10) /\ W.cell? ⟨w3.heap.size + mv, 11, none⟩ = some (.bool b11) /\ W.cell? ⟨w3.heap.size + mv, 12, none⟩ = some (.int .u64 F) /\ W.cell? ⟨w3.heap.size + mv + 1 + mr + mn, 0, none⟩ = some (.bool b0) /\ W.cell? ⟨w3.heap.size + mv + 1 + mr + mn, 1, none⟩ = some (.bool b1) /\ W.cell? ⟨w3.heap.size + mv + 1 + mr + mn, 2, none⟩ = some (.bool b2) /\ W.cell? ⟨w3.heap.size + mv + 1 + mr + mn, 3, none⟩ = some (.bool b3) /\ W.cell? ⟨w3.heap.size + mv + 1 + mr + mn, 4, none⟩ = some (.bool b4) /\ W.cell? ⟨w3.heap.size + mv + 1 + mr + mn, 5, none⟩ = some (.bool b5) /\ W.cell? ⟨w3.heap.size + mv + 1 + mr + mn, 6, none⟩ = some (.bool true) /\ W.cell? ⟨w3.heap.size + mv + 1 + mr + mn, 7, none⟩ = some (.bool DD) /\ W.cell? ⟨w3.heap.size + mv + 1 + mr + mn, 8, none⟩ = some (.bool b8) /\ W.cell? ⟨w3.heap.size + mv + 1 + mr + mn, 9, none⟩ = some (.bool b9) /\ W.cell? ⟨w3.heap.size + mv + 1 + mr + mn, 10, none⟩ = some (.bool XX) /\ W.cell? ⟨w3.heap.size + mv + 1 + mr + mn, 11, none⟩ = some (.bool b11) /\ W.cell? ⟨w3.heap.size + mv + 1 + mr + mn, 12, none⟩ = some (.int .u64 F)) ?_ ?_
    · refine ⟨?_, ?_, ?_, ?_, ?_, ?_, ?_, ?_, ?_, ?_, ?_, ?_, ?_, ?_, ?_, ?_, ?_, ?_, ?_, ?_, ?_, ?_, ?_, ?_, ?_, ?_, ?_, ?_, ?_, ?_, ?_, ?_, ?_, ?_, ?_, ?_, ?_, ?_, ?_, ?_, ?_⟩
      iterate 41 (first | (focus ((first | ((repeat (with_reducible first | assumption | exact Below.refl _ _ | refine Below.drew ?_ | refine below_drewN ?_ _ | refine bw_alloc ?_ _ | (refine bw_set ?_ ?_ _; focus (dsimp only; omega)) | (apply bw_behind; assumption) | (refine bw_sc _ ?_ ?_; focus omega))); done) | ((repeat (with_reducible first | assumption | refine c_dr _ ?_ | refine c_d1 ?_ | refine c_al _ ?_ | (refine c_set ?_ ?_; focus (dsimp only; omega)) | (apply c_be; assumption) | (refine c_sc ?_ ?_; focus (dsimp only; omega)))); done) | ((repeat (first | (with_reducible first | assumption | refine o_dr _ ?_ | refine o_d1 ?_ | refine o_set ?_) | (with_reducible refine o_new ?_ ?_; (focus (simp)); (focus (simp))) | (with_reducible refine o_new ?_ ?_; (focus (simp [*]; done)); (focus (simp))) | (with_reducible refine o_new ?_ ?_; (focus (simp [*]; omega)); (focus (simp))) | (with_reducible first | refine o_sc ?_ | refine o_al _ ?_ | (apply o_be; assumption)))); done) | (simp [go_sem, *]; done) | (simp [go_sem, *]; omega)))))
    rintro w4 ⟨hB4, u4_0, u4_1, u4_2, u4_3, u4_4, m4_0, m4_1, m4_2, m4_3, o4_0, o4_1, o4_2, o4_3, o4_4, x4_0, x4_1, x4_2, x4_3, x4_4, x4_5, x4_6, x4_7, x4_8, x4_9, x4_10, x4_11, x4_12, mm4_0, mm4_1, mm4_2, mm4_3, mm4_4, mm4_5, mm4_6, mm4_7, mm4_8, mm4_9, mm4_10, mm4_11, mm4_12⟩
    have hz4 : w.heap.size + 4 < w4.heap.size := by
      obtain ⟨x, hx⟩ := Option.isSome_iff_exists.1 (o4_4 0 (by omega)).1
      exact World.block_lt_of_cell? w4 _ hx
    have lb4_0 : ltB (w.heap.size) w4.heap.size = true := decide_eq_true (by omega)
    have lb4_1 : ltB (w.heap.size + 1) w4.heap.size = true := decide_eq_true (by omega)
    have lb4_2 : ltB (w.heap.size + 2) w4.heap.size = true := decide_eq_true (by omega)
    have lb4_3 : ltB (w.heap.size + 3) w4.heap.size = true := decide_eq_true (by omega)
    have lb4_4 : ltB (w.heap.size + 4) w4.heap.size = true := decide_eq_true (by omega)
    have hsx4 : w3.heap.size + mv < w4.heap.size := World.block_lt_of_cell? w4 _ x4_0
    have hhx4 : w.heap.size + 4 < w3.heap.size + mv := by omega
    have hsmm4 : w3.heap.size + mv + 1 + mr + mn < w4.heap.size := World.block_lt_of_cell? w4 _ mm4_0
    have hhmm4 : w.heap.size + 4 < w3.heap.size + mv + 1 + mr + mn := by omega
    clear hB3 u3_0 u3_1 u3_2 u3_3 u3_4 m3_0 m3_1 m3_2 m3_3 o3_0 o3_1 o3_2 o3_3 o3_4 hz3 lb3_0 lb3_1 lb3_2 lb3_3 lb3_4 hbv hrv hhv hsv hbr hrr hhr hsr hbn hrn hhn hsn
    generalize w3.heap.size + mv + 1 + mr + mn = mb at *
    generalize w3.heap.size + mv = xb at *
    have lbx4 : ltB xb w4.heap.size = true := decide_eq_true hsx4
    have lbmm4 : ltB mb w4.heap.size = true := decide_eq_true hsmm4
    have fm0 := (o4_1 0 (by omega)).2
    have fm1 := (o4_1 1 (by omega)).2
    have fm2 := (o4_1 2 (by omega)).2
    have fm3 := (o4_1 3 (by omega)).2
    go_upto_region 20 with fail
    go_cut [] (fun wx => ∃ sx nx cx sy ny cy, Out1 (w.heap.size + 1) w4 wx /\ wx.cell? ⟨w.heap.size + 1, 0, none⟩ = some (.int .i64 8) /\ wx.cell? ⟨w.heap.size + 1, 1, none⟩ = some (.slice sx nx cx) /\ wx.cell? ⟨w.heap.size + 1, 2, none⟩ = some (.slice sy ny cy) /\ wx.cell? ⟨w.heap.size + 1, 3, none⟩ = some (.slice none 0 0) /\ Own wx (w.heap.size + 1) 4 /\ MemR wx (fun g => w.heap.size + 5 ≤ g) sx nx cx sy ny cy D')
    case first =>
      go_region_with (first | (go_at_call 14; (with_reducible refine (CcO.out _).mono ?_); rintro e wo ⟨rfl, hbo⟩; obtain ⟨hro, hho, mo, hso⟩ := bl_all hbo) | (go_at_call 13; (with_reducible refine (CcS.out _ ?_ ?_).mono ?_); (focus (repeat (with_reducible first | assumption | exact Below.refl _ _ | refine Below.drew ?_ | refine below_drewN ?_ _ | refine bw_alloc ?_ _ | (refine bw_set ?_ ?_ _; focus (dsimp only; omega)) | (apply bw_behind; assumption) | (refine bw_sc _ ?_ ?_; focus omega)))); (focus (refine bsz (a := w4) (by omega) ?_; repeat (with_reducible first | assumption | exact Below.refl _ _ | refine Below.drew ?_ | refine below_drewN ?_ _ | refine bw_alloc ?_ _ | (refine bw_set ?_ ?_ _; focus (dsimp only; omega)) | (apply bw_behind; assumption) | (refine bw_sc _ ?_ ?_; focus omega)))); rintro e wt ⟨sx, nx, cx, sy, ny, cy, rfl, hMt, hbt⟩; obtain ⟨hrt, hht, mt, hst⟩ := bl_all hbt))
      all_goals
        go_wp2_with fail
        go_meet
        refine ⟨sx, nx, cx, sy, ny, cy, ?_, ?_, ?_, ?_, ?_, ?_, ?_⟩
        · repeat (with_reducible first | assumption | exact Out1.refl _ _ | refine u_dr _ ?_ | refine u_d1 ?_ | refine u_al _ ?_ | (refine u_in _ ?_ ?_; focus omega) | (apply u_bh; assumption))
        iterate 4 (focus (simp [go_sem, *]; done))
        · repeat (first | (with_reducible first | assumption | refine o_dr _ ?_ | refine o_d1 ?_ | refine o_set ?_) | (with_reducible refine o_new ?_ ?_; (focus (simp)); (focus (simp))) | (with_reducible refine o_new ?_ ?_; (focus (simp [*]; done)); (focus (simp))) | (with_reducible refine o_new ?_ ?_; (focus (simp [*]; omega)); (focus (simp))) | (with_reducible first | refine o_sc ?_ | refine o_al _ ?_ | (apply o_be; assumption)))
        · repeat (first | (with_reducible first | exact hMt | refine mr_dr _ ?_ | refine mr_d1 ?_ | refine mr_al _ ?_) | (with_reducible refine mr_set ?_ ?_; focus (intro g hg; dsimp only at *; omega)) | with_reducible refine mr_be (by with_reducible assumption) ?_)
    case rest =>
      obtain ⟨sx, nx, cx, sy, ny, cy, hcut⟩ := hcut
      go_upto_region 21 with fail
      refine wp_abs (fun W => Out1 (w.heap.size + 1) w4 W /\ W.cell? ⟨w.heap.size + 1, 0, none⟩ = some (.int .i64 8) /\ W.cell? ⟨w.heap.size + 1, 1, none⟩ = some (.slice sx nx cx) /\ W.cell? ⟨w.heap.size + 1, 2, none⟩ = some (.slice sy ny cy) /\ W.cell? ⟨w.heap.size + 1, 3, none⟩ = some (.slice none 0 0) /\ Own W (w.heap.size + 1) 4 /\ MemR W (fun g => w.heap.size + 5 ≤ g) sx nx cx sy ny cy D') hcut ?_
      clear hcut
      rintro w5 ⟨hO5, m5_0, m5_1, m5_2, m5_3, o5_1, hD5⟩
      have hB5 := hB4.trans (hO5.below (by omega) hB4.size)
      have u5_0 := hO5.reads (by dsimp only; omega) u4_0
      have u5_1 := hO5.reads (by dsimp only; omega) u4_1
      have u5_2 := hO5.reads (by dsimp only; omega) u4_2
      have u5_3 := hO5.reads (by dsimp only; omega) u4_3
      have u5_4 := hO5.reads (by dsimp only; omega) u4_4
      have o5_0 := u_own hO5 (by omega) o4_0
      have o5_2 := u_own hO5 (by omega) o4_2
      have o5_3 := u_own hO5 (by omega) o4_3
      have o5_4 := u_own hO5 (by omega) o4_4
      have mm5_0 := hO5.reads (by dsimp only; omega) mm4_0
      have mm5_1 := hO5.reads (by dsimp only; omega) mm4_1
      have mm5_2 := hO5.reads (by dsimp only; omega) mm4_2
      have mm5_3 := hO5.reads (by dsimp only; omega) mm4_3
      have mm5_4 := hO5.reads (by dsimp only; omega) mm4_4
      have mm5_5 := hO5.reads (by dsimp only; omega) mm4_5
      have mm5_6 := hO5.reads (by dsimp only; omega) mm4_6
      have mm5_7 := hO5.reads (by dsimp only; omega) mm4_7
      have mm5_8 := hO5.reads (by dsimp only; omega) mm4_8
      have mm5_9 := hO5.reads (by dsimp only; omega) mm4_9
      have mm5_10 := hO5.reads (by dsimp only; omega) mm4_10
      have mm5_11 := hO5.reads (by dsimp only; omega) mm4_11
      have mm5_12 := hO5.reads (by dsimp only; omega) mm4_12
      clear hO5
      clear fm0 fm1 fm2 fm3 hB4 u4_0 u4_1 u4_2 u4_3 u4_4 m4_0 m4_1 m4_2 m4_3 o4_0 o4_1 o4_2 o4_3 o4_4 hz4 lb4_0 lb4_1 lb4_2 lb4_3 lb4_4 x4_0 x4_1 x4_2 x4_3 x4_4 x4_5 x4_6 x4_7 x4_8 x4_9 x4_10 x4_11 x4_12 hsx4 lbx4 mm4_0 mm4_1 mm4_2 mm4_3 mm4_4 mm4_5 mm4_6 mm4_7 mm4_8 mm4_9 mm4_10 mm4_11 mm4_12 hsmm4 lbmm4
      have hz5 : w.heap.size + 4 < w5.heap.size := by
        obtain ⟨x, hx⟩ := Option.isSome_iff_exists.1 (o5_4 0 (by omega)).1
        exact World.block_lt_of_cell? w5 _ hx
      have lb5_0 : ltB (w.heap.size) w5.heap.size = true := decide_eq_true (by omega)
      have lb5_1 : ltB (w.heap.size + 1) w5.heap.size = true := decide_eq_true (by omega)
      have lb5_2 : ltB (w.heap.size + 2) w5.heap.size = true := decide_eq_true (by omega)
      have lb5_3 : ltB (w.heap.size + 3) w5.heap.size = true := decide_eq_true (by omega)
      have lb5_4 : ltB (w.heap.size + 4) w5.heap.size = true := decide_eq_true (by omega)
      have hsmm5 : mb < w5.heap.size := World.block_lt_of_cell? w5 _ mm5_0
      have lbmm5 : ltB mb w5.heap.size = true := decide_eq_true hsmm5
      have SE0 : ESrc w5 w.heap.size (.slice s2 n2 q2) n2 E := ez_src_bn hB5 (ent_src hE)
      have SE := hide (ez_src_more (B' := w5.heap.size) (by omega) SE0)
      clear SE0
      refine ap_any w5 w.heap.size mb (w.heap.size + 5) s1 s2 n1 q1 n2 q2 A F av G b0 b1 b2 b3 b4 b5 true DD b8 b9 XX b11 E (by omega) (by omega) (by omega) (by omega) u5_0 u5_1 u5_2 u5_3 u5_4 o5_0 mm5_0 mm5_1 mm5_2 mm5_3 mm5_4 mm5_5 mm5_6 mm5_7 mm5_8 mm5_9 mm5_10 mm5_11 mm5_12 SE hEE0 hE9 _ _ _ _ _ _ _ _ _ _ _ _ _ _ _ _ _ _ _ _ _ _ _ _ _ _ _ _ _ _ _ _ _ _ _ _ _ _ _ _ _ _ _ _ _ _ _ _ _ _ _ _ _ _ _ _ _ _ _ _ _ _ _ _ _ _ _ _ _ _ _ _ _ _ _ _ _ _ _ _ _ _ _ _ _ _ _ _ _ _ _ _ _ _ _ _ _ _ _ _ _ _ _ _ _ _ _ _ _ _ _ _ _ _ _ _ _ _ _ _ _ _ _ _ _ _ _ _ _ _ _ _ _ _ _ _ _ _ _ _ _ _ _ _ _ _ (hide (fun s9 q9 z22 z23 z24 z25 z26 z27 z28 z29 z30 z31 z32 z33 z34 z35 z36 z37 z38 z39 z40 z41 z42 z43 z44 z45 z46 z47 z48 z49 z50 z51 z52 z53 z54 z55 z56 z57 z58 z59 z60 z61 z62 z63 z64 z65 z66 z67 z68 z69 z70 z71 z72 z73 z74 z75 z76 z77 z78 z79 z80 z81 z82 z83 z84 z85 z86 z87 z88 z89 z90 z91 z92 z93 z94 z95 z96 z97 z98 z99 z100 z101 z102 z103 z104 z105 z106 z107 z108 z109 z110 z111 z112 z113 z114 z115 z116 z117 z118 z119 z120 z121 z122 z123 z124 z125 z126 z127 z128 z129 z130 z131 z132 z133 z134 z135 z136 z137 z138 z139 z140 z141 z142 z143 z144 z145 W hcut => ?_))
      go_upto_region 22 with fail
      refine wp_abs (fun W => Out1 w.heap.size w5 W /\ W.cell? ⟨w.heap.size, 0, none⟩ = some (.slice s1 n1 q1) /\ W.cell? ⟨w.heap.size, 1, none⟩ = some (.slice s9 (0 + n2 + 1) q9) /\ W.cell? ⟨w.heap.size, 2, none⟩ = some (.int .u64 0) /\ W.cell? ⟨w.heap.size, 3, none⟩ = some (.int .u64 A) /\ W.cell? ⟨w.heap.size, 4, none⟩ = some (.bool G) /\ Own W w.heap.size 5 /\ EntB W (w.heap.size + 5) (.slice s9 (0 + n2 + 1) q9) ([] ++ E ++ [(⟨b0, b1, b2, b3, b4, b5, true, DD, b8, b9, XX, b11, F, av⟩ : Fd)])) hcut ?_
      clear hcut
      rintro w6 ⟨hO6, u6_0, u6_1, u6_2, u6_3, u6_4, o6_0, hE6⟩
      have hB6 := hB5.trans (hO6.below (Nat.le_refl _) hB5.size)
      have m6_0 := hO6.reads (by dsimp only; omega) m5_0
      have m6_1 := hO6.reads (by dsimp only; omega) m5_1
      have m6_2 := hO6.reads (by dsimp only; omega) m5_2
      have m6_3 := hO6.reads (by dsimp only; omega) m5_3
      have o6_1 := u_own hO6 (by omega) o5_1
      have o6_2 := u_own hO6 (by omega) o5_2
      have o6_3 := u_own hO6 (by omega) o5_3
      have o6_4 := u_own hO6 (by omega) o5_4
      have mm6_0 := hO6.reads (by dsimp only; omega) mm5_0
      have mm6_1 := hO6.reads (by dsimp only; omega) mm5_1
      have mm6_2 := hO6.reads (by dsimp only; omega) mm5_2
      have mm6_3 := hO6.reads (by dsimp only; omega) mm5_3
      have mm6_4 := hO6.reads (by dsimp only; omega) mm5_4
      have mm6_5 := hO6.reads (by dsimp only; omega) mm5_5
      have mm6_6 := hO6.reads (by dsimp only; omega) mm5_6
      have mm6_7 := hO6.reads (by dsimp only; omega) mm5_7
      have mm6_8 := hO6.reads (by dsimp only; omega) mm5_8
      have mm6_9 := hO6.reads (by dsimp only; omega) mm5_9
      have mm6_10 := hO6.reads (by dsimp only; omega) mm5_10
      have mm6_11 := hO6.reads (by dsimp only; omega) mm5_11
      have mm6_12 := hO6.reads (by dsimp only; omega) mm5_12
      have hD6 := mr_blk (fun g h1 h2 => hO6.block g h2 (by have : w.heap.size + 5 ≤ g := h1; omega)) hD5
      clear hO6
      clear SE hB5 u5_0 u5_1 u5_2 u5_3 u5_4 m5_0 m5_1 m5_2 m5_3 o5_0 o5_1 o5_2 o5_3 o5_4 hz5 lb5_0 lb5_1 lb5_2 lb5_3 lb5_4 mm5_0 mm5_1 mm5_2 mm5_3 mm5_4 mm5_5 mm5_6 mm5_7 mm5_8 mm5_9 mm5_10 mm5_11 mm5_12 hsmm5 lbmm5 hD5
      have hz6 : w.heap.size + 4 < w6.heap.size := by
        obtain ⟨x, hx⟩ := Option.isSome_iff_exists.1 (o6_4 0 (by omega)).1
        exact World.block_lt_of_cell? w6 _ hx
      have lb6_0 : ltB (w.heap.size) w6.heap.size = true := decide_eq_true (by omega)
      have lb6_1 : ltB (w.heap.size + 1) w6.heap.size = true := decide_eq_true (by omega)
      have lb6_2 : ltB (w.heap.size + 2) w6.heap.size = true := decide_eq_true (by omega)
      have lb6_3 : ltB (w.heap.size + 3) w6.heap.size = true := decide_eq_true (by omega)
      have lb6_4 : ltB (w.heap.size + 4) w6.heap.size = true := decide_eq_true (by omega)
      have hhm6 : mb < w6.heap.size := World.block_lt_of_cell? w6 _ mm6_0
      have lbm6 : ltB mb w6.heap.size = true := decide_eq_true hhm6
      obtain ⟨n9, hn9⟩ : ∃ n9, 0 + n2 + 1 = n9 := ⟨_, rfl⟩
      rw [hn9] at u6_1 hE6
      rw [List.nil_append] at hE6
      have nk1 : RowKit.wrap64 ((n9 : Int) - 1) = (n2 : Int) := by unfold RowKit.wrap64; omega
      have nk2 : IntKind.i64.wrap ((n9 : Int) - 1) = (n2 : Int) := by rw [IntKind.wrap_i64]; omega
      have nk3 : IntKind.u64.wrap (n2 : Int) = (n2 : Int) := by rw [IntKind.wrap_u64]; omega
      have HN9 := hide hn9
      clear hn9
      have fu0 := (o6_0 0 (by omega)).2
      go_upto_region 23 with (first | (go_at_call 40; (with_reducible refine (CcU.out _ ?_ ?_).mono ?_); (focus (repeat (with_reducible first | assumption | exact Below.refl _ _ | refine Below.drew ?_ | refine below_drewN ?_ _ | refine bw_alloc ?_ _ | (refine bw_set ?_ ?_ _; focus (dsimp only; omega)) | (apply bw_behind; assumption) | (refine bw_sc _ ?_ ?_; focus omega)))); (focus (refine bsz (a := w6) (by omega) ?_; repeat (with_reducible first | assumption | exact Below.refl _ _ | refine Below.drew ?_ | refine below_drewN ?_ _ | refine bw_alloc ?_ _ | (refine bw_set ?_ ?_ _; focus (dsimp only; omega)) | (apply bw_behind; assumption) | (refine bw_sc _ ?_ ?_; focus omega)))); rintro e wp ⟨sp, np, qp, rfl, hRp, hbp⟩; obtain ⟨hrp, hhp, mp, hsp⟩ := bl_all hbp))
      refine wp_abs (fun W => Below w.heap.size w W /\ W.cell? ⟨w.heap.size, 0, none⟩ = some (.slice sp np qp) /\ W.cell? ⟨w.heap.size, 1, none⟩ = some (.slice s9 n9 q9) /\ W.cell? ⟨w.heap.size, 2, none⟩ = some (.int .u64 0) /\ W.cell? ⟨w.heap.size, 3, none⟩ = some (.int .u64 A) /\ W.cell? ⟨w.heap.size, 4, none⟩ = some (.bool G) /\ W.cell? ⟨w.heap.size + 1, 0, none⟩ = some (.int .i64 8) /\ W.cell? ⟨w.heap.size + 1, 1, none⟩ = some (.slice sx nx cx) /\ W.cell? ⟨w.heap.size + 1, 2, none⟩ = some (.slice sy ny cy) /\ W.cell? ⟨w.heap.size + 1, 3, none⟩ = some (.slice none 0 0) /\ Own W (w.heap.size) 5 /\ Own W (w.heap.size + 1) 4 /\ Own W (w.heap.size + 2) 5 /\ Own W (w.heap.size + 3) 4 /\ Own W (w.heap.size + 4) 2 /\ W.cell? ⟨mb, 0, none⟩ = some (.bool b0) /\ W.cell? ⟨mb, 1, none⟩ = some (.bool b1) /\ W.cell? ⟨mb, 2, none⟩ = some (.bool b2) /\ W.cell? ⟨mb, 3, none⟩ = some (.bool b3) /\ W.cell? ⟨mb, 4, none⟩ = some (.bool b4) /\ W.cell? ⟨mb, 5, none⟩ = some (.bool b5) /\ W.cell? ⟨mb, 6, none⟩ = some (.bool true) /\ W.cell? ⟨mb, 7, none⟩ = some (.bool DD) /\ W.cell? ⟨mb, 8, none⟩ = some (.bool b8) /\ W.cell? ⟨mb, 9, none⟩ = some (.bool b9) /\ W.cell? ⟨mb, 10, none⟩ = some (.bool XX) /\ W.cell? ⟨mb, 11, none⟩ = some (.bool b11) /\ W.cell? ⟨mb, 12, none⟩ = some (.int .u64 F) /\ RefB W (w.heap.size + 5) (.slice sp np qp) L' /\ EntB W (w.heap.size + 5) (.slice s9 n9 q9) (E ++ [(⟨b0, b1, b2, b3, b4, b5, true, DD, b8, b9, XX, b11, F, av⟩ : Fd)]) /\ MemR W (fun g => w.heap.size + 5 ≤ g) sx nx cx sy ny cy D') ?_ ?_
      · refine ⟨?_, ?_, ?_, ?_, ?_, ?_, ?_, ?_, ?_, ?_, ?_, ?_, ?_, ?_, ?_, ?_, ?_, ?_, ?_, ?_, ?_, ?_, ?_, ?_, ?_, ?_, ?_, ?_, ?_, ?_, ?_⟩
        iterate 28 (first | (focus ((first | ((repeat (with_reducible first | assumption | exact Below.refl _ _ | refine Below.drew ?_ | refine below_drewN ?_ _ | refine bw_alloc ?_ _ | (refine bw_set ?_ ?_ _; focus (dsimp only; omega)) | (apply bw_behind; assumption) | (refine bw_sc _ ?_ ?_; focus omega))); done) | ((repeat (with_reducible first | assumption | refine c_dr _ ?_ | refine c_d1 ?_ | refine c_al _ ?_ | (refine c_set ?_ ?_; focus (dsimp only; omega)) | (apply c_be; assumption) | (refine c_sc ?_ ?_; focus (dsimp only; omega)))); done) | ((repeat (first | (with_reducible first | assumption | refine o_dr _ ?_ | refine o_d1 ?_ | refine o_set ?_) | (with_reducible refine o_new ?_ ?_; (focus (simp)); (focus (simp))) | (with_reducible refine o_new ?_ ?_; (focus (simp [*]; done)); (focus (simp))) | (with_reducible refine o_new ?_ ?_; (focus (simp [*]; omega)); (focus (simp))) | (with_reducible first | refine o_sc ?_ | refine o_al _ ?_ | (apply o_be; assumption)))); done) | (simp [go_sem, *]; done) | (simp [go_sem, *]; omega)))))
        · repeat (first | (with_reducible first | exact hRp | refine rb_dr _ ?_ | refine rb_d1 ?_ | refine rb_al _ ?_ | (refine rb_set ?_ ?_; focus (dsimp only; omega))) | with_reducible refine rb_be (by with_reducible assumption) ?_)
        · repeat (first | (with_reducible first | exact hE6 | refine ez_rb_dr _ ?_ | refine ez_rb_d1 ?_ | refine ez_rb_al _ ?_ | (refine ez_rb_set ?_ ?_; focus (dsimp only; omega))) | with_reducible refine ez_rb_be (by with_reducible assumption) ?_)
        · repeat (first | (with_reducible first | exact hD6 | refine mr_dr _ ?_ | refine mr_d1 ?_ | refine mr_al _ ?_) | (with_reducible refine mr_set ?_ ?_; focus (intro g hg; dsimp only at *; omega)) | with_reducible refine mr_be (by with_reducible assumption) ?_)
      rintro w7 ⟨hB7, u7_0, u7_1, u7_2, u7_3, u7_4, m7_0, m7_1, m7_2, m7_3, o7_0, o7_1, o7_2, o7_3, o7_4, mm7_0, mm7_1, mm7_2, mm7_3, mm7_4, mm7_5, mm7_6, mm7_7, mm7_8, mm7_9, mm7_10, mm7_11, mm7_12, hR7, hE7, hD7⟩
      have hz7 : w.heap.size + 4 < w7.heap.size := by
        obtain ⟨x, hx⟩ := Option.isSome_iff_exists.1 (o7_4 0 (by omega)).1
        exact World.block_lt_of_cell? w7 _ hx
      have lb7_0 : ltB (w.heap.size) w7.heap.size = true := decide_eq_true (by omega)
      have lb7_1 : ltB (w.heap.size + 1) w7.heap.size = true := decide_eq_true (by omega)
      have lb7_2 : ltB (w.heap.size + 2) w7.heap.size = true := decide_eq_true (by omega)
      have lb7_3 : ltB (w.heap.size + 3) w7.heap.size = true := decide_eq_true (by omega)
      have lb7_4 : ltB (w.heap.size + 4) w7.heap.size = true := decide_eq_true (by omega)
      have hsmm7 : mb < w7.heap.size := World.block_lt_of_cell? w7 _ mm7_0
      have hhmm7 : w.heap.size + 4 < mb := by omega
      clear hRp hE6 fu0 nk1 nk2 nk3 hD6 hB6 u6_0 u6_1 u6_2 u6_3 u6_4 m6_0 m6_1 m6_2 m6_3 o6_0 o6_1 o6_2 o6_3 o6_4 mm6_0 mm6_1 mm6_2 mm6_3 mm6_4 mm6_5 mm6_6 mm6_7 mm6_8 mm6_9 mm6_10 mm6_11 mm6_12 hz6 hhm6 lbm6 lb6_0 lb6_1 lb6_2 lb6_3 lb6_4 hbp hrp hhp hsp
      have lbmm7 : ltB mb w7.heap.size = true := decide_eq_true hsmm7
      have fr2_0 := (o7_2 0 (by omega)).2
      obtain ⟨x2_0, v2_0⟩ := Option.isSome_iff_exists.1 (o7_2 0 (by omega)).1
      have fr2_1 := (o7_2 1 (by omega)).2
      obtain ⟨x2_1, v2_1⟩ := Option.isSome_iff_exists.1 (o7_2 1 (by omega)).1
      have fr2_2 := (o7_2 2 (by omega)).2
      obtain ⟨x2_2, v2_2⟩ := Option.isSome_iff_exists.1 (o7_2 2 (by omega)).1
      have fr2_3 := (o7_2 3 (by omega)).2
      obtain ⟨x2_3, v2_3⟩ := Option.isSome_iff_exists.1 (o7_2 3 (by omega)).1
      have fr2_4 := (o7_2 4 (by omega)).2
      obtain ⟨x2_4, v2_4⟩ := Option.isSome_iff_exists.1 (o7_2 4 (by omega)).1
      have fr3_0 := (o7_3 0 (by omega)).2
      obtain ⟨x3_0, v3_0⟩ := Option.isSome_iff_exists.1 (o7_3 0 (by omega)).1
      have fr3_1 := (o7_3 1 (by omega)).2
      obtain ⟨x3_1, v3_1⟩ := Option.isSome_iff_exists.1 (o7_3 1 (by omega)).1
      have fr3_2 := (o7_3 2 (by omega)).2
      obtain ⟨x3_2, v3_2⟩ := Option.isSome_iff_exists.1 (o7_3 2 (by omega)).1
      have fr3_3 := (o7_3 3 (by omega)).2
      obtain ⟨x3_3, v3_3⟩ := Option.isSome_iff_exists.1 (o7_3 3 (by omega)).1
      have fr4_0 := (o7_4 0 (by omega)).2
      obtain ⟨x4_0, v4_0⟩ := Option.isSome_iff_exists.1 (o7_4 0 (by omega)).1
      have fr4_1 := (o7_4 1 (by omega)).2
      obtain ⟨x4_1, v4_1⟩ := Option.isSome_iff_exists.1 (o7_4 1 (by omega)).1
      go_region_with (first | (go_at_call 38; (with_reducible refine (CcP.out _).mono ?_); rintro e wz ⟨rfl, hbz⟩; obtain ⟨hrz, hhz, mz, hsz⟩ := bl_all hbz))
      all_goals
        go_wp2
        refine bodyPost_ret (v := .tuple #[.agg #[.slice sp np qp, .slice s9 n9 q9, .int .u64 0, .int .u64 A, .bool G], .agg #[.int .i64 8, .slice sx nx cx, .slice sy ny cy, .slice none 0 0], .agg #[.int .u64 Z, .bool S], .int .i64 0]) (by simp (maxDischargeDepth := 4) [results, Tryd.results8, go_sem, *]) rfl ?_
        refine ⟨sp, np, qp, s9, n9, q9, sx, nx, cx, sy, ny, cy, rfl, ?_, ?_, ?_, ?_⟩
        · refine rb_less (c := w.heap.size + 5) (by omega) ?_; repeat (first | (with_reducible first | exact hR7 | refine rb_dr _ ?_ | refine rb_d1 ?_ | refine rb_al _ ?_ | (refine rb_set ?_ ?_; focus (dsimp only; omega))) | with_reducible refine rb_be (by with_reducible assumption) ?_)
        · refine ez_rb_less (c := w.heap.size + 5) (by omega) ?_; repeat (first | (with_reducible first | exact hE7 | refine ez_rb_dr _ ?_ | refine ez_rb_d1 ?_ | refine ez_rb_al _ ?_ | (refine ez_rb_set ?_ ?_; focus (dsimp only; omega))) | with_reducible refine ez_rb_be (by with_reducible assumption) ?_)
        · refine mr_sub (C := fun g => w.heap.size + 5 ≤ g) (fun g hg => _hB g (Nat.le_trans (Nat.le_add_right _ _) hg)) ?_; repeat (first | (with_reducible first | exact hD7 | refine mr_dr _ ?_ | refine mr_d1 ?_ | refine mr_al _ ?_) | (with_reducible refine mr_set ?_ ?_; focus (intro g hg; dsimp only at *; omega)) | with_reducible refine mr_be (by with_reducible assumption) ?_)
        · repeat (with_reducible first | assumption | exact Below.refl _ _ | refine Below.drew ?_ | refine below_drewN ?_ _ | refine bw_alloc ?_ _ | (refine bw_set ?_ ?_ _; focus (dsimp only; omega)) | (apply bw_behind; assumption) | (refine bw_sc _ ?_ ?_; focus omega))
end Go.Proofs.YtkajndonefkegaaDoor
