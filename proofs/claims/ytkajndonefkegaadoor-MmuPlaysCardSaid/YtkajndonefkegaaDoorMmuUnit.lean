/-
  The unit as it lies in a block; what access answers.
-/
import Derived.Test.YtkajndonefkegaaDoorGMtb
import Derived.Test.YtkajndonefkegaaDoorWalkMem
import Derived.Test.YtkajndonefkegaaDoorGWm
import Derived.Test.YtkajndonefkegaaDoorGPte
import Derived.Test.YtkajndonefkegaaDoorGTag
import Derived.Deep.DeepCutAuto
import Derived.BigQuiet
set_option maxRecDepth 100000
set_option maxHeartbeats 64000000
namespace Go.Proofs.YtkajndonefkegaaDoor
open Go.RowKit Words FieldMath PteMath

structure UnitAt (N : Nat) (M : Nat -> List Ln) (P A : Int) (G : Bool) (W : World) : Prop where
  tlb : TlbM W N M
  root : W.cell? ⟨N, 132, none⟩ = some (.int .u64 P)
  asid : W.cell? ⟨N, 133, none⟩ = some (.int .u64 A)
  gen : W.cell? ⟨N, 134, none⟩ = some (.bool G)
  free : ∀ j, j < 135 -> W.frozen? ⟨N, j, none⟩ = false
variable {N : Nat} {M : Nat -> List Ln} {P A : Int} {G : Bool} {W W' : World}
theorem UnitAt.here (h : UnitAt N M P A G W) : N < W.heap.size := h.tlb.here
theorem un_bn {n : Nat} (hb : Below n W W') (hlt : N < n) (h : UnitAt N M P A G W) : UnitAt N M P A G W' :=
  ⟨tm_bn hb hlt h.tlb, (hb.cell (p := ⟨N, 132, none⟩) hlt).trans h.root, (hb.cell (p := ⟨N, 133, none⟩) hlt).trans h.asid, (hb.cell (p := ⟨N, 134, none⟩) hlt).trans h.gen, fun j hj => (hb.frozen (p := ⟨N, j, none⟩) hlt).trans (h.free j hj)⟩
theorem un_be (hb : Below W.heap.size W W') (h : UnitAt N M P A G W) : UnitAt N M P A G W' := un_bn hb h.here h
theorem UnitAt.behind (h : UnitAt N M P A G W) (hb : Below W.heap.size W W') : UnitAt N M P A G W' := un_be hb h
theorem un_al (ob : Obj) (h : UnitAt N M P A G W) : UnitAt N M P A G (W.alloc ob) := un_be (below_alloc (Below.refl _ _) (Nat.le_refl _) ob) h
theorem un_dr (n : Nat) (h : UnitAt N M P A G W) : UnitAt N M P A G (W.drewN n) := ⟨tm_dr n h.tlb, h.root, h.asid, h.gen, h.free⟩
theorem un_d1 (h : UnitAt N M P A G W) : UnitAt N M P A G W.drew := ⟨tm_d1 h.tlb, h.root, h.asid, h.gen, h.free⟩
theorem un_set {p : Addr} {u : Value} (hne : p.block ≠ N) (h : UnitAt N M P A G W) : UnitAt N M P A G (W.setCell p u) :=
  ⟨tm_set hne h.tlb, c_set hne h.root, c_set hne h.asid, c_set hne h.gen, fun j hj => by rw [World.frozen?_setCell]; exact h.free j hj⟩
theorem un_sc {b : Nat} : ∀ (l : List Value) (o : Nat) {W : World}, b ≠ N -> UnitAt N M P A G W -> UnitAt N M P A G (W.setCells b o l)
  | [], _, _, _, h => h
  | v :: l, o, W, hne, h => by
    rw [World.setCells]
    exact un_sc l _ hne (un_set hne h)
theorem un_tlb {M' : Nat -> List Ln} (ho : Out1 N W W') (ht : TlbM W' N M') (h : UnitAt N M P A G W) : UnitAt N M' P A G W' :=
  ⟨ht, (ho.cell 132 (by omega) h.here).trans h.root, (ho.cell 133 (by omega) h.here).trans h.asid, (ho.cell 134 (by omega) h.here).trans h.gen, fun j hj => (ho.free j h.here).trans (h.free j hj)⟩
theorem un_out {K o : Nat} (ho : Out K o W W') (hne : N ≠ K) (h : UnitAt N M P A G W) : UnitAt N M P A G W' := by
  have hb := ho.block N h.here hne
  have hc : ∀ j, W'.cell? ⟨N, j, none⟩ = W.cell? ⟨N, j, none⟩ := fun j => World.cell?_of_block hb
  have hf : ∀ j, W'.frozen? ⟨N, j, none⟩ = W.frozen? ⟨N, j, none⟩ := fun j => World.frozen?_of_block hb
  obtain ⟨⟨R, h1, h2⟩, h3, h4, h5, h6⟩ := h
  exact ⟨⟨R, ⟨fun k hk j v hv => (hc _).trans (h1.line k hk j v hv), fun q hq => (hc _).trans (h1.fill q hq), fun j hj => ⟨by rw [hc]; exact (h1.there j hj).1, by rw [hf]; exact (h1.there j hj).2⟩⟩, h2⟩, (hc _).trans h3, (hc _).trans h4, (hc _).trans h5, fun j hj => (hf j).trans (h6 j hj)⟩
theorem un_asid (a : Int) (h : UnitAt N M P A G W) : UnitAt N M P a G (W.setCell ⟨N, 133, none⟩ (.int .u64 a)) := by
  have ne : ∀ {a b : Nat}, a ≠ b -> (⟨N, a, none⟩ : Addr) ≠ ⟨N, b, none⟩ := fun h x => h (congrArg Addr.off x)
  exact ⟨tm_hi (by omega) h.tlb, (World.cell?_setCell_other _ _ _ _ (ne (by omega))).trans h.root, World.cell?_setCell_same _ _ _ h.asid, (World.cell?_setCell_other _ _ _ _ (ne (by omega))).trans h.gen, fun j hj => by rw [World.frozen?_setCell]; exact h.free j hj⟩
theorem un_gen (g : Bool) (h : UnitAt N M P A G W) : UnitAt N M P A g (W.setCell ⟨N, 134, none⟩ (.bool g)) := by
  have ne : ∀ {a b : Nat}, a ≠ b -> (⟨N, a, none⟩ : Addr) ≠ ⟨N, b, none⟩ := fun h x => h (congrArg Addr.off x)
  exact ⟨tm_hi (by omega) h.tlb, (World.cell?_setCell_other _ _ _ _ (ne (by omega))).trans h.root, (World.cell?_setCell_other _ _ _ _ (ne (by omega))).trans h.asid, World.cell?_setCell_same _ _ _ h.gen, fun j hj => by rw [World.frozen?_setCell]; exact h.free j hj⟩
def accV (F v k : Int) (b9 : Bool) (Q : Int) : Value := if Q = 0 then .tuple #[.agg #[.int .u64 (IntKind.u64.wrap (IntKind.u64.wrap (F * 4096) + v % 4096)), .bool ((k == 3) && !b9)], .int .i64 0] else .tuple #[.agg #[.int .u64 0, .bool false], .int .i64 Q]

theorem access_bad (b0 b1 b2 b3 b4 b5 b6 b7 b8 b9 b10 b11 t G : Bool) (F V k Q : Int) (c1 : ∀ W, Calls Tryd.prog 63 #[.agg #[.bool b0, .bool b1, .bool b2, .bool b3, .bool b4, .bool b5, .bool b6, .bool b7, .bool b8, .bool b9, .bool b10, .bool b11, .int .u64 F], .int .i64 k, .bool t, .bool G] W (Makes (.int .i64 Q) W)) (_h : (Q != 0) = true) (N : Nat) (w : World) (hG : w.cell? ⟨N, 134, none⟩ = some (.bool G)) : Calls Tryd.prog 33 #[.pointer (some ⟨N, 0, none⟩), .agg #[.bool b0, .bool b1, .bool b2, .bool b3, .bool b4, .bool b5, .bool b6, .bool b7, .bool b8, .bool b9, .bool b10, .bool b11, .int .u64 F], .int .u64 V, .int .i64 k, .bool t] w (Makes (.tuple #[.agg #[.int .u64 0, .bool false], .int .i64 Q]) w) := by
  have Cc1 := hide c1
  clear c1
  obtain ⟨SS, LB', LS, LA', LH⟩ := rules5
  go_enter Tryd.func33, Tryd.ntmps33
  go_upto_region 1 with fail
  refine wp_abs (fun W => Below w.heap.size w W /\ W.cell? ⟨w.heap.size, 0, none⟩ = some (.bool b0) /\ W.cell? ⟨w.heap.size, 1, none⟩ = some (.bool b1) /\ W.cell? ⟨w.heap.size, 2, none⟩ = some (.bool b2) /\ W.cell? ⟨w.heap.size, 3, none⟩ = some (.bool b3) /\ W.cell? ⟨w.heap.size, 4, none⟩ = some (.bool b4) /\ W.cell? ⟨w.heap.size, 5, none⟩ = some (.bool b5) /\ W.cell? ⟨w.heap.size, 6, none⟩ = some (.bool b6) /\ W.cell? ⟨w.heap.size, 7, none⟩ = some (.bool b7) /\ W.cell? ⟨w.heap.size, 8, none⟩ = some (.bool b8) /\ W.cell? ⟨w.heap.size, 9, none⟩ = some (.bool b9) /\ W.cell? ⟨w.heap.size, 10, none⟩ = some (.bool b10) /\ W.cell? ⟨w.heap.size, 11, none⟩ = some (.bool b11) /\ W.cell? ⟨w.heap.size, 12, none⟩ = some (.int .u64 F) /\ W.cell? ⟨N, 134, none⟩ = some (.bool G) /\ W.cell? ⟨w.heap.size + 1, 0, none⟩ = some (.int .u64 0) /\ W.cell? ⟨w.heap.size + 1, 1, none⟩ = some (.bool false) /\ Own W (w.heap.size + 1) 2) ?_ ?_
  · refine ⟨?_, ?_, ?_, ?_, ?_, ?_, ?_, ?_, ?_, ?_, ?_, ?_, ?_, ?_, ?_, ?_, ?_, ?_⟩
    all_goals (first | with_reducible assumption | ((repeat (with_reducible first | assumption | refine c_dr _ ?_ | refine c_d1 ?_ | refine c_al _ ?_ | (refine c_set ?_ ?_; focus (dsimp only; omega)) | (apply c_be; assumption))); done) | ((repeat (first | (with_reducible first | assumption | refine o_dr _ ?_ | refine o_d1 ?_ | refine o_set ?_) | (with_reducible refine o_new ?_ ?_; (focus (simp)); (focus (simp))) | (with_reducible first | refine o_al _ ?_ | (apply o_be; assumption)))); done) | ((repeat (with_reducible first | assumption | exact Below.refl _ _ | refine Below.drew ?_ | refine below_drewN ?_ _ | refine bw_alloc ?_ _ | (refine bw_set ?_ ?_ _; focus (dsimp only; omega)) | (apply bw_behind; assumption))); done) | (simp [go_sem, *]; omega) | (simp (maxDischargeDepth := 4) [go_sem, *]; done))
  rintro w0 ⟨hB0, c0, c1, c2, c3, c4, c5, c6, c7, c8, c9, c10, c11, c12, c13, c14, c15, o0⟩
  have y0 := behind_cell0 c0
  have y1 := behind_cell0 c1
  have y2 := behind_cell0 c2
  have y3 := behind_cell0 c3
  have y4 := behind_cell0 c4
  have y5 := behind_cell0 c5
  have y6 := behind_cell0 c6
  have y7 := behind_cell0 c7
  have y8 := behind_cell0 c8
  have y9 := behind_cell0 c9
  have y10 := behind_cell0 c10
  have y11 := behind_cell0 c11
  have y12 := behind_cell0 c12
  have y13 := behind_cell0 c13
  have y14 := behind_cell0 c14
  have y15 := behind_cell0 c15
  have hsome := Behind.any w0
  clear c0 c1 c2 c3 c4 c5 c6 c7 c8 c9 c10 c11 c12 c13 c14 c15
  refine wp_region_behind w0 (by kernel_rfl) (by kernel_rfl) (Below.refl _ _) ?_
  repeat (go_big_quiet_step (first | (go_at_call 63; with_reducible first | exact behind_one Cc1.out _)))
  refine wpQuiet_nil ?_
  rintro _ ⟨y, rfl⟩
  have hBy := bw_behind y.below hB0
  have po0 := o_be y.below o0
  clear o0
  have x0 := y0 y
  have x1 := y1 y
  have x2 := y2 y
  have x3 := y3 y
  have x4 := y4 y
  have x5 := y5 y
  have x6 := y6 y
  have x7 := y7 y
  have x8 := y8 y
  have x9 := y9 y
  have x10 := y10 y
  have x11 := y11 y
  have x12 := y12 y
  have x13 := y13 y
  have x14 := y14 y
  have x15 := y15 y
  clear hsome y0 y1 y2 y3 y4 y5 y6 y7 y8 y9 y10 y11 y12 y13 y14 y15
  obtain ⟨w1, hw1⟩ : ∃ W, W = y.world := ⟨_, rfl⟩
  rw [← hw1] at hBy x0 x1 x2 x3 x4 x5 x6 x7 x8 x9 x10 x11 x12 x13 x14 x15 po0 ⊢
  clear hw1 y hB0
  have hlt : w.heap.size + 1 < w1.heap.size := World.block_lt_of_cell? w1 _ x14
  obtain ⟨z, hz⟩ : ∃ z, w1.heap.size = w.heap.size + 1 + 1 + z := ⟨w1.heap.size - (w.heap.size + 2), by omega⟩
  clear hlt
  have f0 := (po0 0 (by omega)).2
  have f1 := (po0 1 (by omega)).2
  go_wp2_with fail
  refine bodyPost_ret (v := .tuple #[.agg #[.int .u64 0, .bool false], .int .i64 Q]) (by simp (maxDischargeDepth := 4) [results, Tryd.results33, go_sem, *]) rfl ?_
  refine ⟨rfl, ?_⟩
  repeat (with_reducible first | assumption | exact Below.refl _ _ | refine Below.drew ?_ | refine below_drewN ?_ _ | refine bw_alloc ?_ _ | (refine bw_set ?_ ?_ _; focus (dsimp only; omega)) | (apply bw_behind; assumption))

theorem access_ok (b0 b1 b2 b3 b4 b5 b6 b7 b8 b9 b10 b11 t S G : Bool) (F V k X Y Z : Int) (c1 : ∀ W, Calls Tryd.prog 63 #[.agg #[.bool b0, .bool b1, .bool b2, .bool b3, .bool b4, .bool b5, .bool b6, .bool b7, .bool b8, .bool b9, .bool b10, .bool b11, .int .u64 F], .int .i64 k, .bool t, .bool G] W (Makes (.int .i64 0) W)) (c2 : ∀ W, Calls Tryd.prog 64 #[.int .u64 F] W (Quiet (.int .u64 X) W)) (c3 : ∀ W, Calls Tryd.prog 65 #[.int .u64 V] W (Quiet (.int .u64 Y) W)) (c4 : ∀ W, Calls Tryd.prog 66 #[.agg #[.bool b0, .bool b1, .bool b2, .bool b3, .bool b4, .bool b5, .bool b6, .bool b7, .bool b8, .bool b9, .bool b10, .bool b11, .int .u64 F], .int .i64 k] W (Makes (.bool S) W)) (_h : IntKind.u64.wrap (X + Y) = Z) (N : Nat) (w : World) (hG : w.cell? ⟨N, 134, none⟩ = some (.bool G)) : Calls Tryd.prog 33 #[.pointer (some ⟨N, 0, none⟩), .agg #[.bool b0, .bool b1, .bool b2, .bool b3, .bool b4, .bool b5, .bool b6, .bool b7, .bool b8, .bool b9, .bool b10, .bool b11, .int .u64 F], .int .u64 V, .int .i64 k, .bool t] w (Makes (.tuple #[.agg #[.int .u64 Z, .bool S], .int .i64 0]) w) := by
  have Cc1 := hide c1
  have Cc2 := hide c2
  have Cc3 := hide c3
  have Cc4 := hide c4
  clear c1 c2 c3 c4
  obtain ⟨SS, LB', LS, LA', LH⟩ := rules5
  go_enter Tryd.func33, Tryd.ntmps33
  go_upto_region 1 with fail
  refine wp_abs (fun W => Below w.heap.size w W /\ W.cell? ⟨w.heap.size, 0, none⟩ = some (.bool b0) /\ W.cell? ⟨w.heap.size, 1, none⟩ = some (.bool b1) /\ W.cell? ⟨w.heap.size, 2, none⟩ = some (.bool b2) /\ W.cell? ⟨w.heap.size, 3, none⟩ = some (.bool b3) /\ W.cell? ⟨w.heap.size, 4, none⟩ = some (.bool b4) /\ W.cell? ⟨w.heap.size, 5, none⟩ = some (.bool b5) /\ W.cell? ⟨w.heap.size, 6, none⟩ = some (.bool b6) /\ W.cell? ⟨w.heap.size, 7, none⟩ = some (.bool b7) /\ W.cell? ⟨w.heap.size, 8, none⟩ = some (.bool b8) /\ W.cell? ⟨w.heap.size, 9, none⟩ = some (.bool b9) /\ W.cell? ⟨w.heap.size, 10, none⟩ = some (.bool b10) /\ W.cell? ⟨w.heap.size, 11, none⟩ = some (.bool b11) /\ W.cell? ⟨w.heap.size, 12, none⟩ = some (.int .u64 F) /\ W.cell? ⟨N, 134, none⟩ = some (.bool G) /\ W.cell? ⟨w.heap.size + 1, 0, none⟩ = some (.int .u64 0) /\ W.cell? ⟨w.heap.size + 1, 1, none⟩ = some (.bool false) /\ Own W (w.heap.size + 1) 2) ?_ ?_
  · refine ⟨?_, ?_, ?_, ?_, ?_, ?_, ?_, ?_, ?_, ?_, ?_, ?_, ?_, ?_, ?_, ?_, ?_, ?_⟩
    all_goals (first | with_reducible assumption | ((repeat (with_reducible first | assumption | refine c_dr _ ?_ | refine c_d1 ?_ | refine c_al _ ?_ | (refine c_set ?_ ?_; focus (dsimp only; omega)) | (apply c_be; assumption))); done) | ((repeat (first | (with_reducible first | assumption | refine o_dr _ ?_ | refine o_d1 ?_ | refine o_set ?_) | (with_reducible refine o_new ?_ ?_; (focus (simp)); (focus (simp))) | (with_reducible first | refine o_al _ ?_ | (apply o_be; assumption)))); done) | ((repeat (with_reducible first | assumption | exact Below.refl _ _ | refine Below.drew ?_ | refine below_drewN ?_ _ | refine bw_alloc ?_ _ | (refine bw_set ?_ ?_ _; focus (dsimp only; omega)) | (apply bw_behind; assumption))); done) | (simp [go_sem, *]; omega) | (simp (maxDischargeDepth := 4) [go_sem, *]; done))
  rintro w0 ⟨hB0, c0, c1, c2, c3, c4, c5, c6, c7, c8, c9, c10, c11, c12, c13, c14, c15, o0⟩
  have y0 := behind_cell0 c0
  have y1 := behind_cell0 c1
  have y2 := behind_cell0 c2
  have y3 := behind_cell0 c3
  have y4 := behind_cell0 c4
  have y5 := behind_cell0 c5
  have y6 := behind_cell0 c6
  have y7 := behind_cell0 c7
  have y8 := behind_cell0 c8
  have y9 := behind_cell0 c9
  have y10 := behind_cell0 c10
  have y11 := behind_cell0 c11
  have y12 := behind_cell0 c12
  have y13 := behind_cell0 c13
  have y14 := behind_cell0 c14
  have y15 := behind_cell0 c15
  have hsome := Behind.any w0
  clear c0 c1 c2 c3 c4 c5 c6 c7 c8 c9 c10 c11 c12 c13 c14 c15
  refine wp_region_behind w0 (by kernel_rfl) (by kernel_rfl) (Below.refl _ _) ?_
  repeat (go_big_quiet_step (first | (go_at_call 63; with_reducible first | exact behind_one Cc1.out _)))
  refine wpQuiet_nil ?_
  rintro _ ⟨y, rfl⟩
  have hBy := bw_behind y.below hB0
  have po0 := o_be y.below o0
  clear o0
  have x0 := y0 y
  have x1 := y1 y
  have x2 := y2 y
  have x3 := y3 y
  have x4 := y4 y
  have x5 := y5 y
  have x6 := y6 y
  have x7 := y7 y
  have x8 := y8 y
  have x9 := y9 y
  have x10 := y10 y
  have x11 := y11 y
  have x12 := y12 y
  have x13 := y13 y
  have x14 := y14 y
  have x15 := y15 y
  clear hsome y0 y1 y2 y3 y4 y5 y6 y7 y8 y9 y10 y11 y12 y13 y14 y15
  obtain ⟨w1, hw1⟩ : ∃ W, W = y.world := ⟨_, rfl⟩
  rw [← hw1] at hBy x0 x1 x2 x3 x4 x5 x6 x7 x8 x9 x10 x11 x12 x13 x14 x15 po0 ⊢
  clear hw1 y hB0
  have hlt : w.heap.size + 1 < w1.heap.size := World.block_lt_of_cell? w1 _ x14
  obtain ⟨z, hz⟩ : ∃ z, w1.heap.size = w.heap.size + 1 + 1 + z := ⟨w1.heap.size - (w.heap.size + 2), by omega⟩
  clear hlt
  have f0 := (po0 0 (by omega)).2
  have f1 := (po0 1 (by omega)).2
  go_upto_region 4 with fail
  go_cut [11] (fun s11 wx => s11 = .int .i64 0 /\ wx.cell? ⟨w.heap.size + 1, 0, none⟩ = some (.int .u64 Z) /\ wx.cell? ⟨w.heap.size + 1, 1, none⟩ = some (.bool S) /\ Below w.heap.size w wx)
  case first =>
    go_region_held3 (fun W' => W'.cell? ⟨w.heap.size, 0, none⟩ = some (.bool b0) /\ W'.cell? ⟨w.heap.size, 1, none⟩ = some (.bool b1) /\ W'.cell? ⟨w.heap.size, 2, none⟩ = some (.bool b2) /\ W'.cell? ⟨w.heap.size, 3, none⟩ = some (.bool b3) /\ W'.cell? ⟨w.heap.size, 4, none⟩ = some (.bool b4) /\ W'.cell? ⟨w.heap.size, 5, none⟩ = some (.bool b5) /\ W'.cell? ⟨w.heap.size, 6, none⟩ = some (.bool b6) /\ W'.cell? ⟨w.heap.size, 7, none⟩ = some (.bool b7) /\ W'.cell? ⟨w.heap.size, 8, none⟩ = some (.bool b8) /\ W'.cell? ⟨w.heap.size, 9, none⟩ = some (.bool b9) /\ W'.cell? ⟨w.heap.size, 10, none⟩ = some (.bool b10) /\ W'.cell? ⟨w.heap.size, 11, none⟩ = some (.bool b11) /\ W'.cell? ⟨w.heap.size, 12, none⟩ = some (.int .u64 F) /\ Own W' (w.heap.size + 1) 2 /\ Below w.heap.size w W') (first | with_reducible assumption | (refine ⟨?_, ?_, ?_, ?_, ?_, ?_, ?_, ?_, ?_, ?_, ?_, ?_, ?_, ?_, ?_⟩ <;> first | ((repeat (with_reducible first | assumption | refine c_dr _ ?_ | refine c_d1 ?_ | refine c_al _ ?_ | (refine c_set ?_ ?_; focus (dsimp only; omega)) | (apply c_be; assumption))); done) | ((repeat (with_reducible first | assumption | exact Below.refl _ _ | refine Below.drew ?_ | refine below_drewN ?_ _ | refine bw_alloc ?_ _ | (refine bw_set ?_ ?_ _; focus (dsimp only; omega)) | (apply bw_behind; assumption))); done) | ((repeat (first | (with_reducible first | assumption | refine o_dr _ ?_ | refine o_d1 ?_ | refine o_set ?_) | (with_reducible refine o_new ?_ ?_; (focus (simp)); (focus (simp))) | (with_reducible first | refine o_al _ ?_ | (apply o_be; assumption)))); done) | (simp [go_sem, *]; done))) (first | (go_at_call 64; (with_reducible refine (Cc2.out _).mono ?_); rintro e w' ⟨rfl, n1, rfl⟩) | (go_at_call 65; (with_reducible refine (Cc3.out _).mono ?_); rintro e w' ⟨rfl, n1, rfl⟩) | (go_at_call 66; (with_reducible refine (Cc4.out _).mono ?_); rintro e w4 ⟨rfl, hb4⟩; obtain ⟨hr4, hh4, m4, hs4⟩ := bl_all hb4))
    all_goals
      go_wp2_with fail
      go_meet
      refine ⟨rfl, ?_, ?_, ?_⟩
    all_goals (first | with_reducible assumption | ((repeat (with_reducible first | assumption | refine c_dr _ ?_ | refine c_d1 ?_ | refine c_al _ ?_ | (refine c_set ?_ ?_; focus (dsimp only; omega)) | (apply c_be; assumption))); done) | ((repeat (first | (with_reducible first | assumption | refine o_dr _ ?_ | refine o_d1 ?_ | refine o_set ?_) | (with_reducible refine o_new ?_ ?_; (focus (simp)); (focus (simp))) | (with_reducible first | refine o_al _ ?_ | (apply o_be; assumption)))); done) | ((repeat (with_reducible first | assumption | exact Below.refl _ _ | refine Below.drew ?_ | refine below_drewN ?_ _ | refine bw_alloc ?_ _ | (refine bw_set ?_ ?_ _; focus (dsimp only; omega)) | (apply bw_behind; assumption))); done) | (simp [go_sem, *]; omega) | (simp (maxDischargeDepth := 4) [go_sem, *]; done))
  case rest =>
    obtain ⟨rfl, g0, g1, hB⟩ := hcut
    go_wp2
    refine bodyPost_ret (v := .tuple #[.agg #[.int .u64 Z, .bool S], .int .i64 0]) (by simp (maxDischargeDepth := 4) [results, Tryd.results33, go_sem, *]) rfl ?_
    refine ⟨rfl, ?_⟩
    repeat (with_reducible first | assumption | exact Below.refl _ _ | refine Below.drew ?_ | refine below_drewN ?_ _ | refine bw_alloc ?_ _ | (refine bw_set ?_ ?_ _; focus (dsimp only; omega)) | (apply bw_behind; assumption))

theorem access_any (b0 b1 b2 b3 b4 b5 b6 b7 b8 b9 b10 b11 t : Bool) (F v : BitVec 64) (k : Int) {N : Nat} {M : Nat -> List Ln} {P A : Int} {G : Bool} (w : World) (hU : UnitAt N M P A G w) : Calls Tryd.prog 33 #[.pointer (some ⟨N, 0, none⟩), .agg #[.bool b0, .bool b1, .bool b2, .bool b3, .bool b4, .bool b5, .bool b6, .bool b7, .bool b8, .bool b9, .bool b10, .bool b11, .int .u64 (F.toNat : Int)], .int .u64 (v.toNat : Int), .int .i64 k, .bool t] w (Makes (accV (F.toNat : Int) (v.toNat : Int) k b9 (checkQ (b0 && (b1 || b2 || b3)) b4 (allowQ k b1 b2 b3) b8 b9 b11 k t G)) w) := by
  have c1 := fun W => check_any b0 b1 b2 b3 b4 b5 b6 b7 b8 b9 b10 b11 t G F k W
  unfold accV
  split
  · rename_i h
    rw [h] at c1
    refine access_ok b0 b1 b2 b3 b4 b5 b6 b7 b8 b9 b10 b11 t _ G _ _ k _ _ _ c1 (fun W => address_any F W) (fun W => offset_any v W) (fun W => strip_any b0 b1 b2 b3 b4 b5 b6 b7 b8 b9 b10 b11 _ k W) ?_ N w hU.gen
    rw [show ((v.toNat % 4096 : Nat) : Int) = (v.toNat : Int) % 4096 by omega]
  · rename_i h
    exact access_bad b0 b1 b2 b3 b4 b5 b6 b7 b8 b9 b10 b11 t G _ _ k _ c1 (by simpa using h) N w hU.gen
end Go.Proofs.YtkajndonefkegaaDoor
