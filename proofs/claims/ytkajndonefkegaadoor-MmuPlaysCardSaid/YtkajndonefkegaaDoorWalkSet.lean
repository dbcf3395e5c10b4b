/-
  What Mark answers, and turns: the marked entry is stored where it is, unless it is the same.
-/
import Derived.Test.YtkajndonefkegaaDoorGWm
import Derived.Test.YtkajndonefkegaaDoorGWw
import Derived.Test.YtkajndonefkegaaDoorWalkMem
import Derived.Test.YtkajndonefkegaaDoorGBase
import Derived.Laws.StructEq
import Derived.DeepKeys
import Derived.Deep.DeepCutAuto
import Derived.Deep.RegionHeld3
set_option maxRecDepth 100000
set_option maxHeartbeats 64000000
namespace Go.Proofs.YtkajndonefkegaaDoor
open Go.RowKit Words FieldMath PteMath

theorem store_mark (b0 b1 b2 b3 b4 b5 b6 b7 b8 b9 b10 b11 : Bool) (R N C o pb fb : Nat) (M M2 : Nat -> Nat -> BitVec 64) (F A V : Int) (c1 : ∀ W, Tab W -> Calls Tryd.prog 12 #[.agg #[.bool b0, .bool b1, .bool b2, .bool b3, .bool b4, .bool b5, .bool b6, .bool b7, .bool b8, .bool b9, .bool b10, .bool b11, .int .u64 F]] W (Makes (.int .u64 V) W)) (c2 : ∀ W, MemW W R N C M -> Calls Tryd.prog 11 #[.pointer (some ⟨R, 0, none⟩), .int .u64 A, .int .i64 8, .int .u64 V] W fun e w' => e = .returned (.int .i64 0) /\ MemW w' R N C M2 /\ Out N o W w') (w : World) (hT : Tab w) (hM : MemW w R N C M) (h1 : w.cell? ⟨pb, 0, none⟩ = some (.pointer (some ⟨R, 0, none⟩))) (h2 : w.cell? ⟨fb, 13, none⟩ = some (.int .u64 A)) :
    Calls Tryd.prog 83 #[.agg #[.bool b0, .bool b1, .bool b2, .bool b3, .bool b4, .bool b5, .bool b6, .bool b7, .bool b8, .bool b9, .bool b10, .bool b11, .int .u64 F], .pointer (some ⟨pb, 0, none⟩), .pointer (some ⟨fb, 0, none⟩)] w fun e w' => e = .returned (.tuple #[]) /\ MemW w' R N C M2 /\ Out N o w w' := by
  have Cc1 := hide c1
  have Cc2 := hide c2
  clear c1 c2
  obtain ⟨SS, LB', LS, LA', LH⟩ := rules5
  have HM := hide hM
  have l1 : ltB pb w.heap.size = true := decide_eq_true (World.block_lt_of_cell? w _ h1)
  have l2 : ltB fb w.heap.size = true := decide_eq_true (World.block_lt_of_cell? w _ h2)
  clear hM
  go_enter Tryd.func83, Tryd.ntmps83
  go_wp2
  go_region_with (first | (go_at_call 12; (with_reducible refine (Cc1.out _ ?_).mono ?_); (refine hT.behind ?_; repeat (with_reducible first | assumption | exact Below.refl _ _ | refine Below.drew ?_ | refine below_drewN ?_ _ | refine bw_alloc ?_ _ | (refine bw_set ?_ ?_ _; focus (dsimp only; omega)) | (apply bw_behind; assumption))); rintro e w4 ⟨rfl, hb4⟩; obtain ⟨hr4, hh4, m4, hs4⟩ := bl_all hb4) | (go_at_call 11; (with_reducible refine (Cc2.out _ ?_).mono ?_); (focus (have hMw := HM.out; repeat (with_reducible first | assumption | refine mw_dr _ ?_ | refine mw_d1 ?_ | refine mw_al _ ?_ | (apply mw_be; assumption)))); rintro e w5 ⟨rfl, hM5, ho5⟩))
  all_goals
    go_wp2
    refine bodyPost_end (v := .tuple #[]) (by simp (maxDischargeDepth := 4) [results, Tryd.results83, go_sem, *]) rfl ?_
    refine ⟨rfl, ?_, ?_⟩
    · repeat (with_reducible first | assumption | refine mw_dr _ ?_ | refine mw_d1 ?_ | refine mw_al _ ?_ | (apply mw_be; assumption))
    · repeat (with_reducible first | assumption | exact Out.refl _ _ _ | refine out_dr _ ?_ | refine out_d1 ?_ | refine out_al _ ?_ | (refine out_new _ ?_ ?_; focus (dsimp only; omega)) | (apply out_be; assumption) | (refine Out.trans ?_ (by assumption)))

theorem mw_sc {R N C b : Nat} {M : Nat -> Nat -> BitVec 64} : ∀ (l : List Value) (o : Nat) {W : World}, b ≠ N -> b ≠ R -> MemW W R N C M -> MemW (W.setCells b o l) R N C M
  | [], _, _, _, _, h => h
  | v :: l, o, W, h1, h2, h => by
    rw [World.setCells]
    exact mw_sc l (o + 1) h1 h2 (mw_set (p := ⟨b, o, none⟩) h1 h2 h)
theorem out_sc {N o b : Nat} {a : World} : ∀ (l : List Value) (j : Nat) {W : World}, a.heap.size ≤ b -> Out N o a W -> Out N o a (W.setCells b j l)
  | [], _, _, _, h => h
  | v :: l, j, W, hb, h => by
    rw [World.setCells]
    exact out_sc l (j + 1) hb (out_new (p := ⟨b, j, none⟩) v hb h)
theorem own_out {N o b k : Nat} {w W : World} (h : Out N o w W) (hne : b ≠ N) (ho : Own w b k) : Own W b k := fun i hi => by
  obtain ⟨v, hv⟩ := ho.val i hi
  have hlt : b < w.heap.size := World.block_lt_of_cell? w _ hv
  exact ⟨by rw [h.reads (p := ⟨b, i, none⟩) hne hv]; rfl, (World.frozen?_of_block (w := w) (h.block b hlt hne)).trans (ho.free i hi)⟩
theorem wpList_store_over {P : Program} {ops : Array Oper} {rest : List Oper} {op : Oper} {a : Act} {w : World} {Q : Exit -> Act -> World -> Prop} (hgd : op.guard = none) (ty : TypeId) (x y : Operand) (ho : op.op = .store ty x y)
    (b n : Nat) (cells : Array Value) (hx : a.eval x = .pointer (some ⟨b, 0, none⟩)) (hy : a.eval y = .agg cells) (hn : cells.size = n)
    (ht : Own w b n) (hi : (P.info? ty).map (·.size) = some n) (h1 : cells.all (·.oneCell') = true)
    (h : ∀ W', Row W' b cells.toList -> (∀ a v, a.block ≠ b -> w.cell? a = some v -> W'.cell? a = some v) -> (∀ i v, n ≤ i -> w.cell? ⟨b, i, none⟩ = some v -> W'.cell? ⟨b, i, none⟩ = some v) -> Hid (W' = w.setCells b 0 cells.toList) -> wpList P ops Q rest (a.put op.dst undef) W') : wpList P ops Q (op :: rest) a w := by
  subst hn
  exact wpList_store_mid hgd ty x y ho b 0 cells hx hy (th_own ht) hi h1 (h _ (row_sc (by simpa using th_own ht)) (fun a v hne hv => c_sc (fun e => hne e.symm) hv) (fun i v hi hv => (World.cell?_setCells_out b cells.toList 0 w ⟨b, i, none⟩ (fun _ _ => .inr (by simpa using hi))).trans hv) rfl)
theorem infoF2 : Option.map (fun x => x.size) (Tryd.prog.info? 34) = some 14 := by kernel_rfl

attribute [local irreducible] World.setCells in
theorem replaced_yes (b0 b1 b2 b3 b4 b5 b6 b7 b8 b9 b10 b11 d0 d1 d2 d3 d4 d5 d6 d7 d8 d9 d10 d11 : Bool) (R N C o pb fb : Nat) (M M2 : Nat -> Nat -> BitVec 64) (F A : Int) (hC : 0 < C) (c1 : ∀ W, Tab W -> MemW W R N C M -> W.cell? ⟨pb, 0, none⟩ = some (.pointer (some ⟨R, 0, none⟩)) -> W.cell? ⟨fb, 13, none⟩ = some (.int .u64 A) -> Calls Tryd.prog 83 #[.agg #[.bool d0, .bool d1, .bool d2, .bool d3, .bool d4, .bool d5, .bool d6, .bool d7, .bool d8, .bool d9, .bool d10, .bool d11, .int .u64 F], .pointer (some ⟨pb, 0, none⟩), .pointer (some ⟨fb, 0, none⟩)] W fun e w' => e = .returned (.tuple #[]) /\ MemW w' R N C M2 /\ Out N o W w') (NE : ∀ W, (binOp .neq 32 (.agg #[.bool d0, .bool d1, .bool d2, .bool d3, .bool d4, .bool d5, .bool d6, .bool d7, .bool d8, .bool d9, .bool d10, .bool d11, .int .u64 F]) (.agg #[.bool b0, .bool b1, .bool b2, .bool b3, .bool b4, .bool b5, .bool b6, .bool b7, .bool b8, .bool b9, .bool b10, .bool b11, .int .u64 F])).run Tryd.prog W = .ok (.bool true) W) (w : World) (hT : Tab w) (hM : MemW w R N C M) (h1 : w.cell? ⟨pb, 0, none⟩ = some (.pointer (some ⟨R, 0, none⟩))) (h2 : w.cell? ⟨fb, 13, none⟩ = some (.int .u64 A)) :
    Calls Tryd.prog 82 #[.agg #[.bool b0, .bool b1, .bool b2, .bool b3, .bool b4, .bool b5, .bool b6, .bool b7, .bool b8, .bool b9, .bool b10, .bool b11, .int .u64 F, .int .u64 A], .agg #[.bool d0, .bool d1, .bool d2, .bool d3, .bool d4, .bool d5, .bool d6, .bool d7, .bool d8, .bool d9, .bool d10, .bool d11, .int .u64 F], .func (.func 83) #[] #[.pointer (some ⟨pb, 0, none⟩), .pointer (some ⟨fb, 0, none⟩)]] w fun e w' => e = .returned (.agg #[.bool d0, .bool d1, .bool d2, .bool d3, .bool d4, .bool d5, .bool d6, .bool d7, .bool d8, .bool d9, .bool d10, .bool d11, .int .u64 F, .int .u64 A]) /\ MemW w' R N C M2 /\ Out N o w w' := by
  have Cc1 := hide c1
  clear c1
  obtain ⟨SS, LB', LS, LA', LH⟩ := rules5
  have HM := hide hM
  have l1 : ltB pb w.heap.size = true := decide_eq_true (World.block_lt_of_cell? w _ h1)
  have l2 : ltB fb w.heap.size = true := decide_eq_true (World.block_lt_of_cell? w _ h2)
  have hN : N < w.heap.size := by
    obtain ⟨B, S, hm, _⟩ := hM
    exact (hm.page 0 hC).here
  have hR : R < w.heap.size := World.block_lt_of_cell? w _ hM.ram
  clear hM
  go_enter Tryd.func82, Tryd.ntmps82
  go_upto_region 3 with (go_at_call 83; (with_reducible refine (Cc1.out _ ?_ ?_ ?_ ?_).mono ?_); (refine hT.behind ?_; repeat (with_reducible first | assumption | exact Below.refl _ _ | refine Below.drew ?_ | refine below_drewN ?_ _ | refine bw_alloc ?_ _ | (refine bw_set ?_ ?_ _; focus (dsimp only; omega)) | (apply bw_behind; assumption))); (focus (have hMw := HM.out; repeat (with_reducible first | assumption | refine mw_dr _ ?_ | refine mw_d1 ?_ | refine mw_al _ ?_ | (apply mw_be; assumption)))); (focus (repeat (with_reducible first | assumption | refine c_dr _ ?_ | refine c_d1 ?_ | refine c_al _ ?_ | (refine c_set ?_ ?_; focus (dsimp only; omega)) | (apply c_be; assumption)))); (focus (repeat (with_reducible first | assumption | refine c_dr _ ?_ | refine c_d1 ?_ | refine c_al _ ?_ | (refine c_set ?_ ?_; focus (dsimp only; omega)) | (apply c_be; assumption)))); rintro e w5 ⟨rfl, hM5, ho5⟩)
  refine wp_abs (fun W => MemW W R N C M2 /\ Out N o w W /\ W.cell? ⟨w.heap.size, 0, none⟩ = some (.bool b0) /\ W.cell? ⟨w.heap.size, 1, none⟩ = some (.bool b1) /\ W.cell? ⟨w.heap.size, 2, none⟩ = some (.bool b2) /\ W.cell? ⟨w.heap.size, 3, none⟩ = some (.bool b3) /\ W.cell? ⟨w.heap.size, 4, none⟩ = some (.bool b4) /\ W.cell? ⟨w.heap.size, 5, none⟩ = some (.bool b5) /\ W.cell? ⟨w.heap.size, 6, none⟩ = some (.bool b6) /\ W.cell? ⟨w.heap.size, 7, none⟩ = some (.bool b7) /\ W.cell? ⟨w.heap.size, 8, none⟩ = some (.bool b8) /\ W.cell? ⟨w.heap.size, 9, none⟩ = some (.bool b9) /\ W.cell? ⟨w.heap.size, 10, none⟩ = some (.bool b10) /\ W.cell? ⟨w.heap.size, 11, none⟩ = some (.bool b11) /\ W.cell? ⟨w.heap.size, 12, none⟩ = some (.int .u64 F) /\ W.cell? ⟨w.heap.size, 13, none⟩ = some (.int .u64 A) /\ W.cell? ⟨w.heap.size + 1, 0, none⟩ = some (.bool d0) /\ W.cell? ⟨w.heap.size + 1, 1, none⟩ = some (.bool d1) /\ W.cell? ⟨w.heap.size + 1, 2, none⟩ = some (.bool d2) /\ W.cell? ⟨w.heap.size + 1, 3, none⟩ = some (.bool d3) /\ W.cell? ⟨w.heap.size + 1, 4, none⟩ = some (.bool d4) /\ W.cell? ⟨w.heap.size + 1, 5, none⟩ = some (.bool d5) /\ W.cell? ⟨w.heap.size + 1, 6, none⟩ = some (.bool d6) /\ W.cell? ⟨w.heap.size + 1, 7, none⟩ = some (.bool d7) /\ W.cell? ⟨w.heap.size + 1, 8, none⟩ = some (.bool d8) /\ W.cell? ⟨w.heap.size + 1, 9, none⟩ = some (.bool d9) /\ W.cell? ⟨w.heap.size + 1, 10, none⟩ = some (.bool d10) /\ W.cell? ⟨w.heap.size + 1, 11, none⟩ = some (.bool d11) /\ W.cell? ⟨w.heap.size + 1, 12, none⟩ = some (.int .u64 F) /\ Own W w.heap.size 14 /\ Own W (w.heap.size + 1 + 1) 14) ?_ ?_
  · refine ⟨?_, ?_, ?_, ?_, ?_, ?_, ?_, ?_, ?_, ?_, ?_, ?_, ?_, ?_, ?_, ?_, ?_, ?_, ?_, ?_, ?_, ?_, ?_, ?_, ?_, ?_, ?_, ?_, ?_, ?_, ?_⟩
    all_goals first | exact hM5 | ((refine Out.trans ?_ ho5); (repeat (with_reducible first | assumption | exact Out.refl _ _ _ | refine out_dr _ ?_ | refine out_d1 ?_ | refine out_al _ ?_ | (refine out_new _ ?_ ?_; focus (dsimp only; omega)) | (apply out_be; assumption) | (refine Out.trans ?_ (by assumption)))); done) | (refine ho5.reads (by dsimp only; omega) ?_; (first | with_reducible assumption | ((repeat (with_reducible first | assumption | refine c_dr _ ?_ | refine c_d1 ?_ | refine c_al _ ?_ | (refine c_set ?_ ?_; focus (dsimp only; omega)) | (apply c_be; assumption))); done) | ((repeat (first | (with_reducible first | assumption | refine o_dr _ ?_ | refine o_d1 ?_ | refine o_set ?_) | (with_reducible refine o_new ?_ ?_; (focus (simp)); (focus (simp))) | (with_reducible first | refine o_al _ ?_ | (apply o_be; assumption)))); done) | ((repeat (with_reducible first | assumption | exact Below.refl _ _ | refine Below.drew ?_ | refine below_drewN ?_ _ | refine bw_alloc ?_ _ | (refine bw_set ?_ ?_ _; focus (dsimp only; omega)) | (apply bw_behind; assumption))); done) | (simp [go_sem, *]; omega) | (simp (maxDischargeDepth := 4) [go_sem, *]; done))) | (refine own_out ho5 (by omega) ?_; repeat (first | (with_reducible first | assumption | refine o_dr _ ?_ | refine o_d1 ?_ | refine o_set ?_) | (with_reducible refine o_new ?_ ?_; (focus (simp)); (focus (simp))) | (with_reducible first | refine o_al _ ?_ | (apply o_be; assumption)))) | (have hMw := HM.out; (repeat (with_reducible first | assumption | refine mw_dr _ ?_ | refine mw_d1 ?_ | refine mw_al _ ?_ | (apply mw_be; assumption))); done) | ((repeat (with_reducible first | assumption | exact Out.refl _ _ _ | refine out_dr _ ?_ | refine out_d1 ?_ | refine out_al _ ?_ | (refine out_new _ ?_ ?_; focus (dsimp only; omega)) | (apply out_be; assumption) | (refine Out.trans ?_ (by assumption)))); done) | (first | with_reducible assumption | ((repeat (with_reducible first | assumption | refine c_dr _ ?_ | refine c_d1 ?_ | refine c_al _ ?_ | (refine c_set ?_ ?_; focus (dsimp only; omega)) | (apply c_be; assumption))); done) | ((repeat (first | (with_reducible first | assumption | refine o_dr _ ?_ | refine o_d1 ?_ | refine o_set ?_) | (with_reducible refine o_new ?_ ?_; (focus (simp)); (focus (simp))) | (with_reducible first | refine o_al _ ?_ | (apply o_be; assumption)))); done) | ((repeat (with_reducible first | assumption | exact Below.refl _ _ | refine Below.drew ?_ | refine below_drewN ?_ _ | refine bw_alloc ?_ _ | (refine bw_set ?_ ?_ _; focus (dsimp only; omega)) | (apply bw_behind; assumption))); done) | (simp [go_sem, *]; omega) | (simp (maxDischargeDepth := 4) [go_sem, *]; done))
  rintro w6 ⟨hM6, ho6, f0, f1, f2, f3, f4, f5, f6, f7, f8, f9, f10, f11, f12, f13, g0, g1, g2, g3, g4, g5, g6, g7, g8, g9, g10, g11, g12, ow3, ow6⟩
  have hRN := hM6.ne
  go_wp2_with (first | ((refine wpList_store_over rfl 32 _ _ rfl (w.heap.size) 13 _ rfl rfl rfl ?_ infoE ?_ ?_); (focus (exact fun i hi => ow3 i (by omega))); (focus (simp [Value.oneCell'])); intro ws1 hrs1 hel1 hov1 hw1; have q1_0 := hrs1 0 _ rfl; have q1_1 := hrs1 1 _ rfl; have q1_2 := hrs1 2 _ rfl; have q1_3 := hrs1 3 _ rfl; have q1_4 := hrs1 4 _ rfl; have q1_5 := hrs1 5 _ rfl; have q1_6 := hrs1 6 _ rfl; have q1_7 := hrs1 7 _ rfl; have q1_8 := hrs1 8 _ rfl; have q1_9 := hrs1 9 _ rfl; have q1_10 := hrs1 10 _ rfl; have q1_11 := hrs1 11 _ rfl; have q1_12 := hrs1 12 _ rfl; clear hrs1) | ((refine wpList_store_over rfl 34 _ _ rfl (w.heap.size + 1 + 1) 14 _ rfl rfl rfl ?_ infoF2 ?_ ?_); (focus ((rw [hw1.out]; exact o_sc ow6))); (focus (simp [Value.oneCell'])); intro ws2 hrs2 hel2 hov2 hw2; have q2_0 := hrs2 0 _ rfl; have q2_1 := hrs2 1 _ rfl; have q2_2 := hrs2 2 _ rfl; have q2_3 := hrs2 3 _ rfl; have q2_4 := hrs2 4 _ rfl; have q2_5 := hrs2 5 _ rfl; have q2_6 := hrs2 6 _ rfl; have q2_7 := hrs2 7 _ rfl; have q2_8 := hrs2 8 _ rfl; have q2_9 := hrs2 9 _ rfl; have q2_10 := hrs2 10 _ rfl; have q2_11 := hrs2 11 _ rfl; have q2_12 := hrs2 12 _ rfl; have q2_13 := hrs2 13 _ rfl; clear hrs2))
  refine bodyPost_ret (v := .agg #[.bool d0, .bool d1, .bool d2, .bool d3, .bool d4, .bool d5, .bool d6, .bool d7, .bool d8, .bool d9, .bool d10, .bool d11, .int .u64 F, .int .u64 A]) (by simp (maxDischargeDepth := 4) [results, Tryd.results82, go_sem, *]) rfl ?_
  have e1 := hw1.out
  have e2 := hw2.out
  clear hw1 hw2
  subst e2
  subst e1
  refine ⟨rfl, ?_, ?_⟩
  · repeat (with_reducible first | assumption | refine mw_dr _ ?_ | refine mw_d1 ?_ | (refine mw_sc _ _ ?_ ?_ ?_; (focus omega); (focus omega)))
  · repeat (with_reducible first | assumption | refine out_dr _ ?_ | refine out_d1 ?_ | (refine out_sc _ _ ?_ ?_; (focus omega)))

attribute [local irreducible] World.setCells in
theorem replaced_no (b0 b1 b2 b3 b4 b5 b6 b7 b8 b9 b10 b11 d0 d1 d2 d3 d4 d5 d6 d7 d8 d9 d10 d11 : Bool) (R N C o pb fb : Nat) (M M2 : Nat -> Nat -> BitVec 64) (F A : Int) (hC : 0 < C) (c1 : ∀ W, Tab W -> MemW W R N C M -> W.cell? ⟨pb, 0, none⟩ = some (.pointer (some ⟨R, 0, none⟩)) -> W.cell? ⟨fb, 13, none⟩ = some (.int .u64 A) -> Calls Tryd.prog 83 #[.agg #[.bool d0, .bool d1, .bool d2, .bool d3, .bool d4, .bool d5, .bool d6, .bool d7, .bool d8, .bool d9, .bool d10, .bool d11, .int .u64 F], .pointer (some ⟨pb, 0, none⟩), .pointer (some ⟨fb, 0, none⟩)] W fun e w' => e = .returned (.tuple #[]) /\ MemW w' R N C M2 /\ Out N o W w') (NE : ∀ W, (binOp .neq 32 (.agg #[.bool d0, .bool d1, .bool d2, .bool d3, .bool d4, .bool d5, .bool d6, .bool d7, .bool d8, .bool d9, .bool d10, .bool d11, .int .u64 F]) (.agg #[.bool b0, .bool b1, .bool b2, .bool b3, .bool b4, .bool b5, .bool b6, .bool b7, .bool b8, .bool b9, .bool b10, .bool b11, .int .u64 F])).run Tryd.prog W = .ok (.bool false) W) (w : World) (_hT : Tab w) (hM : MemW w R N C M) (h1 : w.cell? ⟨pb, 0, none⟩ = some (.pointer (some ⟨R, 0, none⟩))) (h2 : w.cell? ⟨fb, 13, none⟩ = some (.int .u64 A)) :
    Calls Tryd.prog 82 #[.agg #[.bool b0, .bool b1, .bool b2, .bool b3, .bool b4, .bool b5, .bool b6, .bool b7, .bool b8, .bool b9, .bool b10, .bool b11, .int .u64 F, .int .u64 A], .agg #[.bool d0, .bool d1, .bool d2, .bool d3, .bool d4, .bool d5, .bool d6, .bool d7, .bool d8, .bool d9, .bool d10, .bool d11, .int .u64 F], .func (.func 83) #[] #[.pointer (some ⟨pb, 0, none⟩), .pointer (some ⟨fb, 0, none⟩)]] w fun e w' => e = .returned (.agg #[.bool d0, .bool d1, .bool d2, .bool d3, .bool d4, .bool d5, .bool d6, .bool d7, .bool d8, .bool d9, .bool d10, .bool d11, .int .u64 F, .int .u64 A]) /\ MemW w' R N C M /\ Out N o w w' := by
  have Cc1 := hide c1
  clear c1
  obtain ⟨SS, LB', LS, LA', LH⟩ := rules5
  have HM := hide hM
  have l1 : ltB pb w.heap.size = true := decide_eq_true (World.block_lt_of_cell? w _ h1)
  have l2 : ltB fb w.heap.size = true := decide_eq_true (World.block_lt_of_cell? w _ h2)
  have hN : N < w.heap.size := by
    obtain ⟨B, S, hm, _⟩ := hM
    exact (hm.page 0 hC).here
  have hR : R < w.heap.size := World.block_lt_of_cell? w _ hM.ram
  clear hM
  go_enter Tryd.func82, Tryd.ntmps82
  go_upto_region 3 with (go_at_call 83; (with_reducible refine (Cc1.out _ ?_ ?_ ?_ ?_).mono ?_); (refine hT.behind ?_; repeat (with_reducible first | assumption | exact Below.refl _ _ | refine Below.drew ?_ | refine below_drewN ?_ _ | refine bw_alloc ?_ _ | (refine bw_set ?_ ?_ _; focus (dsimp only; omega)) | (apply bw_behind; assumption))); (focus (have hMw := HM.out; repeat (with_reducible first | assumption | refine mw_dr _ ?_ | refine mw_d1 ?_ | refine mw_al _ ?_ | (apply mw_be; assumption)))); (focus (repeat (with_reducible first | assumption | refine c_dr _ ?_ | refine c_d1 ?_ | refine c_al _ ?_ | (refine c_set ?_ ?_; focus (dsimp only; omega)) | (apply c_be; assumption)))); (focus (repeat (with_reducible first | assumption | refine c_dr _ ?_ | refine c_d1 ?_ | refine c_al _ ?_ | (refine c_set ?_ ?_; focus (dsimp only; omega)) | (apply c_be; assumption)))); rintro e w5 ⟨rfl, hM5, ho5⟩)
  refine wp_abs (fun W => MemW W R N C M /\ Out N o w W /\ W.cell? ⟨w.heap.size, 0, none⟩ = some (.bool b0) /\ W.cell? ⟨w.heap.size, 1, none⟩ = some (.bool b1) /\ W.cell? ⟨w.heap.size, 2, none⟩ = some (.bool b2) /\ W.cell? ⟨w.heap.size, 3, none⟩ = some (.bool b3) /\ W.cell? ⟨w.heap.size, 4, none⟩ = some (.bool b4) /\ W.cell? ⟨w.heap.size, 5, none⟩ = some (.bool b5) /\ W.cell? ⟨w.heap.size, 6, none⟩ = some (.bool b6) /\ W.cell? ⟨w.heap.size, 7, none⟩ = some (.bool b7) /\ W.cell? ⟨w.heap.size, 8, none⟩ = some (.bool b8) /\ W.cell? ⟨w.heap.size, 9, none⟩ = some (.bool b9) /\ W.cell? ⟨w.heap.size, 10, none⟩ = some (.bool b10) /\ W.cell? ⟨w.heap.size, 11, none⟩ = some (.bool b11) /\ W.cell? ⟨w.heap.size, 12, none⟩ = some (.int .u64 F) /\ W.cell? ⟨w.heap.size, 13, none⟩ = some (.int .u64 A) /\ W.cell? ⟨w.heap.size + 1, 0, none⟩ = some (.bool d0) /\ W.cell? ⟨w.heap.size + 1, 1, none⟩ = some (.bool d1) /\ W.cell? ⟨w.heap.size + 1, 2, none⟩ = some (.bool d2) /\ W.cell? ⟨w.heap.size + 1, 3, none⟩ = some (.bool d3) /\ W.cell? ⟨w.heap.size + 1, 4, none⟩ = some (.bool d4) /\ W.cell? ⟨w.heap.size + 1, 5, none⟩ = some (.bool d5) /\ W.cell? ⟨w.heap.size + 1, 6, none⟩ = some (.bool d6) /\ W.cell? ⟨w.heap.size + 1, 7, none⟩ = some (.bool d7) /\ W.cell? ⟨w.heap.size + 1, 8, none⟩ = some (.bool d8) /\ W.cell? ⟨w.heap.size + 1, 9, none⟩ = some (.bool d9) /\ W.cell? ⟨w.heap.size + 1, 10, none⟩ = some (.bool d10) /\ W.cell? ⟨w.heap.size + 1, 11, none⟩ = some (.bool d11) /\ W.cell? ⟨w.heap.size + 1, 12, none⟩ = some (.int .u64 F) /\ Own W w.heap.size 14 /\ Own W (w.heap.size + 1 + 1) 14) ?_ ?_
  · refine ⟨?_, ?_, ?_, ?_, ?_, ?_, ?_, ?_, ?_, ?_, ?_, ?_, ?_, ?_, ?_, ?_, ?_, ?_, ?_, ?_, ?_, ?_, ?_, ?_, ?_, ?_, ?_, ?_, ?_, ?_, ?_⟩
    all_goals first | (have hMw := HM.out; (repeat (with_reducible first | assumption | refine mw_dr _ ?_ | refine mw_d1 ?_ | refine mw_al _ ?_ | (apply mw_be; assumption))); done) | ((repeat (with_reducible first | assumption | exact Out.refl _ _ _ | refine out_dr _ ?_ | refine out_d1 ?_ | refine out_al _ ?_ | (refine out_new _ ?_ ?_; focus (dsimp only; omega)) | (apply out_be; assumption) | (refine Out.trans ?_ (by assumption)))); done) | (first | with_reducible assumption | ((repeat (with_reducible first | assumption | refine c_dr _ ?_ | refine c_d1 ?_ | refine c_al _ ?_ | (refine c_set ?_ ?_; focus (dsimp only; omega)) | (apply c_be; assumption))); done) | ((repeat (first | (with_reducible first | assumption | refine o_dr _ ?_ | refine o_d1 ?_ | refine o_set ?_) | (with_reducible refine o_new ?_ ?_; (focus (simp)); (focus (simp))) | (with_reducible first | refine o_al _ ?_ | (apply o_be; assumption)))); done) | ((repeat (with_reducible first | assumption | exact Below.refl _ _ | refine Below.drew ?_ | refine below_drewN ?_ _ | refine bw_alloc ?_ _ | (refine bw_set ?_ ?_ _; focus (dsimp only; omega)) | (apply bw_behind; assumption))); done) | (simp [go_sem, *]; omega) | (simp (maxDischargeDepth := 4) [go_sem, *]; done))
  rintro w6 ⟨hM6, ho6, f0, f1, f2, f3, f4, f5, f6, f7, f8, f9, f10, f11, f12, f13, g0, g1, g2, g3, g4, g5, g6, g7, g8, g9, g10, g11, g12, ow3, ow6⟩
  have hRN := hM6.ne
  go_wp2_with (first | ((refine wpList_store_over rfl 32 _ _ rfl (w.heap.size) 13 _ rfl rfl rfl ?_ infoE ?_ ?_); (focus (exact fun i hi => ow3 i (by omega))); (focus (simp [Value.oneCell'])); intro ws1 hrs1 hel1 hov1 hw1; have q1_0 := hrs1 0 _ rfl; have q1_1 := hrs1 1 _ rfl; have q1_2 := hrs1 2 _ rfl; have q1_3 := hrs1 3 _ rfl; have q1_4 := hrs1 4 _ rfl; have q1_5 := hrs1 5 _ rfl; have q1_6 := hrs1 6 _ rfl; have q1_7 := hrs1 7 _ rfl; have q1_8 := hrs1 8 _ rfl; have q1_9 := hrs1 9 _ rfl; have q1_10 := hrs1 10 _ rfl; have q1_11 := hrs1 11 _ rfl; have q1_12 := hrs1 12 _ rfl; clear hrs1) | ((refine wpList_store_over rfl 34 _ _ rfl (w.heap.size + 1 + 1) 14 _ rfl rfl rfl ?_ infoF2 ?_ ?_); (focus ((rw [hw1.out]; exact o_sc ow6))); (focus (simp [Value.oneCell'])); intro ws2 hrs2 hel2 hov2 hw2; have q2_0 := hrs2 0 _ rfl; have q2_1 := hrs2 1 _ rfl; have q2_2 := hrs2 2 _ rfl; have q2_3 := hrs2 3 _ rfl; have q2_4 := hrs2 4 _ rfl; have q2_5 := hrs2 5 _ rfl; have q2_6 := hrs2 6 _ rfl; have q2_7 := hrs2 7 _ rfl; have q2_8 := hrs2 8 _ rfl; have q2_9 := hrs2 9 _ rfl; have q2_10 := hrs2 10 _ rfl; have q2_11 := hrs2 11 _ rfl; have q2_12 := hrs2 12 _ rfl; have q2_13 := hrs2 13 _ rfl; clear hrs2))
  refine bodyPost_ret (v := .agg #[.bool d0, .bool d1, .bool d2, .bool d3, .bool d4, .bool d5, .bool d6, .bool d7, .bool d8, .bool d9, .bool d10, .bool d11, .int .u64 F, .int .u64 A]) (by simp (maxDischargeDepth := 4) [results, Tryd.results82, go_sem, *]) rfl ?_
  have e1 := hw1.out
  have e2 := hw2.out
  clear hw1 hw2
  subst e2
  subst e1
  refine ⟨rfl, ?_, ?_⟩
  · repeat (with_reducible first | assumption | refine mw_dr _ ?_ | refine mw_d1 ?_ | (refine mw_sc _ _ ?_ ?_ ?_; (focus omega); (focus omega)))
  · repeat (with_reducible first | assumption | refine out_dr _ ?_ | refine out_d1 ?_ | (refine out_sc _ _ ?_ ?_; (focus omega)))
end Go.Proofs.YtkajndonefkegaaDoor
