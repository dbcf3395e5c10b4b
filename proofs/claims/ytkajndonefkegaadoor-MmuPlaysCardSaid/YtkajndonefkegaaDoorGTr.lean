/-
  Texts laid one behind the other: MmuTrans, MmuTrans2, MmuAll, MmuPlain.
-/
import Derived.Test.YtkajndonefkegaaDoorMmuFind
import Derived.Test.YtkajndonefkegaaDoorMtb7
import Derived.Laws.NewBlocks
import Derived.Test.YtkajndonefkegaaDoorMtb9
set_option maxRecDepth 100000
set_option maxHeartbeats 64000000
namespace Go.Proofs.YtkajndonefkegaaDoor
open Go.RowKit Words FieldMath PteMath

theorem row_al {W : World} {cs : Array Value} {t : TypeId} {b : Nat} (h : W.heap.size = b) : Row (W.alloc (.cells cs t)) b cs.toList := by
  intro i v hv
  rw [World.cell?_alloc_at cs t b i h.symm, ← Array.getElem?_toList]
  exact hv
theorem row_chain {W : World} {b : Nat} (v0 v1 v2 v3 v4 v5 v6 v7 v8 v9 v10 v11 v12 v13 v14 v15 : Value) (h : W.there b 0 16) : Row ((((((((((((((((W.setCell ⟨b, 0, none⟩ v0).setCell ⟨b, 1, none⟩ v1).setCell ⟨b, 2, none⟩ v2).setCell ⟨b, 3, none⟩ v3).setCell ⟨b, 4, none⟩ v4).setCell ⟨b, 5, none⟩ v5).setCell ⟨b, 6, none⟩ v6).setCell ⟨b, 7, none⟩ v7).setCell ⟨b, 8, none⟩ v8).setCell ⟨b, 9, none⟩ v9).setCell ⟨b, 10, none⟩ v10).setCell ⟨b, 11, none⟩ v11).setCell ⟨b, 12, none⟩ v12).setCell ⟨b, 13, none⟩ v13).setCell ⟨b, 14, none⟩ v14).setCell ⟨b, 15, none⟩ v15) b [v0, v1, v2, v3, v4, v5, v6, v7, v8, v9, v10, v11, v12, v13, v14, v15] := row_sc (l := [v0, v1, v2, v3, v4, v5, v6, v7, v8, v9, v10, v11, v12, v13, v14, v15]) h
attribute [local irreducible] World.setCells in
theorem trans_none (Z Q : Int) (S : Bool) (N R K C : Nat) (M M' : Nat -> List Ln) (Mm Mm' : Nat -> Nat -> BitVec 64) (P A V k n : Int) (G t : Bool) (c1 : ∀ W, Calls Tryd.prog 29 #[.int .u64 V] W (Quiet (.bool true) W)) (c2 : ∀ W, Calls Tryd.prog 31 #[.int .u64 V] W (Quiet (.int .u64 n) W)) (c3 : ∀ W, TlbM W N M -> Calls Tryd.prog 30 #[.pointer (some ⟨N, 0, none⟩), .int .u64 A, .int .u64 n] W (Makes (.tuple #[.agg #[.int .u64 0, .int .u64 0, .bool false, .bool false, .bool false, .bool false, .bool false, .bool false, .bool false, .bool false, .bool false, .bool false, .bool false, .bool false, .int .u64 0, .int .u64 0], .bool false]) W)) (c5 : ∀ W, Tab W -> MemW W R K C Mm -> UnitAt N M P A G W -> Calls Tryd.prog 32 #[.pointer (some ⟨N, 0, none⟩), .pointer (some ⟨R, 0, none⟩), .int .u64 V, .int .i64 k, .bool t] W (fun e w' => e = .returned (.tuple #[.agg #[.int .u64 Z, .bool S], .int .i64 Q]) /\ MemW w' R K C Mm' /\ UnitAt N M' P A G w' /\ Out2 N K W w')) (w : World) (hC : 0 < C) (hT : Tab w) (hM : MemW w R K C Mm) (hU : UnitAt N M P A G w) : Calls Tryd.prog 7 #[.pointer (some ⟨N, 0, none⟩), .pointer (some ⟨R, 0, none⟩), .int .u64 V, .int .i64 k, .bool t] w (fun e w' => e = .returned (.tuple #[.agg #[.int .u64 Z, .bool S], .int .i64 Q]) /\ MemW w' R K C Mm' /\ UnitAt N M' P A G w' /\ Out2 N K w w') := by
  have Cc1 := hide c1
  have Cc2 := hide c2
  have Cc3 := hide c3
  have Cc5 := hide c5
  clear c1 c2 c3 c5
  obtain ⟨SS, LB', LS, LA', LH⟩ := rules5
  have hN := hU.here
  have hLn0 : ltB N w.heap.size = true := decide_eq_true hN
  have p0 := hU.root
  have a0 := hU.asid
  have hTm := hU.tlb
  go_enter Tryd.func7, Tryd.ntmps7
  go_upto_region 3 with (first | (go_at_call 29; (with_reducible refine (Cc1.out _).mono ?_); rintro e w' ⟨rfl, n1, rfl⟩))
  have d0 : (w.alloc (.cells #[.int .u64 0, .bool false] 52)).cell? ⟨w.heap.size, 0, none⟩ = some (.int .u64 0) := by simp [go_sem]
  have d1 : (w.alloc (.cells #[.int .u64 0, .bool false] 52)).cell? ⟨w.heap.size, 1, none⟩ = some (.bool false) := by simp [go_sem]
  have oneX : ∀ v : Value, v ∈ [.int .u64 0, .int .u64 0, .bool false, .bool false, .bool false, .bool false, .bool false, .bool false, .bool false, .bool false, .bool false, .bool false, .bool false, .bool false, .int .u64 0, .int .u64 0] -> v.oneCell' = true := by simp [Value.oneCell']
  have TNX : ∀ (W : World) (t : TypeId) (b : Nat), W.heap.size = b -> (W.alloc (.cells #[.int .u64 0, .int .u64 0, .bool false, .bool false, .bool false, .bool false, .bool false, .bool false, .bool false, .bool false, .bool false, .bool false, .bool false, .bool false, .int .u64 0, .int .u64 0] t)).there b 0 ([.int .u64 0, .int .u64 0, .bool false, .bool false, .bool false, .bool false, .bool false, .bool false, .bool false, .bool false, .bool false, .bool false, .bool false, .bool false, .int .u64 0, .int .u64 0] : List Value).length := fun _ _ _ h => there_new (by show 16 ≤ 16; omega) h
  have TA := there_else
  have TS := there_sc
  have TD := fun (W : World) (b o n : Nat) => propext (World.there_drew W b o n)
  have SZ := size_al
  have SD : ∀ W : World, W.drew.heap.size = W.heap.size := fun _ => rfl
  have SZ2 := setCells_size
  have OT := or_t
  have TO := t_or
  have FO := f_or
  have LT1 := lt_one
  have iX : Option.map (fun x => x.size) (Tryd.prog.info? 36) = some ([.int .u64 0, .int .u64 0, .bool false, .bool false, .bool false, .bool false, .bool false, .bool false, .bool false, .bool false, .bool false, .bool false, .bool false, .bool false, .int .u64 0, .int .u64 0] : List Value).length := infoL
  go_cut [12, 13] (fun s12 s13 wx => ∃ ln : Nat, s12 = .pointer (some ⟨ln, 0, none⟩) /\ s13 = .bool false /\ (w.heap.size < ln /\ ln < wx.heap.size) /\ Row wx ln [.int .u64 0, .int .u64 0, .bool false, .bool false, .bool false, .bool false, .bool false, .bool false, .bool false, .bool false, .bool false, .bool false, .bool false, .bool false, .int .u64 0, .int .u64 0] /\ wx.cell? ⟨w.heap.size, 0, none⟩ = some (.int .u64 0) /\ wx.cell? ⟨w.heap.size, 1, none⟩ = some (.bool false) /\ Own wx w.heap.size 2 /\ Below w.heap.size w wx)
  case first =>
    go_region_held3 (fun w' => w'.cell? ⟨N, 133, none⟩ = some (.int .u64 A) /\ w'.cell? ⟨w.heap.size, 0, none⟩ = some (.int .u64 0) /\ w'.cell? ⟨w.heap.size, 1, none⟩ = some (.bool false) /\ Own w' w.heap.size 2 /\ Below w.heap.size w w' /\ w.heap.size < w'.heap.size) (first | with_reducible assumption | (refine ⟨?_, ?_, ?_, ?_, ?_, ?_⟩ <;> (first | with_reducible assumption | ((repeat (with_reducible first | assumption | refine c_dr _ ?_ | refine c_d1 ?_ | refine c_al _ ?_ | (refine c_set ?_ ?_; focus (dsimp only; omega)) | (apply c_be; assumption) | (refine c_sc ?_ ?_; focus (dsimp only; omega)))); done) | ((repeat (with_reducible first | assumption | exact Below.refl _ _ | refine Below.drew ?_ | refine below_drewN ?_ _ | refine bw_alloc ?_ _ | (refine bw_set ?_ ?_ _; focus (dsimp only; omega)) | (apply bw_behind; assumption) | (refine bw_sc _ ?_ ?_; focus omega))); done) | ((repeat (first | (with_reducible first | assumption | refine o_dr _ ?_ | refine o_d1 ?_ | refine o_set ?_) | (with_reducible refine o_new ?_ ?_; (focus (simp)); (focus (simp))) | (with_reducible refine o_new ?_ ?_; (focus (simp [*]; done)); (focus (simp))) | (with_reducible refine o_new ?_ ?_; (focus (simp [*]; omega)); (focus (simp))) | (with_reducible first | refine o_sc ?_ | refine o_al _ ?_ | (apply o_be; assumption)))); done) | (simp [go_sem, *]; done) | (simp [go_sem, *]; omega)))) (first | (go_at_call 31; (with_reducible refine (Cc2.out _).mono ?_); rintro e w' ⟨rfl, n1, rfl⟩) | (go_at_call 30; (with_reducible refine (Cc3.out _ ?_).mono ?_); (focus (refine tm_bn (n := w.heap.size) ?_ hN hTm; repeat (with_reducible first | assumption | exact Below.refl _ _ | refine Below.drew ?_ | refine below_drewN ?_ _ | refine bw_alloc ?_ _ | (refine bw_set ?_ ?_ _; focus (dsimp only; omega)) | (apply bw_behind; assumption)))); rintro e wl ⟨rfl, hbl⟩; obtain ⟨hrl, hhl, ml, hsl⟩ := bl_all hbl; have htl := there_be hbl))
    all_goals
      go_wp2_with fail
      go_meet
      refine ⟨_, rfl, rfl, ⟨?_, ?_⟩, ?_, ?_, ?_, ?_, ?_⟩
      · first | omega | (simp [go_sem, *]; done) | (simp [go_sem, *]; omega)
      · first | omega | (simp [go_sem, *]; done) | (simp [go_sem, *]; omega)
      · (repeat (with_reducible first | refine k_dr _ ?_ | refine k_d1 ?_)); (first | (with_reducible refine row_al ?_; (first | (simp only [*]; done) | (simp [go_sem, *]; done))) | (refine row_chain _ _ _ _ _ _ _ _ _ _ _ _ _ _ _ _ ?_; refine th_own (o_be hbl ?_); repeat (first | (with_reducible first | assumption | refine o_dr _ ?_ | refine o_d1 ?_ | refine o_set ?_) | (with_reducible refine o_new ?_ ?_; (focus (simp)); (focus (simp))) | (with_reducible refine o_new ?_ ?_; (focus (simp [*]; done)); (focus (simp))) | (with_reducible refine o_new ?_ ?_; (focus (simp [*]; omega)); (focus (simp))) | (with_reducible first | refine o_sc ?_ | refine o_al _ ?_ | (apply o_be; assumption)))))
      · repeat (with_reducible first | assumption | refine c_dr _ ?_ | refine c_d1 ?_ | refine c_al _ ?_ | (refine c_set ?_ ?_; focus (dsimp only; omega)) | (apply c_be; assumption) | (refine c_sc ?_ ?_; focus (dsimp only; omega)))
      · repeat (with_reducible first | assumption | refine c_dr _ ?_ | refine c_d1 ?_ | refine c_al _ ?_ | (refine c_set ?_ ?_; focus (dsimp only; omega)) | (apply c_be; assumption) | (refine c_sc ?_ ?_; focus (dsimp only; omega)))
      · repeat (first | (with_reducible first | assumption | refine o_dr _ ?_ | refine o_d1 ?_ | refine o_set ?_) | (with_reducible refine o_new ?_ ?_; (focus (simp)); (focus (simp))) | (with_reducible refine o_new ?_ ?_; (focus (simp [*]; done)); (focus (simp))) | (with_reducible refine o_new ?_ ?_; (focus (simp [*]; omega)); (focus (simp))) | (with_reducible first | refine o_sc ?_ | refine o_al _ ?_ | (apply o_be; assumption)))
      · repeat (with_reducible first | assumption | exact Below.refl _ _ | refine Below.drew ?_ | refine below_drewN ?_ _ | refine bw_alloc ?_ _ | (refine bw_set ?_ ?_ _; focus (dsimp only; omega)) | (apply bw_behind; assumption) | (refine bw_sc _ ?_ ?_; focus omega))
  case rest =>
    obtain ⟨ln, rfl, rfl, ⟨hln, hln2⟩, hRow, e0, e1, oR, hB⟩ := hcut
    have hNK := un_nek hU hM hC
    have hKw := hM.herek hC
    have hTc := hT.behind hB
    have hMc := mw_be hB hM
    have hUc := un_be hB hU
    clear d0 d1 p0 a0 hTm hLn0 oneX TNX TA TS TD SZ SD SZ2 OT TO FO LT1 iX Cc1 Cc2 Cc3
    clear hRow
    have hRw := hM.hereR
    go_wp2_with (go_at_call 32; (with_reducible refine (Cc5.out _ ?_ ?_ ?_).mono ?_); (focus (repeat (with_reducible first | assumption | exact hTc | refine Tab.behind ‹_› ?_))); (focus (repeat (with_reducible first | assumption | refine mw_dr _ ?_ | refine mw_d1 ?_ | refine mw_al _ ?_ | (apply mw_be; assumption)))); (focus (repeat (with_reducible first | assumption | refine un_dr _ ?_ | refine un_d1 ?_ | refine un_al _ ?_ | (refine un_set ?_ ?_; focus (dsimp only; omega)) | (apply un_be; assumption) | (refine un_sc _ _ ?_ ?_; focus (dsimp only; omega))))); rintro e wf ⟨rfl, hMf, hUf, hXf⟩; have e0f := hXf.reads (p := ⟨w.heap.size, 0, none⟩) (by dsimp only; omega) (by dsimp only; omega) e0; have e1f := hXf.reads (p := ⟨w.heap.size, 1, none⟩) (by dsimp only; omega) (by dsimp only; omega) e1; have oX := hXf.own (by omega) (by omega) oR; have f0 := (oX 0 (by omega)).2; have f1 := (oX 1 (by omega)).2; have hzf := hXf.size; clear oX)
    refine bodyPost_ret (v := .tuple #[.agg #[.int .u64 Z, .bool S], .int .i64 Q]) (by simp (maxDischargeDepth := 4) [results, Tryd.results7, go_sem, *]) rfl ?_
    refine ⟨rfl, mw_set ?_ ?_ (mw_set ?_ ?_ hMf), un_set ?_ (un_set ?_ hUf), x2_new _ ?_ (x2_new _ ?_ ((Out2.ofb hB (Nat.le_refl _)).trans hXf))⟩
    all_goals (dsimp only; omega)
end Go.Proofs.YtkajndonefkegaaDoor

namespace Go.Proofs.YtkajndonefkegaaDoor
open Go.RowKit Words FieldMath PteMath

attribute [local irreducible] World.setCells in
theorem trans_some (z q Z Q : Int) (s S B d0 d1 d2 d3 d4 d5 d6 d7 d8 d9 d10 d11 : Bool) (x : Fd) (N R K C : Nat) (M M' : Nat -> List Ln) (Mm Mm' : Nat -> Nat -> BitVec 64) (P A V k n : Int) (G t : Bool) (c1 : ∀ W, Calls Tryd.prog 29 #[.int .u64 V] W (Quiet (.bool true) W)) (c2 : ∀ W, Calls Tryd.prog 31 #[.int .u64 V] W (Quiet (.int .u64 n) W)) (c3 : ∀ W, TlbM W N M -> Calls Tryd.prog 30 #[.pointer (some ⟨N, 0, none⟩), .int .u64 A, .int .u64 n] W (Makes (.tuple #[.agg #[.int .u64 A, .int .u64 n, .bool x.e0, .bool x.e1, .bool x.e2, .bool x.e3, .bool x.e4, .bool x.e5, .bool x.e6, .bool x.e7, .bool x.e8, .bool x.e9, .bool x.e10, .bool x.e11, .int .u64 x.f, .int .u64 x.a], .bool true]) W)) (c4 : ∀ W, UnitAt N M P A G W -> Calls Tryd.prog 33 #[.pointer (some ⟨N, 0, none⟩), .agg #[.bool x.e0, .bool x.e1, .bool x.e2, .bool x.e3, .bool x.e4, .bool x.e5, .bool x.e6, .bool x.e7, .bool x.e8, .bool x.e9, .bool x.e10, .bool x.e11, .int .u64 x.f], .int .u64 V, .int .i64 k, .bool t] W (Makes (.tuple #[.agg #[.int .u64 z, .bool s], .int .i64 q]) W)) (c6 : ∀ W, Calls Tryd.prog 34 #[.agg #[.bool x.e0, .bool x.e1, .bool x.e2, .bool x.e3, .bool x.e4, .bool x.e5, .bool x.e6, .bool x.e7, .bool x.e8, .bool x.e9, .bool x.e10, .bool x.e11, .int .u64 x.f], .int .i64 k, .bool t] W (Makes (.agg #[.bool d0, .bool d1, .bool d2, .bool d3, .bool d4, .bool d5, .bool d6, .bool d7, .bool d8, .bool d9, .bool d10, .bool d11, .int .u64 x.f]) W)) (hne : ∀ W, (binOp .neq 32 (.agg #[.bool x.e0, .bool x.e1, .bool x.e2, .bool x.e3, .bool x.e4, .bool x.e5, .bool x.e6, .bool x.e7, .bool x.e8, .bool x.e9, .bool x.e10, .bool x.e11, .int .u64 x.f]) (.agg #[.bool d0, .bool d1, .bool d2, .bool d3, .bool d4, .bool d5, .bool d6, .bool d7, .bool d8, .bool d9, .bool d10, .bool d11, .int .u64 x.f])).run Tryd.prog W = .ok (.bool B) W) (hway : (((q == 0) = false ∨ B = false) /\ Z = z /\ S = s /\ Q = q /\ Mm' = Mm /\ M' = M) ∨ ((q == 0) = true /\ B = true /\ (∀ W, Tab W -> MemW W R K C Mm -> UnitAt N M P A G W -> Calls Tryd.prog 32 #[.pointer (some ⟨N, 0, none⟩), .pointer (some ⟨R, 0, none⟩), .int .u64 V, .int .i64 k, .bool t] W (fun e w' => e = .returned (.tuple #[.agg #[.int .u64 Z, .bool S], .int .i64 Q]) /\ MemW w' R K C Mm' /\ UnitAt N M' P A G w' /\ Out2 N K W w')))) (w : World) (hC : 0 < C) (hT : Tab w) (hM : MemW w R K C Mm) (hU : UnitAt N M P A G w) : Calls Tryd.prog 7 #[.pointer (some ⟨N, 0, none⟩), .pointer (some ⟨R, 0, none⟩), .int .u64 V, .int .i64 k, .bool t] w (fun e w' => e = .returned (.tuple #[.agg #[.int .u64 Z, .bool S], .int .i64 Q]) /\ MemW w' R K C Mm' /\ UnitAt N M' P A G w' /\ Out2 N K w w') := by
  have Cc1 := hide c1
  have Cc2 := hide c2
  have Cc3 := hide c3
  have Cc4 := hide c4
  have Cc6 := hide c6
  clear c1 c2 c3 c4 c6
  have HW := hide hway
  have HNE := hide hne
  clear hway hne
  obtain ⟨SS, LB', LS, LA', LH⟩ := rules5
  have hN := hU.here
  have hLn0 : ltB N w.heap.size = true := decide_eq_true hN
  have p0 := hU.root
  have a0 := hU.asid
  have hTm := hU.tlb
  go_enter Tryd.func7, Tryd.ntmps7
  go_upto_region 3 with (first | (go_at_call 29; (with_reducible refine (Cc1.out _).mono ?_); rintro e w' ⟨rfl, n1, rfl⟩))
  have d0 : (w.alloc (.cells #[.int .u64 0, .bool false] 52)).cell? ⟨w.heap.size, 0, none⟩ = some (.int .u64 0) := by simp [go_sem]
  have d1 : (w.alloc (.cells #[.int .u64 0, .bool false] 52)).cell? ⟨w.heap.size, 1, none⟩ = some (.bool false) := by simp [go_sem]
  have oneX : ∀ v : Value, v ∈ [.int .u64 A, .int .u64 n, .bool x.e0, .bool x.e1, .bool x.e2, .bool x.e3, .bool x.e4, .bool x.e5, .bool x.e6, .bool x.e7, .bool x.e8, .bool x.e9, .bool x.e10, .bool x.e11, .int .u64 x.f, .int .u64 x.a] -> v.oneCell' = true := by simp [Value.oneCell']
  have TNX : ∀ (W : World) (t : TypeId) (b : Nat), W.heap.size = b -> (W.alloc (.cells #[.int .u64 0, .int .u64 0, .bool false, .bool false, .bool false, .bool false, .bool false, .bool false, .bool false, .bool false, .bool false, .bool false, .bool false, .bool false, .int .u64 0, .int .u64 0] t)).there b 0 ([.int .u64 A, .int .u64 n, .bool x.e0, .bool x.e1, .bool x.e2, .bool x.e3, .bool x.e4, .bool x.e5, .bool x.e6, .bool x.e7, .bool x.e8, .bool x.e9, .bool x.e10, .bool x.e11, .int .u64 x.f, .int .u64 x.a] : List Value).length := fun _ _ _ h => there_new (by show 16 ≤ 16; omega) h
  have TA := there_else
  have TS := there_sc
  have TD := fun (W : World) (b o n : Nat) => propext (World.there_drew W b o n)
  have SZ := size_al
  have SD : ∀ W : World, W.drew.heap.size = W.heap.size := fun _ => rfl
  have SZ2 := setCells_size
  have OT := or_t
  have TO := t_or
  have FO := f_or
  have LT1 := lt_one
  have iX : Option.map (fun x => x.size) (Tryd.prog.info? 36) = some ([.int .u64 A, .int .u64 n, .bool x.e0, .bool x.e1, .bool x.e2, .bool x.e3, .bool x.e4, .bool x.e5, .bool x.e6, .bool x.e7, .bool x.e8, .bool x.e9, .bool x.e10, .bool x.e11, .int .u64 x.f, .int .u64 x.a] : List Value).length := infoL
  go_cut [12, 13] (fun s12 s13 wx => ∃ ln : Nat, s12 = .pointer (some ⟨ln, 0, none⟩) /\ s13 = .bool true /\ (w.heap.size < ln /\ ln < wx.heap.size) /\ Row wx ln [.int .u64 A, .int .u64 n, .bool x.e0, .bool x.e1, .bool x.e2, .bool x.e3, .bool x.e4, .bool x.e5, .bool x.e6, .bool x.e7, .bool x.e8, .bool x.e9, .bool x.e10, .bool x.e11, .int .u64 x.f, .int .u64 x.a] /\ wx.cell? ⟨w.heap.size, 0, none⟩ = some (.int .u64 0) /\ wx.cell? ⟨w.heap.size, 1, none⟩ = some (.bool false) /\ Own wx w.heap.size 2 /\ Below w.heap.size w wx)
  case first =>
    go_region_held3 (fun w' => w'.cell? ⟨N, 133, none⟩ = some (.int .u64 A) /\ w'.cell? ⟨w.heap.size, 0, none⟩ = some (.int .u64 0) /\ w'.cell? ⟨w.heap.size, 1, none⟩ = some (.bool false) /\ Own w' w.heap.size 2 /\ Below w.heap.size w w' /\ w.heap.size < w'.heap.size) (first | with_reducible assumption | (refine ⟨?_, ?_, ?_, ?_, ?_, ?_⟩ <;> (first | with_reducible assumption | ((repeat (with_reducible first | assumption | refine c_dr _ ?_ | refine c_d1 ?_ | refine c_al _ ?_ | (refine c_set ?_ ?_; focus (dsimp only; omega)) | (apply c_be; assumption) | (refine c_sc ?_ ?_; focus (dsimp only; omega)))); done) | ((repeat (with_reducible first | assumption | exact Below.refl _ _ | refine Below.drew ?_ | refine below_drewN ?_ _ | refine bw_alloc ?_ _ | (refine bw_set ?_ ?_ _; focus (dsimp only; omega)) | (apply bw_behind; assumption) | (refine bw_sc _ ?_ ?_; focus omega))); done) | ((repeat (first | (with_reducible first | assumption | refine o_dr _ ?_ | refine o_d1 ?_ | refine o_set ?_) | (with_reducible refine o_new ?_ ?_; (focus (simp)); (focus (simp))) | (with_reducible refine o_new ?_ ?_; (focus (simp [*]; done)); (focus (simp))) | (with_reducible refine o_new ?_ ?_; (focus (simp [*]; omega)); (focus (simp))) | (with_reducible first | refine o_sc ?_ | refine o_al _ ?_ | (apply o_be; assumption)))); done) | (simp [go_sem, *]; done) | (simp [go_sem, *]; omega)))) (first | (go_at_call 31; (with_reducible refine (Cc2.out _).mono ?_); rintro e w' ⟨rfl, n1, rfl⟩) | (go_at_call 30; (with_reducible refine (Cc3.out _ ?_).mono ?_); (focus (refine tm_bn (n := w.heap.size) ?_ hN hTm; repeat (with_reducible first | assumption | exact Below.refl _ _ | refine Below.drew ?_ | refine below_drewN ?_ _ | refine bw_alloc ?_ _ | (refine bw_set ?_ ?_ _; focus (dsimp only; omega)) | (apply bw_behind; assumption)))); rintro e wl ⟨rfl, hbl⟩; obtain ⟨hrl, hhl, ml, hsl⟩ := bl_all hbl; have htl := there_be hbl))
    all_goals
      go_wp2_with fail
      go_meet
      refine ⟨_, rfl, rfl, ⟨?_, ?_⟩, ?_, ?_, ?_, ?_, ?_⟩
      · first | omega | (simp [go_sem, *]; done) | (simp [go_sem, *]; omega)
      · first | omega | (simp [go_sem, *]; done) | (simp [go_sem, *]; omega)
      · (repeat (with_reducible first | refine k_dr _ ?_ | refine k_d1 ?_)); (first | (with_reducible refine row_al ?_; (first | (simp only [*]; done) | (simp [go_sem, *]; done))) | (refine row_chain _ _ _ _ _ _ _ _ _ _ _ _ _ _ _ _ ?_; refine th_own (o_be hbl ?_); repeat (first | (with_reducible first | assumption | refine o_dr _ ?_ | refine o_d1 ?_ | refine o_set ?_) | (with_reducible refine o_new ?_ ?_; (focus (simp)); (focus (simp))) | (with_reducible refine o_new ?_ ?_; (focus (simp [*]; done)); (focus (simp))) | (with_reducible refine o_new ?_ ?_; (focus (simp [*]; omega)); (focus (simp))) | (with_reducible first | refine o_sc ?_ | refine o_al _ ?_ | (apply o_be; assumption)))))
      · repeat (with_reducible first | assumption | refine c_dr _ ?_ | refine c_d1 ?_ | refine c_al _ ?_ | (refine c_set ?_ ?_; focus (dsimp only; omega)) | (apply c_be; assumption) | (refine c_sc ?_ ?_; focus (dsimp only; omega)))
      · repeat (with_reducible first | assumption | refine c_dr _ ?_ | refine c_d1 ?_ | refine c_al _ ?_ | (refine c_set ?_ ?_; focus (dsimp only; omega)) | (apply c_be; assumption) | (refine c_sc ?_ ?_; focus (dsimp only; omega)))
      · repeat (first | (with_reducible first | assumption | refine o_dr _ ?_ | refine o_d1 ?_ | refine o_set ?_) | (with_reducible refine o_new ?_ ?_; (focus (simp)); (focus (simp))) | (with_reducible refine o_new ?_ ?_; (focus (simp [*]; done)); (focus (simp))) | (with_reducible refine o_new ?_ ?_; (focus (simp [*]; omega)); (focus (simp))) | (with_reducible first | refine o_sc ?_ | refine o_al _ ?_ | (apply o_be; assumption)))
      · repeat (with_reducible first | assumption | exact Below.refl _ _ | refine Below.drew ?_ | refine below_drewN ?_ _ | refine bw_alloc ?_ _ | (refine bw_set ?_ ?_ _; focus (dsimp only; omega)) | (apply bw_behind; assumption) | (refine bw_sc _ ?_ ?_; focus omega))
  case rest =>
    obtain ⟨ln, rfl, rfl, ⟨hln, hln2⟩, hRow, e0, e1, oR, hB⟩ := hcut
    have hNK := un_nek hU hM hC
    have hKw := hM.herek hC
    have hTc := hT.behind hB
    have hMc := mw_be hB hM
    have hUc := un_be hB hU
    clear d0 d1 p0 a0 hTm hLn0 oneX TNX TA TS TD SZ SD SZ2 OT TO FO LT1 iX
    have hLl : ltB ln wc.heap.size = true := decide_eq_true hln2
    have r2 := hRow 2 _ rfl
    have r3 := hRow 3 _ rfl
    have r4 := hRow 4 _ rfl
    have r5 := hRow 5 _ rfl
    have r6 := hRow 6 _ rfl
    have r7 := hRow 7 _ rfl
    have r8 := hRow 8 _ rfl
    have r9 := hRow 9 _ rfl
    have r10 := hRow 10 _ rfl
    have r11 := hRow 11 _ rfl
    have r12 := hRow 12 _ rfl
    have r13 := hRow 13 _ rfl
    have r14 := hRow 14 _ rfl
    clear hRow
    have hRw := hM.hereR
    go_upto_region 8 with (go_at_call 33; (with_reducible refine (Cc4.out _ ?_).mono ?_); (focus (repeat (with_reducible first | assumption | refine un_dr _ ?_ | refine un_d1 ?_ | refine un_al _ ?_ | (refine un_set ?_ ?_; focus (dsimp only; omega)) | (apply un_be; assumption) | (refine un_sc _ _ ?_ ?_; focus (dsimp only; omega))))); rintro e w6 ⟨rfl, hb6⟩; obtain ⟨hr6, hh6, m6, hs6⟩ := bl_all hb6)
    have hs6x : w6.heap.size = wc.heap.size + 1 + m6 := by
      first | exact hs6 | (rw [hs6]; simp [go_sem])
    refine wp_abs (fun W => Below w.heap.size w W /\ Own W w.heap.size 2 /\ wc.heap.size + 1 + m6 < W.heap.size /\ W.cell? ⟨wc.heap.size, 0, none⟩ = some (.bool x.e0) /\ W.cell? ⟨wc.heap.size, 1, none⟩ = some (.bool x.e1) /\ W.cell? ⟨wc.heap.size, 2, none⟩ = some (.bool x.e2) /\ W.cell? ⟨wc.heap.size, 3, none⟩ = some (.bool x.e3) /\ W.cell? ⟨wc.heap.size, 4, none⟩ = some (.bool x.e4) /\ W.cell? ⟨wc.heap.size, 5, none⟩ = some (.bool x.e5) /\ W.cell? ⟨wc.heap.size, 6, none⟩ = some (.bool x.e6) /\ W.cell? ⟨wc.heap.size, 7, none⟩ = some (.bool x.e7) /\ W.cell? ⟨wc.heap.size, 8, none⟩ = some (.bool x.e8) /\ W.cell? ⟨wc.heap.size, 9, none⟩ = some (.bool x.e9) /\ W.cell? ⟨wc.heap.size, 10, none⟩ = some (.bool x.e10) /\ W.cell? ⟨wc.heap.size, 11, none⟩ = some (.bool x.e11) /\ W.cell? ⟨wc.heap.size, 12, none⟩ = some (.int .u64 x.f) /\ W.cell? ⟨wc.heap.size + 1 + m6, 0, none⟩ = some (.int .u64 z) /\ W.cell? ⟨wc.heap.size + 1 + m6, 1, none⟩ = some (.bool s) /\ W.cell? ⟨w.heap.size, 0, none⟩ = some (.int .u64 0) /\ W.cell? ⟨w.heap.size, 1, none⟩ = some (.bool false)) ?_ ?_
    · refine ⟨?_, ?_, ?_, ?_, ?_, ?_, ?_, ?_, ?_, ?_, ?_, ?_, ?_, ?_, ?_, ?_, ?_, ?_, ?_, ?_⟩
      all_goals (first | with_reducible assumption | ((repeat (with_reducible first | assumption | refine c_dr _ ?_ | refine c_d1 ?_ | refine c_al _ ?_ | (refine c_set ?_ ?_; focus (dsimp only; omega)) | (apply c_be; assumption))); done) | ((repeat (first | (with_reducible first | assumption | refine o_dr _ ?_ | refine o_d1 ?_ | refine o_set ?_) | (with_reducible refine o_new ?_ ?_; (focus (simp)); (focus (simp))) | (with_reducible first | refine o_al _ ?_ | (apply o_be; assumption)))); done) | ((repeat (with_reducible first | assumption | exact Below.refl _ _ | refine Below.drew ?_ | refine below_drewN ?_ _ | refine bw_alloc ?_ _ | (refine bw_set ?_ ?_ _; focus (dsimp only; omega)) | (apply bw_behind; assumption))); done) | (simp [go_sem, *]; done) | (simp [go_sem, *]; omega))
    rintro w7 ⟨hB7, o7, hs7, k0, k1, k2, k3, k4, k5, k6, k7, k8, k9, k10, k11, k12, k13, k14, k15, k16⟩
    clear r2 r3 r4 r5 r6 r7 r8 r9 r10 r11 r12 r13 r14 e0 e1 oR hB hb6 hr6 hh6 hs6 hs6x hTc hMc hUc hLl
    have hpb : wc.heap.size < wc.heap.size + 1 + m6 := by omega
    have heb : w.heap.size < wc.heap.size := by omega
    generalize wc.heap.size + 1 + m6 = pb at *
    generalize wc.heap.size = eb at *
    have EN := HNE.out
    clear HNE
    rcases HW.out with ⟨hq, rfl, rfl, rfl, rfl, rfl⟩ | ⟨hq, rfl, c9⟩
    · clear HW
      rcases Bool.eq_false_or_eq_true (Q == 0) with hq0 | hq0
      · have hb : B = false := by
          rcases hq with h | h
          · rw [hq0] at h; cases h
          · exact h
        subst hb
        clear hq
        refine wp_abs (fun W => Below w.heap.size w W /\ W.cell? ⟨eb, 0, none⟩ = some (.bool x.e0) /\ W.cell? ⟨eb, 1, none⟩ = some (.bool x.e1) /\ W.cell? ⟨eb, 2, none⟩ = some (.bool x.e2) /\ W.cell? ⟨eb, 3, none⟩ = some (.bool x.e3) /\ W.cell? ⟨eb, 4, none⟩ = some (.bool x.e4) /\ W.cell? ⟨eb, 5, none⟩ = some (.bool x.e5) /\ W.cell? ⟨eb, 6, none⟩ = some (.bool x.e6) /\ W.cell? ⟨eb, 7, none⟩ = some (.bool x.e7) /\ W.cell? ⟨eb, 8, none⟩ = some (.bool x.e8) /\ W.cell? ⟨eb, 9, none⟩ = some (.bool x.e9) /\ W.cell? ⟨eb, 10, none⟩ = some (.bool x.e10) /\ W.cell? ⟨eb, 11, none⟩ = some (.bool x.e11) /\ W.cell? ⟨eb, 12, none⟩ = some (.int .u64 x.f) /\ W.cell? ⟨pb, 0, none⟩ = some (.int .u64 Z) /\ W.cell? ⟨pb, 1, none⟩ = some (.bool S) /\ W.cell? ⟨w.heap.size, 0, none⟩ = some (.int .u64 0) /\ W.cell? ⟨w.heap.size, 1, none⟩ = some (.bool false) /\ Own W (w.heap.size) 2) ?_ ?_
        · refine ⟨?_, ?_, ?_, ?_, ?_, ?_, ?_, ?_, ?_, ?_, ?_, ?_, ?_, ?_, ?_, ?_, ?_, ?_, ?_⟩
          all_goals (first | with_reducible assumption | ((repeat (with_reducible first | assumption | refine c_dr _ ?_ | refine c_d1 ?_ | refine c_al _ ?_ | (refine c_set ?_ ?_; focus (dsimp only; omega)) | (apply c_be; assumption))); done) | ((repeat (first | (with_reducible first | assumption | refine o_dr _ ?_ | refine o_d1 ?_ | refine o_set ?_) | (with_reducible refine o_new ?_ ?_; (focus (simp)); (focus (simp))) | (with_reducible first | refine o_al _ ?_ | (apply o_be; assumption)))); done) | ((repeat (with_reducible first | assumption | exact Below.refl _ _ | refine Below.drew ?_ | refine below_drewN ?_ _ | refine bw_alloc ?_ _ | (refine bw_set ?_ ?_ _; focus (dsimp only; omega)) | (apply bw_behind; assumption))); done) | (simp [go_sem, *]; omega) | (simp (maxDischargeDepth := 4) [go_sem, *]; done))
        rintro w0 ⟨hB0, c0, c1, c2, c3, c4, c5, c6, c7, c8, c9, c10, c11, c12, c13, c14, c15, c16, o0⟩
        have y0 := behind_cell0 c0
        have y1 := behind_cell0 c1
        have y2 := behind_cell0 c2
        have y3 := behind_cell0 c3
        have y4 := behind_cell0 c4
        have y5 := behind_cell0 c5
        have y6 := behind_cell0 c6
        have y7 := behind_cell0 c7
        have y8 := behind_cell0 c8
        have y9 := behind_cell0 c9
        have y10 := behind_cell0 c10
        have y11 := behind_cell0 c11
        have y12 := behind_cell0 c12
        have y13 := behind_cell0 c13
        have y14 := behind_cell0 c14
        have y15 := behind_cell0 c15
        have y16 := behind_cell0 c16
        have hsome := Behind.any w0
        clear c0 c1 c2 c3 c4 c5 c6 c7 c8 c9 c10 c11 c12 c13 c14 c15 c16
        refine wp_region_behind w0 (by kernel_rfl) (by kernel_rfl) (Below.refl _ _) ?_
        repeat (go_big_quiet_step (first | (go_at_call 34; with_reducible first | exact behind_one Cc6.out _)))
        refine wpQuiet_nil ?_
        rintro _ ⟨y, rfl⟩
        have hBy := bw_behind y.below hB0
        have po0 := o_be y.below o0
        clear o0
        have x0 := y0 y
        have x1 := y1 y
        have x2 := y2 y
        have x3 := y3 y
        have x4 := y4 y
        have x5 := y5 y
        have x6 := y6 y
        have x7 := y7 y
        have x8 := y8 y
        have x9 := y9 y
        have x10 := y10 y
        have x11 := y11 y
        have x12 := y12 y
        have x13 := y13 y
        have x14 := y14 y
        have x15 := y15 y
        have x16 := y16 y
        clear hsome y0 y1 y2 y3 y4 y5 y6 y7 y8 y9 y10 y11 y12 y13 y14 y15 y16
        obtain ⟨w1, hw1⟩ : ∃ W, W = y.world := ⟨_, rfl⟩
        rw [← hw1] at hBy x0 x1 x2 x3 x4 x5 x6 x7 x8 x9 x10 x11 x12 x13 x14 x15 x16 po0 ⊢
        clear hw1 y hB0
        have f0 := (po0 0 (by omega)).2
        have f1 := (po0 1 (by omega)).2
        have hLp : ltB pb w1.heap.size = true := decide_eq_true (World.block_lt_of_cell? w1 _ x13)
        go_wp2_with fail
        refine bodyPost_ret (v := .tuple #[.agg #[.int .u64 Z, .bool S], .int .i64 Q]) (by simp (maxDischargeDepth := 4) [results, Tryd.results7, go_sem, *]) rfl ?_
        refine ⟨rfl, mw_set ?_ ?_ (mw_set ?_ ?_ (mw_be hBy hM)), un_set ?_ (un_set ?_ (un_be hBy hU)), x2_new _ ?_ (x2_new _ ?_ (Out2.ofb hBy (Nat.le_refl _)))⟩
        all_goals (dsimp only; omega)
      · clear hq EN
        refine wp_abs (fun W => Below w.heap.size w W /\ W.cell? ⟨eb, 0, none⟩ = some (.bool x.e0) /\ W.cell? ⟨eb, 1, none⟩ = some (.bool x.e1) /\ W.cell? ⟨eb, 2, none⟩ = some (.bool x.e2) /\ W.cell? ⟨eb, 3, none⟩ = some (.bool x.e3) /\ W.cell? ⟨eb, 4, none⟩ = some (.bool x.e4) /\ W.cell? ⟨eb, 5, none⟩ = some (.bool x.e5) /\ W.cell? ⟨eb, 6, none⟩ = some (.bool x.e6) /\ W.cell? ⟨eb, 7, none⟩ = some (.bool x.e7) /\ W.cell? ⟨eb, 8, none⟩ = some (.bool x.e8) /\ W.cell? ⟨eb, 9, none⟩ = some (.bool x.e9) /\ W.cell? ⟨eb, 10, none⟩ = some (.bool x.e10) /\ W.cell? ⟨eb, 11, none⟩ = some (.bool x.e11) /\ W.cell? ⟨eb, 12, none⟩ = some (.int .u64 x.f) /\ W.cell? ⟨pb, 0, none⟩ = some (.int .u64 Z) /\ W.cell? ⟨pb, 1, none⟩ = some (.bool S) /\ W.cell? ⟨w.heap.size, 0, none⟩ = some (.int .u64 0) /\ W.cell? ⟨w.heap.size, 1, none⟩ = some (.bool false) /\ Own W (w.heap.size) 2) ?_ ?_
        · refine ⟨?_, ?_, ?_, ?_, ?_, ?_, ?_, ?_, ?_, ?_, ?_, ?_, ?_, ?_, ?_, ?_, ?_, ?_, ?_⟩
          all_goals (first | with_reducible assumption | ((repeat (with_reducible first | assumption | refine c_dr _ ?_ | refine c_d1 ?_ | refine c_al _ ?_ | (refine c_set ?_ ?_; focus (dsimp only; omega)) | (apply c_be; assumption))); done) | ((repeat (first | (with_reducible first | assumption | refine o_dr _ ?_ | refine o_d1 ?_ | refine o_set ?_) | (with_reducible refine o_new ?_ ?_; (focus (simp)); (focus (simp))) | (with_reducible first | refine o_al _ ?_ | (apply o_be; assumption)))); done) | ((repeat (with_reducible first | assumption | exact Below.refl _ _ | refine Below.drew ?_ | refine below_drewN ?_ _ | refine bw_alloc ?_ _ | (refine bw_set ?_ ?_ _; focus (dsimp only; omega)) | (apply bw_behind; assumption))); done) | (simp [go_sem, *]; omega) | (simp (maxDischargeDepth := 4) [go_sem, *]; done))
        rintro w0 ⟨hB0, c0, c1, c2, c3, c4, c5, c6, c7, c8, c9, c10, c11, c12, c13, c14, c15, c16, o0⟩
        have y0 := behind_cell0 c0
        have y1 := behind_cell0 c1
        have y2 := behind_cell0 c2
        have y3 := behind_cell0 c3
        have y4 := behind_cell0 c4
        have y5 := behind_cell0 c5
        have y6 := behind_cell0 c6
        have y7 := behind_cell0 c7
        have y8 := behind_cell0 c8
        have y9 := behind_cell0 c9
        have y10 := behind_cell0 c10
        have y11 := behind_cell0 c11
        have y12 := behind_cell0 c12
        have y13 := behind_cell0 c13
        have y14 := behind_cell0 c14
        have y15 := behind_cell0 c15
        have y16 := behind_cell0 c16
        have hsome := Behind.any w0
        clear c0 c1 c2 c3 c4 c5 c6 c7 c8 c9 c10 c11 c12 c13 c14 c15 c16
        refine wp_region_behind w0 (by kernel_rfl) (by kernel_rfl) (Below.refl _ _) ?_
        repeat (go_big_quiet_step (first | (go_at_call 34; with_reducible first | exact behind_one Cc6.out _)))
        refine wpQuiet_nil ?_
        rintro _ ⟨y, rfl⟩
        have hBy := bw_behind y.below hB0
        have po0 := o_be y.below o0
        clear o0
        have x0 := y0 y
        have x1 := y1 y
        have x2 := y2 y
        have x3 := y3 y
        have x4 := y4 y
        have x5 := y5 y
        have x6 := y6 y
        have x7 := y7 y
        have x8 := y8 y
        have x9 := y9 y
        have x10 := y10 y
        have x11 := y11 y
        have x12 := y12 y
        have x13 := y13 y
        have x14 := y14 y
        have x15 := y15 y
        have x16 := y16 y
        clear hsome y0 y1 y2 y3 y4 y5 y6 y7 y8 y9 y10 y11 y12 y13 y14 y15 y16
        obtain ⟨w1, hw1⟩ : ∃ W, W = y.world := ⟨_, rfl⟩
        rw [← hw1] at hBy x0 x1 x2 x3 x4 x5 x6 x7 x8 x9 x10 x11 x12 x13 x14 x15 x16 po0 ⊢
        clear hw1 y hB0
        have f0 := (po0 0 (by omega)).2
        have f1 := (po0 1 (by omega)).2
        have hLp : ltB pb w1.heap.size = true := decide_eq_true (World.block_lt_of_cell? w1 _ x13)
        go_wp2_with fail
        refine bodyPost_ret (v := .tuple #[.agg #[.int .u64 Z, .bool S], .int .i64 Q]) (by simp (maxDischargeDepth := 4) [results, Tryd.results7, go_sem, *]) rfl ?_
        refine ⟨rfl, mw_set ?_ ?_ (mw_set ?_ ?_ (mw_be hBy hM)), un_set ?_ (un_set ?_ (un_be hBy hU)), x2_new _ ?_ (x2_new _ ?_ (Out2.ofb hBy (Nat.le_refl _)))⟩
        all_goals (dsimp only; omega)
    · clear HW
      have Cc9 := hide c9
      clear c9
      refine wp_abs (fun W => Below w.heap.size w W /\ W.cell? ⟨eb, 0, none⟩ = some (.bool x.e0) /\ W.cell? ⟨eb, 1, none⟩ = some (.bool x.e1) /\ W.cell? ⟨eb, 2, none⟩ = some (.bool x.e2) /\ W.cell? ⟨eb, 3, none⟩ = some (.bool x.e3) /\ W.cell? ⟨eb, 4, none⟩ = some (.bool x.e4) /\ W.cell? ⟨eb, 5, none⟩ = some (.bool x.e5) /\ W.cell? ⟨eb, 6, none⟩ = some (.bool x.e6) /\ W.cell? ⟨eb, 7, none⟩ = some (.bool x.e7) /\ W.cell? ⟨eb, 8, none⟩ = some (.bool x.e8) /\ W.cell? ⟨eb, 9, none⟩ = some (.bool x.e9) /\ W.cell? ⟨eb, 10, none⟩ = some (.bool x.e10) /\ W.cell? ⟨eb, 11, none⟩ = some (.bool x.e11) /\ W.cell? ⟨eb, 12, none⟩ = some (.int .u64 x.f) /\ W.cell? ⟨pb, 0, none⟩ = some (.int .u64 z) /\ W.cell? ⟨pb, 1, none⟩ = some (.bool s) /\ W.cell? ⟨w.heap.size, 0, none⟩ = some (.int .u64 0) /\ W.cell? ⟨w.heap.size, 1, none⟩ = some (.bool false) /\ Own W (w.heap.size) 2) ?_ ?_
      · refine ⟨?_, ?_, ?_, ?_, ?_, ?_, ?_, ?_, ?_, ?_, ?_, ?_, ?_, ?_, ?_, ?_, ?_, ?_, ?_⟩
        all_goals (first | with_reducible assumption | ((repeat (with_reducible first | assumption | refine c_dr _ ?_ | refine c_d1 ?_ | refine c_al _ ?_ | (refine c_set ?_ ?_; focus (dsimp only; omega)) | (apply c_be; assumption))); done) | ((repeat (first | (with_reducible first | assumption | refine o_dr _ ?_ | refine o_d1 ?_ | refine o_set ?_) | (with_reducible refine o_new ?_ ?_; (focus (simp)); (focus (simp))) | (with_reducible first | refine o_al _ ?_ | (apply o_be; assumption)))); done) | ((repeat (with_reducible first | assumption | exact Below.refl _ _ | refine Below.drew ?_ | refine below_drewN ?_ _ | refine bw_alloc ?_ _ | (refine bw_set ?_ ?_ _; focus (dsimp only; omega)) | (apply bw_behind; assumption))); done) | (simp [go_sem, *]; omega) | (simp (maxDischargeDepth := 4) [go_sem, *]; done))
      rintro w0 ⟨hB0, c0, c1, c2, c3, c4, c5, c6, c7, c8, c9, c10, c11, c12, c13, c14, c15, c16, o0⟩
      have y0 := behind_cell0 c0
      have y1 := behind_cell0 c1
      have y2 := behind_cell0 c2
      have y3 := behind_cell0 c3
      have y4 := behind_cell0 c4
      have y5 := behind_cell0 c5
      have y6 := behind_cell0 c6
      have y7 := behind_cell0 c7
      have y8 := behind_cell0 c8
      have y9 := behind_cell0 c9
      have y10 := behind_cell0 c10
      have y11 := behind_cell0 c11
      have y12 := behind_cell0 c12
      have y13 := behind_cell0 c13
      have y14 := behind_cell0 c14
      have y15 := behind_cell0 c15
      have y16 := behind_cell0 c16
      have hsome := Behind.any w0
      clear c0 c1 c2 c3 c4 c5 c6 c7 c8 c9 c10 c11 c12 c13 c14 c15 c16
      refine wp_region_behind w0 (by kernel_rfl) (by kernel_rfl) (Below.refl _ _) ?_
      repeat (go_big_quiet_step (first | (go_at_call 34; with_reducible first | exact behind_one Cc6.out _)))
      refine wpQuiet_nil ?_
      rintro _ ⟨y, rfl⟩
      have hBy := bw_behind y.below hB0
      have po0 := o_be y.below o0
      clear o0
      have x0 := y0 y
      have x1 := y1 y
      have x2 := y2 y
      have x3 := y3 y
      have x4 := y4 y
      have x5 := y5 y
      have x6 := y6 y
      have x7 := y7 y
      have x8 := y8 y
      have x9 := y9 y
      have x10 := y10 y
      have x11 := y11 y
      have x12 := y12 y
      have x13 := y13 y
      have x14 := y14 y
      have x15 := y15 y
      have x16 := y16 y
      clear hsome y0 y1 y2 y3 y4 y5 y6 y7 y8 y9 y10 y11 y12 y13 y14 y15 y16
      obtain ⟨w1, hw1⟩ : ∃ W, W = y.world := ⟨_, rfl⟩
      rw [← hw1] at hBy x0 x1 x2 x3 x4 x5 x6 x7 x8 x9 x10 x11 x12 x13 x14 x15 x16 po0 ⊢
      clear hw1 y hB0
      have hTc := hT.behind hBy
      have hMc := mw_be hBy hM
      have hUc := un_be hBy hU
      have hLp : ltB pb w1.heap.size = true := decide_eq_true (World.block_lt_of_cell? w1 _ x13)
      go_wp2_with (go_at_call 32; (with_reducible refine (Cc9.out _ ?_ ?_ ?_).mono ?_); (focus (repeat (with_reducible first | assumption | exact hTc | refine Tab.behind ‹_› ?_))); (focus (repeat (with_reducible first | assumption | refine mw_dr _ ?_ | refine mw_d1 ?_ | refine mw_al _ ?_ | (apply mw_be; assumption)))); (focus (repeat (with_reducible first | assumption | refine un_dr _ ?_ | refine un_d1 ?_ | refine un_al _ ?_ | (refine un_set ?_ ?_; focus (dsimp only; omega)) | (apply un_be; assumption) | (refine un_sc _ _ ?_ ?_; focus (dsimp only; omega))))); rintro e wf ⟨rfl, hMf, hUf, hXf⟩; have e0f := hXf.reads (p := ⟨w.heap.size, 0, none⟩) (by dsimp only; omega) (by dsimp only; omega) x15; have e1f := hXf.reads (p := ⟨w.heap.size, 1, none⟩) (by dsimp only; omega) (by dsimp only; omega) x16; have oX := hXf.own (by omega) (by omega) po0; have f0 := (oX 0 (by omega)).2; have f1 := (oX 1 (by omega)).2; have hzf := hXf.size; clear oX)
      refine bodyPost_ret (v := .tuple #[.agg #[.int .u64 Z, .bool S], .int .i64 Q]) (by simp (maxDischargeDepth := 4) [results, Tryd.results7, go_sem, *]) rfl ?_
      refine ⟨rfl, mw_set ?_ ?_ (mw_set ?_ ?_ hMf), un_set ?_ (un_set ?_ hUf), x2_new _ ?_ (x2_new _ ?_ ((Out2.ofb hBy (Nat.le_refl _)).trans hXf))⟩
      all_goals (dsimp only; omega)
end Go.Proofs.YtkajndonefkegaaDoor

namespace Go.Proofs.YtkajndonefkegaaDoor
open Go.RowKit Words FieldMath PteMath

def fdW (x : BitVec 64) (k : Int) (t : Bool) (a : Int) : Fd := ⟨(x.getLsbD 0), (x.getLsbD 1), (x.getLsbD 2), (x.getLsbD 3), (x.getLsbD 4), (x.getLsbD 5), true, markD (x.getLsbD 7) k, (x.getLsbD 58), (x.getLsbD 59), markC (x.getLsbD 60) k t, (x.getLsbD 61), ((getB x 10 44).toNat : Int), a⟩
def ckW (x : BitVec 64) (k : Int) (t G : Bool) : Int := checkQ ((x.getLsbD 0) && ((x.getLsbD 1) || (x.getLsbD 2) || (x.getLsbD 3))) (x.getLsbD 4) (allowQ k (x.getLsbD 1) (x.getLsbD 2) (x.getLsbD 3)) (x.getLsbD 58) (x.getLsbD 59) (x.getLsbD 61) k t G
def mkW (x : BitVec 64) (k : Int) (t : Bool) : BitVec 64 := markW (x.getLsbD 0) (x.getLsbD 1) (x.getLsbD 2) (x.getLsbD 3) (x.getLsbD 4) (x.getLsbD 5) (x.getLsbD 6) (x.getLsbD 7) (x.getLsbD 58) (x.getLsbD 59) (x.getLsbD 60) (x.getLsbD 61) k t (getB x 10 44)
def sameW (x : BitVec 64) (k : Int) (t : Bool) : Bool := sameQ (x.getLsbD 6) (x.getLsbD 7) (x.getLsbD 60) k t
def accA (F v : Int) (Q : Int) : Int := if Q = 0 then IntKind.u64.wrap (IntKind.u64.wrap (F * 4096) + v % 4096) else 0
def accS (k : Int) (b9 : Bool) (Q : Int) : Bool := if Q = 0 then (k == 3) && !b9 else false
theorem accV_eq (F v k : Int) (b9 : Bool) (Q : Int) : accV F v k b9 Q = .tuple #[.agg #[.int .u64 (accA F v Q), .bool (accS k b9 Q)], .int .i64 Q] := by
  unfold accV accA accS
  by_cases h : Q = 0
  · subst h; simp
  · rw [if_neg h, if_neg h, if_neg h]
abbrev ResR := (Int × Bool × Int) × (Nat -> Nat -> BitVec 64) × (Nat -> List Ln)
def outV (o : Int × Bool × Int) : Value := .tuple #[.agg #[.int .u64 o.1, .bool o.2.1], .int .i64 o.2.2]
def putW (Mm : Nat -> Nat -> BitVec 64) (a : Nat) (x : BitVec 64) (k : Int) (t : Bool) : Nat -> Nat -> BitVec 64 := if sameW x k t = true then Mm else putM Mm (a / 4096) (a % 4096 / 8) (mkW x k t)
def findR (Mm : Nat -> Nat -> BitVec 64) (M : Nat -> List Ln) (C P : Nat) (A : Int) (v : Nat) (k : Int) (t G : Bool) : ResR := match walkM Mm C P v with
  | none => ((0, false, 1), Mm, dropM M A ((v / 4096 : Nat) : Int))
  | some (x, a) => ((accA ((getB x 10 44).toNat : Int) (v : Int) (ckW x k t G), accS k (x.getLsbD 59) (ckW x k t G), ckW x k t G), if ckW x k t G = 0 then putW Mm a x k t else Mm, if ckW x k t G = 0 then lputM M (v / 4096 % 4) (A, ((v / 4096 : Nat) : Int), fdW x k t (a : Int)) else M)
def plainR (Mm : Nat -> Nat -> BitVec 64) (C P : Nat) (v : Nat) (k : Int) (t G : Bool) : Int × Bool × Int := match walkM Mm C P v with
  | none => (0, false, 1)
  | some (x, _) => (accA ((getB x 10 44).toNat : Int) (v : Int) (ckW x k t G), accS k (x.getLsbD 59) (ckW x k t G), ckW x k t G)
def lineQ (X : Fd) (k : Int) (t G : Bool) : Int := checkQ (X.e0 && (X.e1 || X.e2 || X.e3)) X.e4 (allowQ k X.e1 X.e2 X.e3) X.e8 X.e9 X.e11 k t G
def sameX (X : Fd) (k : Int) (t : Bool) : Bool := sameQ X.e6 X.e7 X.e10 k t
def transR (Mm : Nat -> Nat -> BitVec 64) (M : Nat -> List Ln) (C P : Nat) (A : Int) (v : Nat) (k : Int) (t G : Bool) : ResR :=
  if v < 274877906944 then
    match (M (v / 4096 % 4)).find? (pageQ A ((v / 4096 : Nat) : Int)) with
    | none => findR Mm M C P A v k t G
    | some l => if lineQ l.2.2 k t G = 0 /\ sameX l.2.2 k t = false then findR Mm M C P A v k t G else ((accA l.2.2.f (v : Int) (lineQ l.2.2 k t G), accS k l.2.2.e9 (lineQ l.2.2 k t G), lineQ l.2.2 k t G), Mm, M)
  else ((0, false, 1), Mm, M)
def Leaves (N R K C : Nat) (P A : Int) (G : Bool) (r : ResR) (w : World) (e : Ending) (w' : World) : Prop := e = .returned (outV r.1) /\ MemW w' R K C r.2.1 /\ UnitAt N r.2.2 P A G w' /\ Out2 N K w w'

theorem find_any (N R K C : Nat) (hC : 0 < C) (hC2 : C ≤ 64) (M : Nat -> List Ln) (Mm : Nat -> Nat -> BitVec 64) (root v : BitVec 64) (A k : Int) (t G : Bool) (w : World) (hT : Tab w) (hM : MemW w R K C Mm) (hU : UnitAt N M (root.toNat : Int) A G w) : Calls Tryd.prog 32 #[.pointer (some ⟨N, 0, none⟩), .pointer (some ⟨R, 0, none⟩), .int .u64 (v.toNat : Int), .int .i64 k, .bool t] w (Leaves N R K C (root.toNat : Int) A G (findR Mm M C root.toNat A v.toNat k t G) w) := by
  have c1 := fun W => number_any v W
  have c2 := fun W h1 h2 => walk_any R K C hC2 Mm root v W h1 h2
  unfold findR Leaves
  cases hw : walkM Mm C root.toNat v.toNat with
  | none =>
    rw [hw] at c2
    have hc3 := fun W h => drop_any N M A ((v.toNat / 4096 : Nat) : Int) W h
    refine (find_none N R K C M _ Mm _ A _ k _ G t c1 c2 hc3 w hT hM hU).mono ?_
    rintro e w' ⟨rfl, h1, h2⟩
    exact ⟨rfl, mw_o1 h2 (un_nek hU hM hC) (un_ner hU hM) hC hM, h1, Out2.of1 h2⟩
  | some y =>
    obtain ⟨x, a⟩ := y
    rw [hw] at c2
    have c3 := fun W h => access_any (x.getLsbD 0) (x.getLsbD 1) (x.getLsbD 2) (x.getLsbD 3) (x.getLsbD 4) (x.getLsbD 5) (x.getLsbD 6) (x.getLsbD 7) (x.getLsbD 58) (x.getLsbD 59) (x.getLsbD 60) (x.getLsbD 61) t (getB x 10 44) v k (N := N) (M := M) (P := (root.toNat : Int)) (A := A) (G := G) W h
    simp only [accV_eq] at c3
    dsimp only
    obtain ⟨p, i, hp, hi, ha, hx, hg, _⟩ := walk_put Mm C root.toNat v.toNat 0#64 x a hw
    by_cases hQ : ckW x k t G = 0
    · rw [if_pos hQ, if_pos hQ]
      unfold ckW at hQ
      rw [hQ] at c3
      unfold ckW
      rw [hQ]
      have c4 := fun W h1 h2 => mark_any hp hi hC2 (x.getLsbD 0) (x.getLsbD 1) (x.getLsbD 2) (x.getLsbD 3) (x.getLsbD 4) (x.getLsbD 5) (x.getLsbD 6) (x.getLsbD 7) (x.getLsbD 58) (x.getLsbD 59) (x.getLsbD 60) (x.getLsbD 61) t (getB x 10 44) k R K Mm W h1 h2
      rw [← ha] at c4
      have c5 := fun W h => lput_any N (v.toNat / 4096 % 4) A ((v.toNat / 4096 : Nat) : Int) (fdW x k t (a : Int)) M (by omega) (by omega) W h
      refine (find_ok (x.getLsbD 0) (x.getLsbD 1) (x.getLsbD 2) (x.getLsbD 3) (x.getLsbD 4) (x.getLsbD 5) (x.getLsbD 6) (x.getLsbD 7) (x.getLsbD 58) (x.getLsbD 59) (x.getLsbD 60) (x.getLsbD 61) _ _ _ _ (fdW x k t (a : Int)) (p * 4100) N R K C M _ Mm _ _ A _ k _ G t c1 c2 c3 c4 c5 w hC hT hM hU).mono ?_
      rintro e w' ⟨rfl, h1, h2, h3⟩
      refine ⟨rfl, ?_, h2, h3⟩
      unfold putW sameW mkW
      rw [show a / 4096 = p by omega, show a % 4096 / 8 = i by omega]
      exact h1
    · rw [if_neg hQ, if_neg hQ]
      have hA : accA ((getB x 10 44).toNat : Int) (v.toNat : Int) (ckW x k t G) = 0 := if_neg hQ
      have hS : accS k (x.getLsbD 59) (ckW x k t G) = false := if_neg hQ
      unfold ckW at hQ hA hS
      rw [hA, hS] at c3
      unfold ckW
      rw [hA, hS]
      refine (find_bad (x.getLsbD 0) (x.getLsbD 1) (x.getLsbD 2) (x.getLsbD 3) (x.getLsbD 4) (x.getLsbD 5) (x.getLsbD 6) (x.getLsbD 7) (x.getLsbD 58) (x.getLsbD 59) (x.getLsbD 60) (x.getLsbD 61) _ _ _ N R K C M Mm _ A _ k _ G t c1 c2 c3 w (by simpa using hQ) hT hM hU).mono ?_
      rintro e w' ⟨rfl, hb⟩
      exact ⟨rfl, mw_be hb hM, un_be hb hU, Out2.ofb hb (Nat.le_refl _)⟩

theorem eqi_mark2 (b0 b1 b2 b3 b4 b5 b6 b7 b8 b9 b10 b11 D X : Bool) (N : Int) : ∀ W, (Op.equalIn 10000 32 (.agg #[.bool b0, .bool b1, .bool b2, .bool b3, .bool b4, .bool b5, .bool b6, .bool b7, .bool b8, .bool b9, .bool b10, .bool b11, .int .u64 N]) (.agg #[.bool b0, .bool b1, .bool b2, .bool b3, .bool b4, .bool b5, .bool true, .bool D, .bool b8, .bool b9, .bool X, .bool b11, .int .u64 N])).run Tryd.prog W = .ok (b6 && (D == b7) && (X == b10)) W := by
  intro W
  cases b6
  · simp [go_sem]
  · cases b7 <;> cases D
    all_goals first | (cases b10 <;> cases X <;> simp [go_sem]; done) | simp [go_sem]
theorem ne_mark2 (b0 b1 b2 b3 b4 b5 b6 b7 b8 b9 b10 b11 D X : Bool) (N : Int) : ∀ W, (binOp .neq 32 (.agg #[.bool b0, .bool b1, .bool b2, .bool b3, .bool b4, .bool b5, .bool b6, .bool b7, .bool b8, .bool b9, .bool b10, .bool b11, .int .u64 N]) (.agg #[.bool b0, .bool b1, .bool b2, .bool b3, .bool b4, .bool b5, .bool true, .bool D, .bool b8, .bool b9, .bool X, .bool b11, .int .u64 N])).run Tryd.prog W = .ok (.bool (!(b6 && (D == b7) && (X == b10)))) W := fun W => by
  rw [run_neq_struct, eqi_mark2]
  rfl

theorem trans_may (V k : Int) (t : Bool) (N R : Nat) (c1 : ∀ W, Calls Tryd.prog 29 #[.int .u64 V] W (Quiet (.bool false) W)) (w : World) : Calls Tryd.prog 7 #[.pointer (some ⟨N, 0, none⟩), .pointer (some ⟨R, 0, none⟩), .int .u64 V, .int .i64 k, .bool t] w (Makes (.tuple #[.agg #[.int .u64 0, .bool false], .int .i64 1]) w) := by
  have Cc1 := hide c1
  clear c1
  obtain ⟨SS, LB', LS, LA', LH⟩ := rules5
  go_enter Tryd.func7, Tryd.ntmps7
  go_wp2_with (go_at_call 29; (with_reducible refine (Cc1.out _).mono ?_); rintro e w' ⟨rfl, n1, rfl⟩)
  refine bodyPost_ret (v := .tuple #[.agg #[.int .u64 0, .bool false], .int .i64 1]) (by simp (maxDischargeDepth := 4) [results, Tryd.results7, go_sem, *]) rfl ?_
  refine ⟨rfl, ?_⟩
  repeat (with_reducible first | assumption | exact Below.refl _ _ | refine Below.drew ?_ | refine below_drewN ?_ _ | refine bw_alloc ?_ _ | (refine bw_set ?_ ?_ _; focus (dsimp only; omega)) | (apply bw_behind; assumption))
theorem page_eq {A n : Int} {L : List Ln} {l : Ln} (h : L.find? (pageQ A n) = some l) : l.1 = A /\ l.2.1 = n := by
  have := List.find?_some h
  unfold pageQ at this
  simp only [Bool.and_eq_true, beq_iff_eq] at this
  exact this
theorem trans_any (N R K C : Nat) (hC : 0 < C) (hC2 : C ≤ 64) (M : Nat -> List Ln) (hW : ∀ q, q < 4 -> ∀ l ∈ M q, ∃ F : BitVec 64, l.2.2.f = (F.toNat : Int)) (Mm : Nat -> Nat -> BitVec 64) (root v : BitVec 64) (A k : Int) (t G : Bool) (w : World) (hT : Tab w) (hM : MemW w R K C Mm) (hU : UnitAt N M (root.toNat : Int) A G w) : Calls Tryd.prog 7 #[.pointer (some ⟨N, 0, none⟩), .pointer (some ⟨R, 0, none⟩), .int .u64 (v.toNat : Int), .int .i64 k, .bool t] w (Leaves N R K C (root.toNat : Int) A G (transR Mm M C root.toNat A v.toNat k t G) w) := by
  have c1 := fun W => may_any v W
  have c2 := fun W => number_any v W
  have c3 := fun W h => look_any N M A ((v.toNat / 4096 : Nat) : Int) (v.toNat / 4096 % 4) (by omega) (by omega) W h
  have c5 := fun W h1 h2 h3 => find_any N R K C hC hC2 M Mm root v A k t G W h1 h2 h3
  unfold transR
  by_cases hv : v.toNat < 274877906944
  · rw [if_pos hv]
    rw [decide_eq_true (by omega : (v.toNat : Int) < 274877906944)] at c1
    cases hl : (M (v.toNat / 4096 % 4)).find? (pageQ A ((v.toNat / 4096 : Nat) : Int)) with
    | none =>
      rw [hl] at c3
      dsimp only
      exact trans_none _ _ _ N R K C M _ Mm _ _ A _ k _ G t c1 c2 c3 c5 w hC hT hM hU
    | some l =>
      rw [hl] at c3
      obtain ⟨e1, e2⟩ := page_eq hl
      have hin := hW (v.toNat / 4096 % 4) (by omega) l (List.mem_of_find?_eq_some hl)
      obtain ⟨la, ln, X⟩ := l
      dsimp only at e1 e2 hin
      subst e1 e2
      obtain ⟨F, hF⟩ := hin
      have c4 := fun W h => access_any X.e0 X.e1 X.e2 X.e3 X.e4 X.e5 X.e6 X.e7 X.e8 X.e9 X.e10 X.e11 t F v k (N := N) (M := M) (P := (root.toNat : Int)) (A := la) (G := G) W h
      simp only [accV_eq, ← hF] at c4
      have c6 := fun W => marked_any X.e0 X.e1 X.e2 X.e3 X.e4 X.e5 X.e6 X.e7 X.e8 X.e9 X.e10 X.e11 t X.f k W
      have ne := ne_mark2 X.e0 X.e1 X.e2 X.e3 X.e4 X.e5 X.e6 X.e7 X.e8 X.e9 X.e10 X.e11 (markD X.e7 k) (markC X.e10 k t) X.f
      dsimp only
      by_cases hQ : lineQ X k t G = 0 /\ sameX X k t = false
      · rw [if_pos hQ]
        obtain ⟨h1, h2⟩ := hQ
        rw [show (X.e6 && (markD X.e7 k == X.e7) && (markC X.e10 k t == X.e10)) = false from h2] at ne
        unfold lineQ at h1
        rw [h1] at c4
        exact trans_some _ _ _ _ _ _ _ _ _ _ _ _ _ _ _ _ _ _ _ X N R K C M _ Mm _ _ la _ k _ G t c1 c2 c3 c4 c6 ne (Or.inr ⟨rfl, rfl, c5⟩) w hC hT hM hU
      · rw [if_neg hQ]
        refine trans_some _ _ _ _ _ _ _ _ _ _ _ _ _ _ _ _ _ _ _ X N R K C M _ Mm _ _ la _ k _ G t c1 c2 c3 c4 c6 ne (Or.inl ⟨?_, rfl, rfl, rfl, rfl, rfl⟩) w hC hT hM hU
        by_cases h1 : lineQ X k t G = 0
        · right
          have h2 : sameX X k t = true := by
            cases h : sameX X k t with
            | true => rfl
            | false => exact absurd ⟨h1, h⟩ hQ
          show (!(sameX X k t)) = false
          rw [h2]; rfl
        · left
          exact beq_eq_false_iff_ne.2 h1
  · rw [if_neg hv]
    rw [decide_eq_false (by omega : ¬ (v.toNat : Int) < 274877906944)] at c1
    refine (trans_may _ k t N R c1 w).mono ?_
    rintro e w' ⟨rfl, hb⟩
    exact ⟨rfl, mw_be hb hM, un_be hb hU, Out2.ofb hb (Nat.le_refl _)⟩
end Go.Proofs.YtkajndonefkegaaDoor

namespace Go.Proofs.YtkajndonefkegaaDoor
open Go.RowKit Words FieldMath PteMath

theorem plain_none  (N R K C : Nat) (M : Nat -> List Ln) (Mm : Nat -> Nat -> BitVec 64) (P A V k : Int) (G t : Bool) (c2 : ∀ W, Tab W -> MemW W R K C Mm -> Calls Tryd.prog 41 #[.pointer (some ⟨R, 0, none⟩), .int .u64 P, .int .u64 V] W (Makes (.tuple #[.agg #[.bool false, .bool false, .bool false, .bool false, .bool false, .bool false, .bool false, .bool false, .bool false, .bool false, .bool false, .bool false, .int .u64 0, .int .u64 0], .int .i64 1]) W)) (w : World) (hT : Tab w) (hM : MemW w R K C Mm) (hU : UnitAt N M P A G w) : Calls Tryd.prog 9 #[.pointer (some ⟨N, 0, none⟩), .pointer (some ⟨R, 0, none⟩), .int .u64 V, .int .i64 k, .bool t] w (Makes (.tuple #[.agg #[.int .u64 0, .bool false], .int .i64 1]) w) := by
  have Cc2 := hide c2
  clear c2
  obtain ⟨SS, LB', LS, LA', LH⟩ := rules5
  have hN := hU.here
  have hLn0 : ltB N w.heap.size = true := decide_eq_true hN
  have p0 := hU.root
  go_enter Tryd.func9, Tryd.ntmps9
  go_wp2_with (first | (go_at_call 41; (with_reducible refine (Cc2.out _ ?_ ?_).mono ?_); (refine hT.behind ?_; repeat (with_reducible first | assumption | exact Below.refl _ _ | refine Below.drew ?_ | refine below_drewN ?_ _ | refine bw_alloc ?_ _ | (refine bw_set ?_ ?_ _; focus (dsimp only; omega)) | (apply bw_behind; assumption))); (focus (repeat (with_reducible first | assumption | refine mw_dr _ ?_ | refine mw_d1 ?_ | refine mw_al _ ?_ | (apply mw_be; assumption)))); rintro e w2 ⟨rfl, hb2⟩; obtain ⟨hr2, hh2, m2, hs2⟩ := bl_all hb2))
  refine bodyPost_ret (v := .tuple #[.agg #[.int .u64 0, .bool false], .int .i64 1]) (by simp (maxDischargeDepth := 4) [results, Tryd.results9, go_sem, *]) rfl ?_
  refine ⟨rfl, ?_⟩
  repeat (with_reducible first | assumption | exact Below.refl _ _ | refine Below.drew ?_ | refine below_drewN ?_ _ | refine bw_alloc ?_ _ | (refine bw_set ?_ ?_ _; focus (dsimp only; omega)) | (apply bw_behind; assumption))

theorem plain_some (b0 b1 b2 b3 b4 b5 b6 b7 b8 b9 b10 b11 : Bool) (F X : Int) (s : Bool) (z q : Int) (N R K C : Nat) (M : Nat -> List Ln) (Mm : Nat -> Nat -> BitVec 64) (P A V k : Int) (G t : Bool) (c2 : ∀ W, Tab W -> MemW W R K C Mm -> Calls Tryd.prog 41 #[.pointer (some ⟨R, 0, none⟩), .int .u64 P, .int .u64 V] W (Makes (.tuple #[.agg #[.bool b0, .bool b1, .bool b2, .bool b3, .bool b4, .bool b5, .bool b6, .bool b7, .bool b8, .bool b9, .bool b10, .bool b11, .int .u64 F, .int .u64 X], .int .i64 0]) W)) (c3 : ∀ W, UnitAt N M P A G W -> Calls Tryd.prog 33 #[.pointer (some ⟨N, 0, none⟩), .agg #[.bool b0, .bool b1, .bool b2, .bool b3, .bool b4, .bool b5, .bool b6, .bool b7, .bool b8, .bool b9, .bool b10, .bool b11, .int .u64 F], .int .u64 V, .int .i64 k, .bool t] W (Makes (.tuple #[.agg #[.int .u64 z, .bool s], .int .i64 q]) W)) (w : World) (hT : Tab w) (hM : MemW w R K C Mm) (hU : UnitAt N M P A G w) : Calls Tryd.prog 9 #[.pointer (some ⟨N, 0, none⟩), .pointer (some ⟨R, 0, none⟩), .int .u64 V, .int .i64 k, .bool t] w (Makes (.tuple #[.agg #[.int .u64 z, .bool s], .int .i64 q]) w) := by
  have Cc2 := hide c2
  have Cc3 := hide c3
  clear c2 c3
  obtain ⟨SS, LB', LS, LA', LH⟩ := rules5
  have hN := hU.here
  have hLn0 : ltB N w.heap.size = true := decide_eq_true hN
  have p0 := hU.root
  go_enter Tryd.func9, Tryd.ntmps9
  go_wp2_with (first | (go_at_call 41; (with_reducible refine (Cc2.out _ ?_ ?_).mono ?_); (refine hT.behind ?_; repeat (with_reducible first | assumption | exact Below.refl _ _ | refine Below.drew ?_ | refine below_drewN ?_ _ | refine bw_alloc ?_ _ | (refine bw_set ?_ ?_ _; focus (dsimp only; omega)) | (apply bw_behind; assumption))); (focus (repeat (with_reducible first | assumption | refine mw_dr _ ?_ | refine mw_d1 ?_ | refine mw_al _ ?_ | (apply mw_be; assumption)))); rintro e w2 ⟨rfl, hb2⟩; obtain ⟨hr2, hh2, m2, hs2⟩ := bl_all hb2) | (go_at_call 33; (with_reducible refine (Cc3.out _ ?_).mono ?_); (focus (repeat (with_reducible first | assumption | refine un_dr _ ?_ | refine un_d1 ?_ | refine un_al _ ?_ | (refine un_set ?_ ?_; focus (dsimp only; omega)) | (apply un_be; assumption) | (refine un_sc _ _ ?_ ?_; focus (dsimp only; omega))))); rintro e w6 ⟨rfl, hb6⟩; obtain ⟨hr6, hh6, m6, hs6⟩ := bl_all hb6))
  refine bodyPost_ret (v := .tuple #[.agg #[.int .u64 z, .bool s], .int .i64 q]) (by simp (maxDischargeDepth := 4) [results, Tryd.results9, go_sem, *]) rfl ?_
  refine ⟨rfl, ?_⟩
  repeat (with_reducible first | assumption | exact Below.refl _ _ | refine Below.drew ?_ | refine below_drewN ?_ _ | refine bw_alloc ?_ _ | (refine bw_set ?_ ?_ _; focus (dsimp only; omega)) | (apply bw_behind; assumption))

theorem plain_any (N R K C : Nat) (hC2 : C ≤ 64) (M : Nat -> List Ln) (Mm : Nat -> Nat -> BitVec 64) (root v : BitVec 64) (A k : Int) (t G : Bool) (w : World) (hT : Tab w) (hM : MemW w R K C Mm) (hU : UnitAt N M (root.toNat : Int) A G w) : Calls Tryd.prog 9 #[.pointer (some ⟨N, 0, none⟩), .pointer (some ⟨R, 0, none⟩), .int .u64 (v.toNat : Int), .int .i64 k, .bool t] w (Makes (outV (plainR Mm C root.toNat v.toNat k t G)) w) := by
  have c2 := fun W h1 h2 => walk_any R K C hC2 Mm root v W h1 h2
  unfold plainR
  cases hw : walkM Mm C root.toNat v.toNat with
  | none =>
    rw [hw] at c2
    exact plain_none N R K C M Mm _ A _ k G t c2 w hT hM hU
  | some y =>
    obtain ⟨x, a⟩ := y
    rw [hw] at c2
    have c3 := fun W h => access_any (x.getLsbD 0) (x.getLsbD 1) (x.getLsbD 2) (x.getLsbD 3) (x.getLsbD 4) (x.getLsbD 5) (x.getLsbD 6) (x.getLsbD 7) (x.getLsbD 58) (x.getLsbD 59) (x.getLsbD 60) (x.getLsbD 61) t (getB x 10 44) v k (N := N) (M := M) (P := (root.toNat : Int)) (A := A) (G := G) W h
    simp only [accV_eq] at c3
    exact plain_some (x.getLsbD 0) (x.getLsbD 1) (x.getLsbD 2) (x.getLsbD 3) (x.getLsbD 4) (x.getLsbD 5) (x.getLsbD 6) (x.getLsbD 7) (x.getLsbD 58) (x.getLsbD 59) (x.getLsbD 60) (x.getLsbD 61) _ _ _ _ _ N R K C M Mm _ A _ k G t c2 c3 w hT hM hU
end Go.Proofs.YtkajndonefkegaaDoor
