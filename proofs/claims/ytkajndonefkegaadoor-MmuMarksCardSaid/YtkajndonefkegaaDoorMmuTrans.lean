/-
  What Translate answers, turns in memory, and keeps, over letters.
-/
import Derived.Test.YtkajndonefkegaaDoorMmuFind
import Derived.Test.YtkajndonefkegaaDoorMtb7
import Derived.Laws.NewBlocks
namespace Go.Proofs.YtkajndonefkegaaDoor
open Go.RowKit Words FieldMath PteMath

theorem row_al {W : World} {cs : Array Value} {t : TypeId} {b : Nat} (h : W.heap.size = b) : Row (W.alloc (.cells cs t)) b cs.toList := by
  intro i v hv
  rw [World.cell?_alloc_at cs t b i h.symm, ← Array.getElem?_toList]
  exact hv
theorem row_chain {W : World} {b : Nat} (v0 v1 v2 v3 v4 v5 v6 v7 v8 v9 v10 v11 v12 v13 v14 v15 : Value) (h : W.there b 0 16) : Row ((((((((((((((((W.setCell ⟨b, 0, none⟩ v0).setCell ⟨b, 1, none⟩ v1).setCell ⟨b, 2, none⟩ v2).setCell ⟨b, 3, none⟩ v3).setCell ⟨b, 4, none⟩ v4).setCell ⟨b, 5, none⟩ v5).setCell ⟨b, 6, none⟩ v6).setCell ⟨b, 7, none⟩ v7).setCell ⟨b, 8, none⟩ v8).setCell ⟨b, 9, none⟩ v9).setCell ⟨b, 10, none⟩ v10).setCell ⟨b, 11, none⟩ v11).setCell ⟨b, 12, none⟩ v12).setCell ⟨b, 13, none⟩ v13).setCell ⟨b, 14, none⟩ v14).setCell ⟨b, 15, none⟩ v15) b [v0, v1, v2, v3, v4, v5, v6, v7, v8, v9, v10, v11, v12, v13, v14, v15] := row_sc (l := [v0, v1, v2, v3, v4, v5, v6, v7, v8, v9, v10, v11, v12, v13, v14, v15]) h
attribute [local irreducible] World.setCells in
set_option maxRecDepth 100000 in
set_option maxHeartbeats 8000000 in
theorem trans_none (Z Q : Int) (S : Bool) (N R K C : Nat) (M M' : Nat → List Ln) (Mm Mm' : Nat → Nat → BitVec 64) (P A V k n : Int) (G t : Bool) (c1 : ∀ W, Calls Tryd.prog 29 #[.int .u64 V] W (Quiet (.bool true) W)) (c2 : ∀ W, Calls Tryd.prog 31 #[.int .u64 V] W (Quiet (.int .u64 n) W)) (c3 : ∀ W, TlbM W N M → Calls Tryd.prog 30 #[.pointer (some ⟨N, 0, none⟩), .int .u64 A, .int .u64 n] W (Makes (.tuple #[.agg #[.int .u64 0, .int .u64 0, .bool false, .bool false, .bool false, .bool false, .bool false, .bool false, .bool false, .bool false, .bool false, .bool false, .bool false, .bool false, .int .u64 0, .int .u64 0], .bool false]) W)) (c5 : ∀ W, Tab W → MemW W R K C Mm → UnitAt N M P A G W → Calls Tryd.prog 32 #[.pointer (some ⟨N, 0, none⟩), .pointer (some ⟨R, 0, none⟩), .int .u64 V, .int .i64 k, .bool t] W (fun e w' => e = .returned (.tuple #[.agg #[.int .u64 Z, .bool S], .int .i64 Q]) ∧ MemW w' R K C Mm' ∧ UnitAt N M' P A G w' ∧ Out2 N K W w')) (w : World) (hC : 0 < C) (hT : Tab w) (hM : MemW w R K C Mm) (hU : UnitAt N M P A G w) : Calls Tryd.prog 7 #[.pointer (some ⟨N, 0, none⟩), .pointer (some ⟨R, 0, none⟩), .int .u64 V, .int .i64 k, .bool t] w (fun e w' => e = .returned (.tuple #[.agg #[.int .u64 Z, .bool S], .int .i64 Q]) ∧ MemW w' R K C Mm' ∧ UnitAt N M' P A G w' ∧ Out2 N K w w') := by
  have Cc1 := hide c1
  have Cc2 := hide c2
  have Cc3 := hide c3
  have Cc5 := hide c5
  clear c1 c2 c3 c5
  have SS := cell_same
  have LB' := ltB_add
  have LS := ltB_self
  have LA' := alloc_reads
  have LH := alloc_holds
  have hN := hU.here
  have hLn0 : ltB N w.heap.size = true := decide_eq_true hN
  have p0 := hU.root
  have a0 := hU.asid
  have hTm := hU.tlb
  go_enter Tryd.func7, Tryd.ntmps7
  go_upto_region 3 with (first | (go_at_call 29; (with_reducible first | refine (Cc1.out _).mono ?_); rintro e w' ⟨rfl, n1, rfl⟩))
  have d0 : (w.alloc (.cells #[.int .u64 0, .bool false] 52)).cell? ⟨w.heap.size, 0, none⟩ = some (.int .u64 0) := by simp [go_sem]
  have d1 : (w.alloc (.cells #[.int .u64 0, .bool false] 52)).cell? ⟨w.heap.size, 1, none⟩ = some (.bool false) := by simp [go_sem]
  have oneX : ∀ v : Value, v ∈ [.int .u64 0, .int .u64 0, .bool false, .bool false, .bool false, .bool false, .bool false, .bool false, .bool false, .bool false, .bool false, .bool false, .bool false, .bool false, .int .u64 0, .int .u64 0] → v.oneCell' = true := by simp [Value.oneCell']
  have TNX : ∀ (W : World) (t : TypeId) (b : Nat), W.heap.size = b → (W.alloc (.cells #[.int .u64 0, .int .u64 0, .bool false, .bool false, .bool false, .bool false, .bool false, .bool false, .bool false, .bool false, .bool false, .bool false, .bool false, .bool false, .int .u64 0, .int .u64 0] t)).there b 0 ([.int .u64 0, .int .u64 0, .bool false, .bool false, .bool false, .bool false, .bool false, .bool false, .bool false, .bool false, .bool false, .bool false, .bool false, .bool false, .int .u64 0, .int .u64 0] : List Value).length := fun _ _ _ h => there_new (by show 16 ≤ 16; omega) h
  have TA := there_else
  have TS := there_sc
  have TD := fun (W : World) (b o n : Nat) => propext (World.there_drew W b o n)
  have SZ := size_al
  have SD : ∀ W : World, W.drew.heap.size = W.heap.size := fun _ => rfl
  have SZ2 := setCells_size
  have OT := or_t
  have TO := t_or
  have FO := f_or
  have LT1 := lt_one
  have iX : Option.map (fun x => x.size) (Tryd.prog.info? 36) = some ([.int .u64 0, .int .u64 0, .bool false, .bool false, .bool false, .bool false, .bool false, .bool false, .bool false, .bool false, .bool false, .bool false, .bool false, .bool false, .int .u64 0, .int .u64 0] : List Value).length := infoL
  go_cut [12, 13] (fun s12 s13 wx => ∃ ln : Nat, s12 = .pointer (some ⟨ln, 0, none⟩) ∧ s13 = .bool false ∧ (w.heap.size < ln ∧ ln < wx.heap.size) ∧ Row wx ln [.int .u64 0, .int .u64 0, .bool false, .bool false, .bool false, .bool false, .bool false, .bool false, .bool false, .bool false, .bool false, .bool false, .bool false, .bool false, .int .u64 0, .int .u64 0] ∧ wx.cell? ⟨w.heap.size, 0, none⟩ = some (.int .u64 0) ∧ wx.cell? ⟨w.heap.size, 1, none⟩ = some (.bool false) ∧ Own wx w.heap.size 2 ∧ Below w.heap.size w wx)
  case first =>
    go_region_held3 (fun w' => w'.cell? ⟨N, 133, none⟩ = some (.int .u64 A) ∧ w'.cell? ⟨w.heap.size, 0, none⟩ = some (.int .u64 0) ∧ w'.cell? ⟨w.heap.size, 1, none⟩ = some (.bool false) ∧ Own w' w.heap.size 2 ∧ Below w.heap.size w w' ∧ w.heap.size < w'.heap.size) (first | with_reducible assumption | (refine ⟨?_, ?_, ?_, ?_, ?_, ?_⟩ <;> (first | with_reducible assumption | ((repeat (first | with_reducible assumption | with_reducible refine c_dr _ ?_ | with_reducible refine c_d1 ?_ | with_reducible refine c_al _ ?_ | (with_reducible refine c_set ?_ ?_; focus (dsimp only; omega)) | (with_reducible apply c_be; with_reducible assumption) | (with_reducible refine c_sc ?_ ?_; focus (dsimp only; omega)))); done) | ((repeat (first | with_reducible assumption | with_reducible exact Below.refl _ _ | with_reducible refine Below.drew ?_ | with_reducible refine below_drewN ?_ _ | with_reducible refine bw_alloc ?_ _ | (with_reducible refine bw_set ?_ ?_ _; focus (dsimp only; omega)) | (with_reducible apply bw_behind; with_reducible assumption) | (with_reducible refine bw_sc _ ?_ ?_; focus omega))); done) | ((repeat (first | with_reducible assumption | with_reducible refine o_dr _ ?_ | with_reducible refine o_d1 ?_ | with_reducible refine o_set ?_ | (with_reducible refine o_new ?_ ?_; (focus (simp)); (focus (simp))) | (with_reducible refine o_new ?_ ?_; (focus (simp [*]; done)); (focus (simp))) | (with_reducible refine o_new ?_ ?_; (focus (simp [*]; omega)); (focus (simp))) | with_reducible refine o_sc ?_ | with_reducible refine o_al _ ?_ | (with_reducible apply o_be; with_reducible assumption))); done) | (simp [go_sem, *]; done) | (simp [go_sem, *]; omega)))) (first | (go_at_call 31; (with_reducible first | refine (Cc2.out _).mono ?_); rintro e w' ⟨rfl, n1, rfl⟩) | (go_at_call 30; (with_reducible refine (Cc3.out _ ?_).mono ?_); (focus (refine tm_bn (n := w.heap.size) ?_ hN hTm; repeat (first | with_reducible assumption | with_reducible exact Below.refl _ _ | with_reducible refine Below.drew ?_ | with_reducible refine below_drewN ?_ _ | with_reducible refine bw_alloc ?_ _ | (with_reducible refine bw_set ?_ ?_ _; focus (dsimp only; omega)) | (with_reducible apply bw_behind; with_reducible assumption)))); rintro e wl ⟨rfl, hbl⟩; have hrl := below_reads hbl; have hhl := below_holds hbl; obtain ⟨ml, hsl⟩ := below_grew hbl; have htl := there_be hbl))
    all_goals
      go_wp2_with fail
      go_meet
      refine ⟨_, rfl, rfl, ⟨?_, ?_⟩, ?_, ?_, ?_, ?_, ?_⟩
      · first | omega | (simp [go_sem, *]; done) | (simp [go_sem, *]; omega)
      · first | omega | (simp [go_sem, *]; done) | (simp [go_sem, *]; omega)
      · (repeat (first | with_reducible refine k_dr _ ?_ | with_reducible refine k_d1 ?_)); (first | (with_reducible refine row_al ?_; (first | (simp only [*]; done) | (simp [go_sem, *]; done))) | (refine row_chain _ _ _ _ _ _ _ _ _ _ _ _ _ _ _ _ ?_; refine th_own (o_be hbl ?_); repeat (first | with_reducible assumption | with_reducible refine o_dr _ ?_ | with_reducible refine o_d1 ?_ | with_reducible refine o_set ?_ | (with_reducible refine o_new ?_ ?_; (focus (simp)); (focus (simp))) | (with_reducible refine o_new ?_ ?_; (focus (simp [*]; done)); (focus (simp))) | (with_reducible refine o_new ?_ ?_; (focus (simp [*]; omega)); (focus (simp))) | with_reducible refine o_sc ?_ | with_reducible refine o_al _ ?_ | (with_reducible apply o_be; with_reducible assumption))))
      · repeat (first | with_reducible assumption | with_reducible refine c_dr _ ?_ | with_reducible refine c_d1 ?_ | with_reducible refine c_al _ ?_ | (with_reducible refine c_set ?_ ?_; focus (dsimp only; omega)) | (with_reducible apply c_be; with_reducible assumption) | (with_reducible refine c_sc ?_ ?_; focus (dsimp only; omega)))
      · repeat (first | with_reducible assumption | with_reducible refine c_dr _ ?_ | with_reducible refine c_d1 ?_ | with_reducible refine c_al _ ?_ | (with_reducible refine c_set ?_ ?_; focus (dsimp only; omega)) | (with_reducible apply c_be; with_reducible assumption) | (with_reducible refine c_sc ?_ ?_; focus (dsimp only; omega)))
      · repeat (first | with_reducible assumption | with_reducible refine o_dr _ ?_ | with_reducible refine o_d1 ?_ | with_reducible refine o_set ?_ | (with_reducible refine o_new ?_ ?_; (focus (simp)); (focus (simp))) | (with_reducible refine o_new ?_ ?_; (focus (simp [*]; done)); (focus (simp))) | (with_reducible refine o_new ?_ ?_; (focus (simp [*]; omega)); (focus (simp))) | with_reducible refine o_sc ?_ | with_reducible refine o_al _ ?_ | (with_reducible apply o_be; with_reducible assumption))
      · repeat (first | with_reducible assumption | with_reducible exact Below.refl _ _ | with_reducible refine Below.drew ?_ | with_reducible refine below_drewN ?_ _ | with_reducible refine bw_alloc ?_ _ | (with_reducible refine bw_set ?_ ?_ _; focus (dsimp only; omega)) | (with_reducible apply bw_behind; with_reducible assumption) | (with_reducible refine bw_sc _ ?_ ?_; focus omega))
  case rest =>
    obtain ⟨ln, rfl, rfl, ⟨hln, hln2⟩, hRow, e0, e1, oR, hB⟩ := hcut
    have hNK := un_nek hU hM hC
    have hKw := hM.herek hC
    have hTc := hT.behind hB
    have hMc := mw_be hB hM
    have hUc := un_be hB hU
    clear d0 d1 p0 a0 hTm hLn0 oneX TNX TA TS TD SZ SD SZ2 OT TO FO LT1 iX Cc1 Cc2 Cc3
    clear hRow
    have hRw := hM.hereR
    go_wp2_with (go_at_call 32; (with_reducible refine (Cc5.out _ ?_ ?_ ?_).mono ?_); (focus (repeat (first | with_reducible assumption | with_reducible exact hTc | with_reducible refine Tab.behind ‹_› ?_))); (focus (repeat (first | with_reducible assumption | with_reducible refine mw_dr _ ?_ | with_reducible refine mw_d1 ?_ | with_reducible refine mw_al _ ?_ | (with_reducible apply mw_be; with_reducible assumption)))); (focus (repeat (first | with_reducible assumption | with_reducible refine un_dr _ ?_ | with_reducible refine un_d1 ?_ | with_reducible refine un_al _ ?_ | (with_reducible refine un_set ?_ ?_; focus (dsimp only; omega)) | (with_reducible apply un_be; with_reducible assumption) | (with_reducible refine un_sc _ _ ?_ ?_; focus (dsimp only; omega))))); rintro e wf ⟨rfl, hMf, hUf, hXf⟩; have e0f := hXf.reads (p := ⟨w.heap.size, 0, none⟩) (by dsimp only; omega) (by dsimp only; omega) e0; have e1f := hXf.reads (p := ⟨w.heap.size, 1, none⟩) (by dsimp only; omega) (by dsimp only; omega) e1; have oX := hXf.own (by omega) (by omega) oR; have f0 := (oX 0 (by omega)).2; have f1 := (oX 1 (by omega)).2; have hzf := hXf.size; clear oX)
    refine bodyPost_ret (v := .tuple #[.agg #[.int .u64 Z, .bool S], .int .i64 Q]) (by simp (maxDischargeDepth := 4) [results, Tryd.results7, go_sem, *]) rfl ?_
    refine ⟨rfl, mw_set ?_ ?_ (mw_set ?_ ?_ hMf), un_set ?_ (un_set ?_ hUf), x2_new _ ?_ (x2_new _ ?_ ((Out2.ofb hB (Nat.le_refl _)).trans hXf))⟩
    all_goals (dsimp only; omega)
end Go.Proofs.YtkajndonefkegaaDoor
