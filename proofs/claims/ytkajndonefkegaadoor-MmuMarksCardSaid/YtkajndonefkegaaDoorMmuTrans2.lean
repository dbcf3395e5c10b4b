/-
  What Translate answers where there is a line of the page, over letters.
-/
import Derived.Test.YtkajndonefkegaaDoorMmuTrans
namespace Go.Proofs.YtkajndonefkegaaDoor
open Go.RowKit Words FieldMath PteMath

attribute [local irreducible] World.setCells in
set_option maxRecDepth 100000 in
set_option maxHeartbeats 8000000 in
theorem trans_some (z q Z Q : Int) (s S B d0 d1 d2 d3 d4 d5 d6 d7 d8 d9 d10 d11 : Bool) (x : Fd) (N R K C : Nat) (M M' : Nat → List Ln) (Mm Mm' : Nat → Nat → BitVec 64) (P A V k n : Int) (G t : Bool) (c1 : ∀ W, Calls Tryd.prog 29 #[.int .u64 V] W (Quiet (.bool true) W)) (c2 : ∀ W, Calls Tryd.prog 31 #[.int .u64 V] W (Quiet (.int .u64 n) W)) (c3 : ∀ W, TlbM W N M → Calls Tryd.prog 30 #[.pointer (some ⟨N, 0, none⟩), .int .u64 A, .int .u64 n] W (Makes (.tuple #[.agg #[.int .u64 A, .int .u64 n, .bool x.e0, .bool x.e1, .bool x.e2, .bool x.e3, .bool x.e4, .bool x.e5, .bool x.e6, .bool x.e7, .bool x.e8, .bool x.e9, .bool x.e10, .bool x.e11, .int .u64 x.f, .int .u64 x.a], .bool true]) W)) (c4 : ∀ W, UnitAt N M P A G W → Calls Tryd.prog 33 #[.pointer (some ⟨N, 0, none⟩), .agg #[.bool x.e0, .bool x.e1, .bool x.e2, .bool x.e3, .bool x.e4, .bool x.e5, .bool x.e6, .bool x.e7, .bool x.e8, .bool x.e9, .bool x.e10, .bool x.e11, .int .u64 x.f], .int .u64 V, .int .i64 k, .bool t] W (Makes (.tuple #[.agg #[.int .u64 z, .bool s], .int .i64 q]) W)) (c6 : ∀ W, Calls Tryd.prog 34 #[.agg #[.bool x.e0, .bool x.e1, .bool x.e2, .bool x.e3, .bool x.e4, .bool x.e5, .bool x.e6, .bool x.e7, .bool x.e8, .bool x.e9, .bool x.e10, .bool x.e11, .int .u64 x.f], .int .i64 k, .bool t] W (Makes (.agg #[.bool d0, .bool d1, .bool d2, .bool d3, .bool d4, .bool d5, .bool d6, .bool d7, .bool d8, .bool d9, .bool d10, .bool d11, .int .u64 x.f]) W)) (hne : ∀ W, (binOp .neq 32 (.agg #[.bool x.e0, .bool x.e1, .bool x.e2, .bool x.e3, .bool x.e4, .bool x.e5, .bool x.e6, .bool x.e7, .bool x.e8, .bool x.e9, .bool x.e10, .bool x.e11, .int .u64 x.f]) (.agg #[.bool d0, .bool d1, .bool d2, .bool d3, .bool d4, .bool d5, .bool d6, .bool d7, .bool d8, .bool d9, .bool d10, .bool d11, .int .u64 x.f])).run Tryd.prog W = .ok (.bool B) W) (hway : (((q == 0) = false ∨ B = false) ∧ Z = z ∧ S = s ∧ Q = q ∧ Mm' = Mm ∧ M' = M) ∨ ((q == 0) = true ∧ B = true ∧ (∀ W, Tab W → MemW W R K C Mm → UnitAt N M P A G W → Calls Tryd.prog 32 #[.pointer (some ⟨N, 0, none⟩), .pointer (some ⟨R, 0, none⟩), .int .u64 V, .int .i64 k, .bool t] W (fun e w' => e = .returned (.tuple #[.agg #[.int .u64 Z, .bool S], .int .i64 Q]) ∧ MemW w' R K C Mm' ∧ UnitAt N M' P A G w' ∧ Out2 N K W w')))) (w : World) (hC : 0 < C) (hT : Tab w) (hM : MemW w R K C Mm) (hU : UnitAt N M P A G w) : Calls Tryd.prog 7 #[.pointer (some ⟨N, 0, none⟩), .pointer (some ⟨R, 0, none⟩), .int .u64 V, .int .i64 k, .bool t] w (fun e w' => e = .returned (.tuple #[.agg #[.int .u64 Z, .bool S], .int .i64 Q]) ∧ MemW w' R K C Mm' ∧ UnitAt N M' P A G w' ∧ Out2 N K w w') := by
  have Cc1 := hide c1
  have Cc2 := hide c2
  have Cc3 := hide c3
  have Cc4 := hide c4
  have Cc6 := hide c6
  clear c1 c2 c3 c4 c6
  have HW := hide hway
  have HNE := hide hne
  clear hway hne
  have SS := cell_same
  have LB' := ltB_add
  have LS := ltB_self
  have LA' := alloc_reads
  have LH := alloc_holds
  have hN := hU.here
  have hLn0 : ltB N w.heap.size = true := decide_eq_true hN
  have p0 := hU.root
  have a0 := hU.asid
  have hTm := hU.tlb
  go_enter Tryd.func7, Tryd.ntmps7
  go_upto_region 3 with (first | (go_at_call 29; (with_reducible first | refine (Cc1.out _).mono ?_); rintro e w' ⟨rfl, n1, rfl⟩))
  have d0 : (w.alloc (.cells #[.int .u64 0, .bool false] 52)).cell? ⟨w.heap.size, 0, none⟩ = some (.int .u64 0) := by simp [go_sem]
  have d1 : (w.alloc (.cells #[.int .u64 0, .bool false] 52)).cell? ⟨w.heap.size, 1, none⟩ = some (.bool false) := by simp [go_sem]
  have oneX : ∀ v : Value, v ∈ [.int .u64 A, .int .u64 n, .bool x.e0, .bool x.e1, .bool x.e2, .bool x.e3, .bool x.e4, .bool x.e5, .bool x.e6, .bool x.e7, .bool x.e8, .bool x.e9, .bool x.e10, .bool x.e11, .int .u64 x.f, .int .u64 x.a] → v.oneCell' = true := by simp [Value.oneCell']
  have TNX : ∀ (W : World) (t : TypeId) (b : Nat), W.heap.size = b → (W.alloc (.cells #[.int .u64 0, .int .u64 0, .bool false, .bool false, .bool false, .bool false, .bool false, .bool false, .bool false, .bool false, .bool false, .bool false, .bool false, .bool false, .int .u64 0, .int .u64 0] t)).there b 0 ([.int .u64 A, .int .u64 n, .bool x.e0, .bool x.e1, .bool x.e2, .bool x.e3, .bool x.e4, .bool x.e5, .bool x.e6, .bool x.e7, .bool x.e8, .bool x.e9, .bool x.e10, .bool x.e11, .int .u64 x.f, .int .u64 x.a] : List Value).length := fun _ _ _ h => there_new (by show 16 ≤ 16; omega) h
  have TA := there_else
  have TS := there_sc
  have TD := fun (W : World) (b o n : Nat) => propext (World.there_drew W b o n)
  have SZ := size_al
  have SD : ∀ W : World, W.drew.heap.size = W.heap.size := fun _ => rfl
  have SZ2 := setCells_size
  have OT := or_t
  have TO := t_or
  have FO := f_or
  have LT1 := lt_one
  have iX : Option.map (fun x => x.size) (Tryd.prog.info? 36) = some ([.int .u64 A, .int .u64 n, .bool x.e0, .bool x.e1, .bool x.e2, .bool x.e3, .bool x.e4, .bool x.e5, .bool x.e6, .bool x.e7, .bool x.e8, .bool x.e9, .bool x.e10, .bool x.e11, .int .u64 x.f, .int .u64 x.a] : List Value).length := infoL
  go_cut [12, 13] (fun s12 s13 wx => ∃ ln : Nat, s12 = .pointer (some ⟨ln, 0, none⟩) ∧ s13 = .bool true ∧ (w.heap.size < ln ∧ ln < wx.heap.size) ∧ Row wx ln [.int .u64 A, .int .u64 n, .bool x.e0, .bool x.e1, .bool x.e2, .bool x.e3, .bool x.e4, .bool x.e5, .bool x.e6, .bool x.e7, .bool x.e8, .bool x.e9, .bool x.e10, .bool x.e11, .int .u64 x.f, .int .u64 x.a] ∧ wx.cell? ⟨w.heap.size, 0, none⟩ = some (.int .u64 0) ∧ wx.cell? ⟨w.heap.size, 1, none⟩ = some (.bool false) ∧ Own wx w.heap.size 2 ∧ Below w.heap.size w wx)
  case first =>
    go_region_held3 (fun w' => w'.cell? ⟨N, 133, none⟩ = some (.int .u64 A) ∧ w'.cell? ⟨w.heap.size, 0, none⟩ = some (.int .u64 0) ∧ w'.cell? ⟨w.heap.size, 1, none⟩ = some (.bool false) ∧ Own w' w.heap.size 2 ∧ Below w.heap.size w w' ∧ w.heap.size < w'.heap.size) (first | with_reducible assumption | (refine ⟨?_, ?_, ?_, ?_, ?_, ?_⟩ <;> (first | with_reducible assumption | ((repeat (first | with_reducible assumption | with_reducible refine c_dr _ ?_ | with_reducible refine c_d1 ?_ | with_reducible refine c_al _ ?_ | (with_reducible refine c_set ?_ ?_; focus (dsimp only; omega)) | (with_reducible apply c_be; with_reducible assumption) | (with_reducible refine c_sc ?_ ?_; focus (dsimp only; omega)))); done) | ((repeat (first | with_reducible assumption | with_reducible exact Below.refl _ _ | with_reducible refine Below.drew ?_ | with_reducible refine below_drewN ?_ _ | with_reducible refine bw_alloc ?_ _ | (with_reducible refine bw_set ?_ ?_ _; focus (dsimp only; omega)) | (with_reducible apply bw_behind; with_reducible assumption) | (with_reducible refine bw_sc _ ?_ ?_; focus omega))); done) | ((repeat (first | with_reducible assumption | with_reducible refine o_dr _ ?_ | with_reducible refine o_d1 ?_ | with_reducible refine o_set ?_ | (with_reducible refine o_new ?_ ?_; (focus (simp)); (focus (simp))) | (with_reducible refine o_new ?_ ?_; (focus (simp [*]; done)); (focus (simp))) | (with_reducible refine o_new ?_ ?_; (focus (simp [*]; omega)); (focus (simp))) | with_reducible refine o_sc ?_ | with_reducible refine o_al _ ?_ | (with_reducible apply o_be; with_reducible assumption))); done) | (simp [go_sem, *]; done) | (simp [go_sem, *]; omega)))) (first | (go_at_call 31; (with_reducible first | refine (Cc2.out _).mono ?_); rintro e w' ⟨rfl, n1, rfl⟩) | (go_at_call 30; (with_reducible refine (Cc3.out _ ?_).mono ?_); (focus (refine tm_bn (n := w.heap.size) ?_ hN hTm; repeat (first | with_reducible assumption | with_reducible exact Below.refl _ _ | with_reducible refine Below.drew ?_ | with_reducible refine below_drewN ?_ _ | with_reducible refine bw_alloc ?_ _ | (with_reducible refine bw_set ?_ ?_ _; focus (dsimp only; omega)) | (with_reducible apply bw_behind; with_reducible assumption)))); rintro e wl ⟨rfl, hbl⟩; have hrl := below_reads hbl; have hhl := below_holds hbl; obtain ⟨ml, hsl⟩ := below_grew hbl; have htl := there_be hbl))
    all_goals
      go_wp2_with fail
      go_meet
      refine ⟨_, rfl, rfl, ⟨?_, ?_⟩, ?_, ?_, ?_, ?_, ?_⟩
      · first | omega | (simp [go_sem, *]; done) | (simp [go_sem, *]; omega)
      · first | omega | (simp [go_sem, *]; done) | (simp [go_sem, *]; omega)
      · (repeat (first | with_reducible refine k_dr _ ?_ | with_reducible refine k_d1 ?_)); (first | (with_reducible refine row_al ?_; (first | (simp only [*]; done) | (simp [go_sem, *]; done))) | (refine row_chain _ _ _ _ _ _ _ _ _ _ _ _ _ _ _ _ ?_; refine th_own (o_be hbl ?_); repeat (first | with_reducible assumption | with_reducible refine o_dr _ ?_ | with_reducible refine o_d1 ?_ | with_reducible refine o_set ?_ | (with_reducible refine o_new ?_ ?_; (focus (simp)); (focus (simp))) | (with_reducible refine o_new ?_ ?_; (focus (simp [*]; done)); (focus (simp))) | (with_reducible refine o_new ?_ ?_; (focus (simp [*]; omega)); (focus (simp))) | with_reducible refine o_sc ?_ | with_reducible refine o_al _ ?_ | (with_reducible apply o_be; with_reducible assumption))))
      · repeat (first | with_reducible assumption | with_reducible refine c_dr _ ?_ | with_reducible refine c_d1 ?_ | with_reducible refine c_al _ ?_ | (with_reducible refine c_set ?_ ?_; focus (dsimp only; omega)) | (with_reducible apply c_be; with_reducible assumption) | (with_reducible refine c_sc ?_ ?_; focus (dsimp only; omega)))
      · repeat (first | with_reducible assumption | with_reducible refine c_dr _ ?_ | with_reducible refine c_d1 ?_ | with_reducible refine c_al _ ?_ | (with_reducible refine c_set ?_ ?_; focus (dsimp only; omega)) | (with_reducible apply c_be; with_reducible assumption) | (with_reducible refine c_sc ?_ ?_; focus (dsimp only; omega)))
      · repeat (first | with_reducible assumption | with_reducible refine o_dr _ ?_ | with_reducible refine o_d1 ?_ | with_reducible refine o_set ?_ | (with_reducible refine o_new ?_ ?_; (focus (simp)); (focus (simp))) | (with_reducible refine o_new ?_ ?_; (focus (simp [*]; done)); (focus (simp))) | (with_reducible refine o_new ?_ ?_; (focus (simp [*]; omega)); (focus (simp))) | with_reducible refine o_sc ?_ | with_reducible refine o_al _ ?_ | (with_reducible apply o_be; with_reducible assumption))
      · repeat (first | with_reducible assumption | with_reducible exact Below.refl _ _ | with_reducible refine Below.drew ?_ | with_reducible refine below_drewN ?_ _ | with_reducible refine bw_alloc ?_ _ | (with_reducible refine bw_set ?_ ?_ _; focus (dsimp only; omega)) | (with_reducible apply bw_behind; with_reducible assumption) | (with_reducible refine bw_sc _ ?_ ?_; focus omega))
  case rest =>
    obtain ⟨ln, rfl, rfl, ⟨hln, hln2⟩, hRow, e0, e1, oR, hB⟩ := hcut
    have hNK := un_nek hU hM hC
    have hKw := hM.herek hC
    have hTc := hT.behind hB
    have hMc := mw_be hB hM
    have hUc := un_be hB hU
    clear d0 d1 p0 a0 hTm hLn0 oneX TNX TA TS TD SZ SD SZ2 OT TO FO LT1 iX
    have hLl : ltB ln wc.heap.size = true := decide_eq_true hln2
    have r2 := hRow 2 _ rfl
    have r3 := hRow 3 _ rfl
    have r4 := hRow 4 _ rfl
    have r5 := hRow 5 _ rfl
    have r6 := hRow 6 _ rfl
    have r7 := hRow 7 _ rfl
    have r8 := hRow 8 _ rfl
    have r9 := hRow 9 _ rfl
    have r10 := hRow 10 _ rfl
    have r11 := hRow 11 _ rfl
    have r12 := hRow 12 _ rfl
    have r13 := hRow 13 _ rfl
    have r14 := hRow 14 _ rfl
    clear hRow
    have hRw := hM.hereR
    go_upto_region 8 with (go_at_call 33; (with_reducible refine (Cc4.out _ ?_).mono ?_); (focus (repeat (first | with_reducible assumption | with_reducible refine un_dr _ ?_ | with_reducible refine un_d1 ?_ | with_reducible refine un_al _ ?_ | (with_reducible refine un_set ?_ ?_; focus (dsimp only; omega)) | (with_reducible apply un_be; with_reducible assumption) | (with_reducible refine un_sc _ _ ?_ ?_; focus (dsimp only; omega))))); rintro e w6 ⟨rfl, hb6⟩; have hr6 := below_reads hb6; have hh6 := below_holds hb6; obtain ⟨m6, hs6⟩ := below_grew hb6)
    have hs6x : w6.heap.size = wc.heap.size + 1 + m6 := by
      first | exact hs6 | (rw [hs6]; simp [go_sem])
    refine wp_abs (fun W => Below w.heap.size w W ∧ Own W w.heap.size 2 ∧ wc.heap.size + 1 + m6 < W.heap.size ∧ W.cell? ⟨wc.heap.size, 0, none⟩ = some (.bool x.e0) ∧ W.cell? ⟨wc.heap.size, 1, none⟩ = some (.bool x.e1) ∧ W.cell? ⟨wc.heap.size, 2, none⟩ = some (.bool x.e2) ∧ W.cell? ⟨wc.heap.size, 3, none⟩ = some (.bool x.e3) ∧ W.cell? ⟨wc.heap.size, 4, none⟩ = some (.bool x.e4) ∧ W.cell? ⟨wc.heap.size, 5, none⟩ = some (.bool x.e5) ∧ W.cell? ⟨wc.heap.size, 6, none⟩ = some (.bool x.e6) ∧ W.cell? ⟨wc.heap.size, 7, none⟩ = some (.bool x.e7) ∧ W.cell? ⟨wc.heap.size, 8, none⟩ = some (.bool x.e8) ∧ W.cell? ⟨wc.heap.size, 9, none⟩ = some (.bool x.e9) ∧ W.cell? ⟨wc.heap.size, 10, none⟩ = some (.bool x.e10) ∧ W.cell? ⟨wc.heap.size, 11, none⟩ = some (.bool x.e11) ∧ W.cell? ⟨wc.heap.size, 12, none⟩ = some (.int .u64 x.f) ∧ W.cell? ⟨wc.heap.size + 1 + m6, 0, none⟩ = some (.int .u64 z) ∧ W.cell? ⟨wc.heap.size + 1 + m6, 1, none⟩ = some (.bool s) ∧ W.cell? ⟨w.heap.size, 0, none⟩ = some (.int .u64 0) ∧ W.cell? ⟨w.heap.size, 1, none⟩ = some (.bool false)) ?_ ?_
    · refine ⟨?_, ?_, ?_, ?_, ?_, ?_, ?_, ?_, ?_, ?_, ?_, ?_, ?_, ?_, ?_, ?_, ?_, ?_, ?_, ?_⟩
      all_goals (first | with_reducible assumption | ((repeat (first | with_reducible assumption | with_reducible refine c_dr _ ?_ | with_reducible refine c_d1 ?_ | with_reducible refine c_al _ ?_ | (with_reducible refine c_set ?_ ?_; focus (dsimp only; omega)) | (with_reducible apply c_be; with_reducible assumption))); done) | ((repeat (first | with_reducible assumption | with_reducible refine o_dr _ ?_ | with_reducible refine o_d1 ?_ | with_reducible refine o_set ?_ | (with_reducible refine o_new ?_ ?_; (focus (simp)); (focus (simp))) | with_reducible refine o_al _ ?_ | (with_reducible apply o_be; with_reducible assumption))); done) | ((repeat (first | with_reducible assumption | with_reducible exact Below.refl _ _ | with_reducible refine Below.drew ?_ | with_reducible refine below_drewN ?_ _ | with_reducible refine bw_alloc ?_ _ | (with_reducible refine bw_set ?_ ?_ _; focus (dsimp only; omega)) | (with_reducible apply bw_behind; with_reducible assumption))); done) | (simp [go_sem, *]; done) | (simp [go_sem, *]; omega))
    rintro w7 ⟨hB7, o7, hs7, k0, k1, k2, k3, k4, k5, k6, k7, k8, k9, k10, k11, k12, k13, k14, k15, k16⟩
    clear r2 r3 r4 r5 r6 r7 r8 r9 r10 r11 r12 r13 r14 e0 e1 oR hB hb6 hr6 hh6 hs6 hs6x hTc hMc hUc hLl
    have hpb : wc.heap.size < wc.heap.size + 1 + m6 := by omega
    have heb : w.heap.size < wc.heap.size := by omega
    generalize wc.heap.size + 1 + m6 = pb at *
    generalize wc.heap.size = eb at *
    have EN := HNE.out
    clear HNE
    rcases HW.out with ⟨hq, rfl, rfl, rfl, rfl, rfl⟩ | ⟨hq, rfl, c9⟩
    · clear HW
      rcases Bool.eq_false_or_eq_true (Q == 0) with hq0 | hq0
      · have hb : B = false := by
          rcases hq with h | h
          · rw [hq0] at h; cases h
          · exact h
        subst hb
        clear hq
        refine wp_abs (fun W => Below w.heap.size w W ∧ W.cell? ⟨eb, 0, none⟩ = some (.bool x.e0) ∧ W.cell? ⟨eb, 1, none⟩ = some (.bool x.e1) ∧ W.cell? ⟨eb, 2, none⟩ = some (.bool x.e2) ∧ W.cell? ⟨eb, 3, none⟩ = some (.bool x.e3) ∧ W.cell? ⟨eb, 4, none⟩ = some (.bool x.e4) ∧ W.cell? ⟨eb, 5, none⟩ = some (.bool x.e5) ∧ W.cell? ⟨eb, 6, none⟩ = some (.bool x.e6) ∧ W.cell? ⟨eb, 7, none⟩ = some (.bool x.e7) ∧ W.cell? ⟨eb, 8, none⟩ = some (.bool x.e8) ∧ W.cell? ⟨eb, 9, none⟩ = some (.bool x.e9) ∧ W.cell? ⟨eb, 10, none⟩ = some (.bool x.e10) ∧ W.cell? ⟨eb, 11, none⟩ = some (.bool x.e11) ∧ W.cell? ⟨eb, 12, none⟩ = some (.int .u64 x.f) ∧ W.cell? ⟨pb, 0, none⟩ = some (.int .u64 Z) ∧ W.cell? ⟨pb, 1, none⟩ = some (.bool S) ∧ W.cell? ⟨w.heap.size, 0, none⟩ = some (.int .u64 0) ∧ W.cell? ⟨w.heap.size, 1, none⟩ = some (.bool false) ∧ Own W (w.heap.size) 2) ?_ ?_
        · refine ⟨?_, ?_, ?_, ?_, ?_, ?_, ?_, ?_, ?_, ?_, ?_, ?_, ?_, ?_, ?_, ?_, ?_, ?_, ?_⟩
          all_goals (first | with_reducible assumption | ((repeat (first | with_reducible assumption | with_reducible refine c_dr _ ?_ | with_reducible refine c_d1 ?_ | with_reducible refine c_al _ ?_ | (with_reducible refine c_set ?_ ?_; focus (dsimp only; omega)) | (with_reducible apply c_be; with_reducible assumption))); done) | ((repeat (first | with_reducible assumption | with_reducible refine o_dr _ ?_ | with_reducible refine o_d1 ?_ | with_reducible refine o_set ?_ | (with_reducible refine o_new ?_ ?_; (focus (simp)); (focus (simp))) | with_reducible refine o_al _ ?_ | (with_reducible apply o_be; with_reducible assumption))); done) | ((repeat (first | with_reducible assumption | with_reducible exact Below.refl _ _ | with_reducible refine Below.drew ?_ | with_reducible refine below_drewN ?_ _ | with_reducible refine bw_alloc ?_ _ | (with_reducible refine bw_set ?_ ?_ _; focus (dsimp only; omega)) | (with_reducible apply bw_behind; with_reducible assumption))); done) | (simp [go_sem, *]; omega) | (simp (maxDischargeDepth := 4) [go_sem, *]; done))
        rintro w0 ⟨hB0, c0, c1, c2, c3, c4, c5, c6, c7, c8, c9, c10, c11, c12, c13, c14, c15, c16, o0⟩
        have y0 := behind_cell0 c0
        have y1 := behind_cell0 c1
        have y2 := behind_cell0 c2
        have y3 := behind_cell0 c3
        have y4 := behind_cell0 c4
        have y5 := behind_cell0 c5
        have y6 := behind_cell0 c6
        have y7 := behind_cell0 c7
        have y8 := behind_cell0 c8
        have y9 := behind_cell0 c9
        have y10 := behind_cell0 c10
        have y11 := behind_cell0 c11
        have y12 := behind_cell0 c12
        have y13 := behind_cell0 c13
        have y14 := behind_cell0 c14
        have y15 := behind_cell0 c15
        have y16 := behind_cell0 c16
        have hsome := Behind.any w0
        clear c0 c1 c2 c3 c4 c5 c6 c7 c8 c9 c10 c11 c12 c13 c14 c15 c16
        refine wp_region_behind w0 (by kernel_rfl) (by kernel_rfl) (Below.refl _ _) ?_
        repeat (go_big_quiet_step (first | (go_at_call 34; with_reducible first | exact behind_one Cc6.out _)))
        refine wpQuiet_nil ?_
        rintro _ ⟨y, rfl⟩
        have hBy := bw_behind y.below hB0
        have po0 := o_be y.below o0
        clear o0
        have x0 := y0 y
        have x1 := y1 y
        have x2 := y2 y
        have x3 := y3 y
        have x4 := y4 y
        have x5 := y5 y
        have x6 := y6 y
        have x7 := y7 y
        have x8 := y8 y
        have x9 := y9 y
        have x10 := y10 y
        have x11 := y11 y
        have x12 := y12 y
        have x13 := y13 y
        have x14 := y14 y
        have x15 := y15 y
        have x16 := y16 y
        clear hsome y0 y1 y2 y3 y4 y5 y6 y7 y8 y9 y10 y11 y12 y13 y14 y15 y16
        obtain ⟨w1, hw1⟩ : ∃ W, W = y.world := ⟨_, rfl⟩
        rw [← hw1] at hBy x0 x1 x2 x3 x4 x5 x6 x7 x8 x9 x10 x11 x12 x13 x14 x15 x16 po0 ⊢
        clear hw1 y hB0
        have f0 := (po0 0 (by omega)).2
        have f1 := (po0 1 (by omega)).2
        have hLp : ltB pb w1.heap.size = true := decide_eq_true (World.block_lt_of_cell? w1 _ x13)
        go_wp2_with fail
        refine bodyPost_ret (v := .tuple #[.agg #[.int .u64 Z, .bool S], .int .i64 Q]) (by simp (maxDischargeDepth := 4) [results, Tryd.results7, go_sem, *]) rfl ?_
        refine ⟨rfl, mw_set ?_ ?_ (mw_set ?_ ?_ (mw_be hBy hM)), un_set ?_ (un_set ?_ (un_be hBy hU)), x2_new _ ?_ (x2_new _ ?_ (Out2.ofb hBy (Nat.le_refl _)))⟩
        all_goals (dsimp only; omega)
      · clear hq EN
        refine wp_abs (fun W => Below w.heap.size w W ∧ W.cell? ⟨eb, 0, none⟩ = some (.bool x.e0) ∧ W.cell? ⟨eb, 1, none⟩ = some (.bool x.e1) ∧ W.cell? ⟨eb, 2, none⟩ = some (.bool x.e2) ∧ W.cell? ⟨eb, 3, none⟩ = some (.bool x.e3) ∧ W.cell? ⟨eb, 4, none⟩ = some (.bool x.e4) ∧ W.cell? ⟨eb, 5, none⟩ = some (.bool x.e5) ∧ W.cell? ⟨eb, 6, none⟩ = some (.bool x.e6) ∧ W.cell? ⟨eb, 7, none⟩ = some (.bool x.e7) ∧ W.cell? ⟨eb, 8, none⟩ = some (.bool x.e8) ∧ W.cell? ⟨eb, 9, none⟩ = some (.bool x.e9) ∧ W.cell? ⟨eb, 10, none⟩ = some (.bool x.e10) ∧ W.cell? ⟨eb, 11, none⟩ = some (.bool x.e11) ∧ W.cell? ⟨eb, 12, none⟩ = some (.int .u64 x.f) ∧ W.cell? ⟨pb, 0, none⟩ = some (.int .u64 Z) ∧ W.cell? ⟨pb, 1, none⟩ = some (.bool S) ∧ W.cell? ⟨w.heap.size, 0, none⟩ = some (.int .u64 0) ∧ W.cell? ⟨w.heap.size, 1, none⟩ = some (.bool false) ∧ Own W (w.heap.size) 2) ?_ ?_
        · refine ⟨?_, ?_, ?_, ?_, ?_, ?_, ?_, ?_, ?_, ?_, ?_, ?_, ?_, ?_, ?_, ?_, ?_, ?_, ?_⟩
          all_goals (first | with_reducible assumption | ((repeat (first | with_reducible assumption | with_reducible refine c_dr _ ?_ | with_reducible refine c_d1 ?_ | with_reducible refine c_al _ ?_ | (with_reducible refine c_set ?_ ?_; focus (dsimp only; omega)) | (with_reducible apply c_be; with_reducible assumption))); done) | ((repeat (first | with_reducible assumption | with_reducible refine o_dr _ ?_ | with_reducible refine o_d1 ?_ | with_reducible refine o_set ?_ | (with_reducible refine o_new ?_ ?_; (focus (simp)); (focus (simp))) | with_reducible refine o_al _ ?_ | (with_reducible apply o_be; with_reducible assumption))); done) | ((repeat (first | with_reducible assumption | with_reducible exact Below.refl _ _ | with_reducible refine Below.drew ?_ | with_reducible refine below_drewN ?_ _ | with_reducible refine bw_alloc ?_ _ | (with_reducible refine bw_set ?_ ?_ _; focus (dsimp only; omega)) | (with_reducible apply bw_behind; with_reducible assumption))); done) | (simp [go_sem, *]; omega) | (simp (maxDischargeDepth := 4) [go_sem, *]; done))
        rintro w0 ⟨hB0, c0, c1, c2, c3, c4, c5, c6, c7, c8, c9, c10, c11, c12, c13, c14, c15, c16, o0⟩
        have y0 := behind_cell0 c0
        have y1 := behind_cell0 c1
        have y2 := behind_cell0 c2
        have y3 := behind_cell0 c3
        have y4 := behind_cell0 c4
        have y5 := behind_cell0 c5
        have y6 := behind_cell0 c6
        have y7 := behind_cell0 c7
        have y8 := behind_cell0 c8
        have y9 := behind_cell0 c9
        have y10 := behind_cell0 c10
        have y11 := behind_cell0 c11
        have y12 := behind_cell0 c12
        have y13 := behind_cell0 c13
        have y14 := behind_cell0 c14
        have y15 := behind_cell0 c15
        have y16 := behind_cell0 c16
        have hsome := Behind.any w0
        clear c0 c1 c2 c3 c4 c5 c6 c7 c8 c9 c10 c11 c12 c13 c14 c15 c16
        refine wp_region_behind w0 (by kernel_rfl) (by kernel_rfl) (Below.refl _ _) ?_
        repeat (go_big_quiet_step (first | (go_at_call 34; with_reducible first | exact behind_one Cc6.out _)))
        refine wpQuiet_nil ?_
        rintro _ ⟨y, rfl⟩
        have hBy := bw_behind y.below hB0
        have po0 := o_be y.below o0
        clear o0
        have x0 := y0 y
        have x1 := y1 y
        have x2 := y2 y
        have x3 := y3 y
        have x4 := y4 y
        have x5 := y5 y
        have x6 := y6 y
        have x7 := y7 y
        have x8 := y8 y
        have x9 := y9 y
        have x10 := y10 y
        have x11 := y11 y
        have x12 := y12 y
        have x13 := y13 y
        have x14 := y14 y
        have x15 := y15 y
        have x16 := y16 y
        clear hsome y0 y1 y2 y3 y4 y5 y6 y7 y8 y9 y10 y11 y12 y13 y14 y15 y16
        obtain ⟨w1, hw1⟩ : ∃ W, W = y.world := ⟨_, rfl⟩
        rw [← hw1] at hBy x0 x1 x2 x3 x4 x5 x6 x7 x8 x9 x10 x11 x12 x13 x14 x15 x16 po0 ⊢
        clear hw1 y hB0
        have f0 := (po0 0 (by omega)).2
        have f1 := (po0 1 (by omega)).2
        have hLp : ltB pb w1.heap.size = true := decide_eq_true (World.block_lt_of_cell? w1 _ x13)
        go_wp2_with fail
        refine bodyPost_ret (v := .tuple #[.agg #[.int .u64 Z, .bool S], .int .i64 Q]) (by simp (maxDischargeDepth := 4) [results, Tryd.results7, go_sem, *]) rfl ?_
        refine ⟨rfl, mw_set ?_ ?_ (mw_set ?_ ?_ (mw_be hBy hM)), un_set ?_ (un_set ?_ (un_be hBy hU)), x2_new _ ?_ (x2_new _ ?_ (Out2.ofb hBy (Nat.le_refl _)))⟩
        all_goals (dsimp only; omega)
    · clear HW
      have Cc9 := hide c9
      clear c9
      refine wp_abs (fun W => Below w.heap.size w W ∧ W.cell? ⟨eb, 0, none⟩ = some (.bool x.e0) ∧ W.cell? ⟨eb, 1, none⟩ = some (.bool x.e1) ∧ W.cell? ⟨eb, 2, none⟩ = some (.bool x.e2) ∧ W.cell? ⟨eb, 3, none⟩ = some (.bool x.e3) ∧ W.cell? ⟨eb, 4, none⟩ = some (.bool x.e4) ∧ W.cell? ⟨eb, 5, none⟩ = some (.bool x.e5) ∧ W.cell? ⟨eb, 6, none⟩ = some (.bool x.e6) ∧ W.cell? ⟨eb, 7, none⟩ = some (.bool x.e7) ∧ W.cell? ⟨eb, 8, none⟩ = some (.bool x.e8) ∧ W.cell? ⟨eb, 9, none⟩ = some (.bool x.e9) ∧ W.cell? ⟨eb, 10, none⟩ = some (.bool x.e10) ∧ W.cell? ⟨eb, 11, none⟩ = some (.bool x.e11) ∧ W.cell? ⟨eb, 12, none⟩ = some (.int .u64 x.f) ∧ W.cell? ⟨pb, 0, none⟩ = some (.int .u64 z) ∧ W.cell? ⟨pb, 1, none⟩ = some (.bool s) ∧ W.cell? ⟨w.heap.size, 0, none⟩ = some (.int .u64 0) ∧ W.cell? ⟨w.heap.size, 1, none⟩ = some (.bool false) ∧ Own W (w.heap.size) 2) ?_ ?_
      · refine ⟨?_, ?_, ?_, ?_, ?_, ?_, ?_, ?_, ?_, ?_, ?_, ?_, ?_, ?_, ?_, ?_, ?_, ?_, ?_⟩
        all_goals (first | with_reducible assumption | ((repeat (first | with_reducible assumption | with_reducible refine c_dr _ ?_ | with_reducible refine c_d1 ?_ | with_reducible refine c_al _ ?_ | (with_reducible refine c_set ?_ ?_; focus (dsimp only; omega)) | (with_reducible apply c_be; with_reducible assumption))); done) | ((repeat (first | with_reducible assumption | with_reducible refine o_dr _ ?_ | with_reducible refine o_d1 ?_ | with_reducible refine o_set ?_ | (with_reducible refine o_new ?_ ?_; (focus (simp)); (focus (simp))) | with_reducible refine o_al _ ?_ | (with_reducible apply o_be; with_reducible assumption))); done) | ((repeat (first | with_reducible assumption | with_reducible exact Below.refl _ _ | with_reducible refine Below.drew ?_ | with_reducible refine below_drewN ?_ _ | with_reducible refine bw_alloc ?_ _ | (with_reducible refine bw_set ?_ ?_ _; focus (dsimp only; omega)) | (with_reducible apply bw_behind; with_reducible assumption))); done) | (simp [go_sem, *]; omega) | (simp (maxDischargeDepth := 4) [go_sem, *]; done))
      rintro w0 ⟨hB0, c0, c1, c2, c3, c4, c5, c6, c7, c8, c9, c10, c11, c12, c13, c14, c15, c16, o0⟩
      have y0 := behind_cell0 c0
      have y1 := behind_cell0 c1
      have y2 := behind_cell0 c2
      have y3 := behind_cell0 c3
      have y4 := behind_cell0 c4
      have y5 := behind_cell0 c5
      have y6 := behind_cell0 c6
      have y7 := behind_cell0 c7
      have y8 := behind_cell0 c8
      have y9 := behind_cell0 c9
      have y10 := behind_cell0 c10
      have y11 := behind_cell0 c11
      have y12 := behind_cell0 c12
      have y13 := behind_cell0 c13
      have y14 := behind_cell0 c14
      have y15 := behind_cell0 c15
      have y16 := behind_cell0 c16
      have hsome := Behind.any w0
      clear c0 c1 c2 c3 c4 c5 c6 c7 c8 c9 c10 c11 c12 c13 c14 c15 c16
      refine wp_region_behind w0 (by kernel_rfl) (by kernel_rfl) (Below.refl _ _) ?_
      repeat (go_big_quiet_step (first | (go_at_call 34; with_reducible first | exact behind_one Cc6.out _)))
      refine wpQuiet_nil ?_
      rintro _ ⟨y, rfl⟩
      have hBy := bw_behind y.below hB0
      have po0 := o_be y.below o0
      clear o0
      have x0 := y0 y
      have x1 := y1 y
      have x2 := y2 y
      have x3 := y3 y
      have x4 := y4 y
      have x5 := y5 y
      have x6 := y6 y
      have x7 := y7 y
      have x8 := y8 y
      have x9 := y9 y
      have x10 := y10 y
      have x11 := y11 y
      have x12 := y12 y
      have x13 := y13 y
      have x14 := y14 y
      have x15 := y15 y
      have x16 := y16 y
      clear hsome y0 y1 y2 y3 y4 y5 y6 y7 y8 y9 y10 y11 y12 y13 y14 y15 y16
      obtain ⟨w1, hw1⟩ : ∃ W, W = y.world := ⟨_, rfl⟩
      rw [← hw1] at hBy x0 x1 x2 x3 x4 x5 x6 x7 x8 x9 x10 x11 x12 x13 x14 x15 x16 po0 ⊢
      clear hw1 y hB0
      have hTc := hT.behind hBy
      have hMc := mw_be hBy hM
      have hUc := un_be hBy hU
      have hLp : ltB pb w1.heap.size = true := decide_eq_true (World.block_lt_of_cell? w1 _ x13)
      go_wp2_with (go_at_call 32; (with_reducible refine (Cc9.out _ ?_ ?_ ?_).mono ?_); (focus (repeat (first | with_reducible assumption | with_reducible exact hTc | with_reducible refine Tab.behind ‹_› ?_))); (focus (repeat (first | with_reducible assumption | with_reducible refine mw_dr _ ?_ | with_reducible refine mw_d1 ?_ | with_reducible refine mw_al _ ?_ | (with_reducible apply mw_be; with_reducible assumption)))); (focus (repeat (first | with_reducible assumption | with_reducible refine un_dr _ ?_ | with_reducible refine un_d1 ?_ | with_reducible refine un_al _ ?_ | (with_reducible refine un_set ?_ ?_; focus (dsimp only; omega)) | (with_reducible apply un_be; with_reducible assumption) | (with_reducible refine un_sc _ _ ?_ ?_; focus (dsimp only; omega))))); rintro e wf ⟨rfl, hMf, hUf, hXf⟩; have e0f := hXf.reads (p := ⟨w.heap.size, 0, none⟩) (by dsimp only; omega) (by dsimp only; omega) x15; have e1f := hXf.reads (p := ⟨w.heap.size, 1, none⟩) (by dsimp only; omega) (by dsimp only; omega) x16; have oX := hXf.own (by omega) (by omega) po0; have f0 := (oX 0 (by omega)).2; have f1 := (oX 1 (by omega)).2; have hzf := hXf.size; clear oX)
      refine bodyPost_ret (v := .tuple #[.agg #[.int .u64 Z, .bool S], .int .i64 Q]) (by simp (maxDischargeDepth := 4) [results, Tryd.results7, go_sem, *]) rfl ?_
      refine ⟨rfl, mw_set ?_ ?_ (mw_set ?_ ?_ hMf), un_set ?_ (un_set ?_ hUf), x2_new _ ?_ (x2_new _ ?_ ((Out2.ofb hBy (Nat.le_refl _)).trans hXf))⟩
      all_goals (dsimp only; omega)
end Go.Proofs.YtkajndonefkegaaDoor
