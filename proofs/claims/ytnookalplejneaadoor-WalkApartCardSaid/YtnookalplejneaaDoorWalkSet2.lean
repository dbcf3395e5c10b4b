/-
  Mark: the marked entry is stored where it is, unless it is the same.
-/
import Derived.Test.YtnookalplejneaaDoorWalkSet
namespace Go.Proofs.YtnookalplejneaaDoor
open Go.RowKit Words FieldMath PteMath

def neB (a b : Nat) : Bool := decide (a ≠ b)
theorem out_reads {N o : Nat} {w W : World} (h : Out N o w W) : ∀ b i : Nat, ltB b w.heap.size = true → neB b N = true → W.cell? ⟨b, i, none⟩ = w.cell? ⟨b, i, none⟩ := fun b _ h1 h2 => World.cell?_of_block (w := w) (h.block b (of_decide_eq_true h1) (of_decide_eq_true h2))
theorem out_holds {N o : Nat} {w W : World} (h : Out N o w W) : ∀ b i : Nat, ltB b w.heap.size = true → neB b N = true → W.frozen? ⟨b, i, none⟩ = w.frozen? ⟨b, i, none⟩ := fun b _ h1 h2 => World.frozen?_of_block (w := w) (h.block b (of_decide_eq_true h1) (of_decide_eq_true h2))
set_option maxRecDepth 100000 in
set_option maxHeartbeats 16000000 in
theorem mark_let (b0 b1 b2 b3 b4 b5 b6 b7 b8 b9 b10 b11 d0 d1 d2 d3 d4 d5 d6 d7 d8 d9 d10 d11 tagged : Bool) (R N C o : Nat) (M M2 : Nat → Nat → BitVec 64) (F A k : Int) (hC : 0 < C) (c1 : ∀ W, Calls Tryd.prog 14 #[.agg #[.bool b0, .bool b1, .bool b2, .bool b3, .bool b4, .bool b5, .bool b6, .bool b7, .bool b8, .bool b9, .bool b10, .bool b11, .int .u64 F], .int .i64 k, .bool tagged] W (Makes (.agg #[.bool d0, .bool d1, .bool d2, .bool d3, .bool d4, .bool d5, .bool d6, .bool d7, .bool d8, .bool d9, .bool d10, .bool d11, .int .u64 F]) W)) (c2 : ∀ pb fb W, Tab W → MemW W R N C M → W.cell? ⟨pb, 0, none⟩ = some (.pointer (some ⟨R, 0, none⟩)) → W.cell? ⟨fb, 13, none⟩ = some (.int .u64 A) → Calls Tryd.prog 38 #[.agg #[.bool b0, .bool b1, .bool b2, .bool b3, .bool b4, .bool b5, .bool b6, .bool b7, .bool b8, .bool b9, .bool b10, .bool b11, .int .u64 F, .int .u64 A], .agg #[.bool d0, .bool d1, .bool d2, .bool d3, .bool d4, .bool d5, .bool d6, .bool d7, .bool d8, .bool d9, .bool d10, .bool d11, .int .u64 F], .func (.func 39) #[] #[.pointer (some ⟨pb, 0, none⟩), .pointer (some ⟨fb, 0, none⟩)]] W fun e w' => e = .returned (.agg #[.bool d0, .bool d1, .bool d2, .bool d3, .bool d4, .bool d5, .bool d6, .bool d7, .bool d8, .bool d9, .bool d10, .bool d11, .int .u64 F, .int .u64 A]) ∧ MemW w' R N C M2 ∧ Out N o W w') (w : World) (hT : Tab w) (hM : MemW w R N C M) :
    Calls Tryd.prog 17 #[.pointer (some ⟨R, 0, none⟩), .agg #[.bool b0, .bool b1, .bool b2, .bool b3, .bool b4, .bool b5, .bool b6, .bool b7, .bool b8, .bool b9, .bool b10, .bool b11, .int .u64 F, .int .u64 A], .int .i64 k, .bool tagged] w fun e w' => e = .returned (.agg #[.bool d0, .bool d1, .bool d2, .bool d3, .bool d4, .bool d5, .bool d6, .bool d7, .bool d8, .bool d9, .bool d10, .bool d11, .int .u64 F, .int .u64 A]) ∧ MemW w' R N C M2 ∧ Out N o w w' := by
  have Cc1 := hide c1
  have Cc2 := hide c2
  clear c1 c2
  have SS := cell_same
  have LB' := ltB_add
  have LS := ltB_self
  have LA' := alloc_reads
  have LH := alloc_holds
  have hN : N < w.heap.size := by
    obtain ⟨B, S, hm, _⟩ := hM
    exact (hm.page 0 hC).here
  have hR : R < w.heap.size := World.block_lt_of_cell? w _ hM.ram
  have n1 : neB w.heap.size N = true := decide_eq_true (by omega)
  have n2 : neB (w.heap.size + 1) N = true := decide_eq_true (by omega)
  have n3 : neB (w.heap.size + 1 + 1) N = true := decide_eq_true (by omega)
  have HM := hide hM
  clear hM
  go_enter Tryd.func17, Tryd.ntmps17
  go_wp2
  go_region_with (first | (go_at_call 14; (with_reducible refine (Cc1.out _).mono ?_); rintro e w4 ⟨rfl, hb4⟩; have hr4 := below_reads hb4; have hh4 := below_holds hb4; obtain ⟨m4, hs4⟩ := below_grew hb4) | (go_at_call 38; (with_reducible refine (Cc2.out _ _ _ ?_ ?_ ?_ ?_).mono ?_); (refine hT.behind ?_; repeat (first | with_reducible assumption | with_reducible exact Below.refl _ _ | with_reducible refine Below.drew ?_ | with_reducible refine below_drewN ?_ _ | with_reducible refine bw_alloc ?_ _ | (with_reducible refine bw_set ?_ ?_ _; focus (dsimp only; omega)) | (with_reducible apply bw_behind; with_reducible assumption))); (focus (have hMw := HM.out; repeat (first | with_reducible assumption | with_reducible refine mw_dr _ ?_ | with_reducible refine mw_d1 ?_ | with_reducible refine mw_al _ ?_ | (with_reducible apply mw_be; with_reducible assumption)))); (focus ((first | ((repeat (first | with_reducible assumption | with_reducible refine c_dr _ ?_ | with_reducible refine c_d1 ?_ | with_reducible refine c_al _ ?_ | (with_reducible refine c_set ?_ ?_; focus (dsimp only; omega)) | (with_reducible apply c_be; with_reducible assumption))); done) | (simp [go_sem]; done) | (simp (maxDischargeDepth := 4) [go_sem, *]; done)))); (focus ((first | ((repeat (first | with_reducible assumption | with_reducible refine c_dr _ ?_ | with_reducible refine c_d1 ?_ | with_reducible refine c_al _ ?_ | (with_reducible refine c_set ?_ ?_; focus (dsimp only; omega)) | (with_reducible apply c_be; with_reducible assumption))); done) | (simp [go_sem]; done) | (simp (maxDischargeDepth := 4) [go_sem, *]; done)))); rintro e w5 ⟨rfl, hM5, ho5⟩; have hr5 := out_reads ho5; have hh5 := out_holds ho5; have hz5 := ho5.size))
  all_goals as_aux_lemma =>
    have hOwn : Own w5 (w.heap.size + 1 + 1) 14 := by
      refine own_out ho5 (by omega) ?_
      repeat (first | with_reducible assumption | with_reducible refine o_dr _ ?_ | with_reducible refine o_d1 ?_ | with_reducible refine o_set ?_ | (with_reducible refine o_new ?_ ?_; (focus (simp)); (focus (simp))) | with_reducible refine o_al _ ?_ | (with_reducible apply o_be; with_reducible assumption))
    have hRow := row_sc (l := [.bool d0, .bool d1, .bool d2, .bool d3, .bool d4, .bool d5, .bool d6, .bool d7, .bool d8, .bool d9, .bool d10, .bool d11, .int .u64 F, .int .u64 A]) (th_own hOwn)
    have hMs := mw_sc (b := w.heap.size + 1 + 1) [.bool d0, .bool d1, .bool d2, .bool d3, .bool d4, .bool d5, .bool d6, .bool d7, .bool d8, .bool d9, .bool d10, .bool d11, .int .u64 F, .int .u64 A] 0 (by omega) (by omega) hM5
    have hOs : Out N o w (w5.setCells (w.heap.size + 1 + 1) 0 [.bool d0, .bool d1, .bool d2, .bool d3, .bool d4, .bool d5, .bool d6, .bool d7, .bool d8, .bool d9, .bool d10, .bool d11, .int .u64 F, .int .u64 A]) := out_sc _ _ (by omega) (Out.trans (by repeat (first | with_reducible assumption | with_reducible exact Out.refl _ _ _ | with_reducible refine out_dr _ ?_ | with_reducible refine out_d1 ?_ | with_reducible refine out_al _ ?_ | (with_reducible refine out_new _ ?_ ?_; focus (dsimp only; omega)) | (with_reducible apply out_be; with_reducible assumption) | (with_reducible refine Out.trans ?_ (by with_reducible assumption)))) ho5)
    obtain ⟨ws, hws⟩ : ∃ ws, ((((((((((((((w5.setCell ⟨w.heap.size + 1 + 1, 0, none⟩ (.bool d0)).setCell ⟨w.heap.size + 1 + 1, 1, none⟩ (.bool d1)).setCell ⟨w.heap.size + 1 + 1, 2, none⟩ (.bool d2)).setCell ⟨w.heap.size + 1 + 1, 3, none⟩ (.bool d3)).setCell ⟨w.heap.size + 1 + 1, 4, none⟩ (.bool d4)).setCell ⟨w.heap.size + 1 + 1, 5, none⟩ (.bool d5)).setCell ⟨w.heap.size + 1 + 1, 6, none⟩ (.bool d6)).setCell ⟨w.heap.size + 1 + 1, 7, none⟩ (.bool d7)).setCell ⟨w.heap.size + 1 + 1, 8, none⟩ (.bool d8)).setCell ⟨w.heap.size + 1 + 1, 9, none⟩ (.bool d9)).setCell ⟨w.heap.size + 1 + 1, 10, none⟩ (.bool d10)).setCell ⟨w.heap.size + 1 + 1, 11, none⟩ (.bool d11)).setCell ⟨w.heap.size + 1 + 1, 12, none⟩ (.int .u64 F)).setCell ⟨w.heap.size + 1 + 1, 13, none⟩ (.int .u64 A)) = ws := ⟨_, rfl⟩
    have hRow2 : Row ws (w.heap.size + 1 + 1) [.bool d0, .bool d1, .bool d2, .bool d3, .bool d4, .bool d5, .bool d6, .bool d7, .bool d8, .bool d9, .bool d10, .bool d11, .int .u64 F, .int .u64 A] := by rw [← hws]; exact hRow
    have hMs2 : MemW ws R N C M2 := by rw [← hws]; exact hMs
    have hOs2 : Out N o w ws := by rw [← hws]; exact hOs
    rw [hws]
    clear hRow hMs hOs hws hOwn ho5 hr5 hh5 hz5 hM5 hb4 hr4 hh4 hs4
    have q0 := hRow2 0 _ rfl
    have q1 := hRow2 1 _ rfl
    have q2 := hRow2 2 _ rfl
    have q3 := hRow2 3 _ rfl
    have q4 := hRow2 4 _ rfl
    have q5 := hRow2 5 _ rfl
    have q6 := hRow2 6 _ rfl
    have q7 := hRow2 7 _ rfl
    have q8 := hRow2 8 _ rfl
    have q9 := hRow2 9 _ rfl
    have q10 := hRow2 10 _ rfl
    have q11 := hRow2 11 _ rfl
    have q12 := hRow2 12 _ rfl
    have q13 := hRow2 13 _ rfl
    have HM2 := hide hMs2
    have HO2 := hide hOs2
    clear hRow2 hMs2 hOs2
    go_wp2
    refine bodyPost_ret (v := .agg #[.bool d0, .bool d1, .bool d2, .bool d3, .bool d4, .bool d5, .bool d6, .bool d7, .bool d8, .bool d9, .bool d10, .bool d11, .int .u64 F, .int .u64 A]) (by simp (maxDischargeDepth := 4) [results, Tryd.results17, go_sem, *]) rfl ?_
    exact ⟨rfl, HM2.out, HO2.out⟩
end Go.Proofs.YtnookalplejneaaDoor
