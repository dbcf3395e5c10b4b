/-
  What laid answers for a row of cells; what one answers: true.
-/
import Derived.Test.YtnookalplejneaaDoorWalkLaid
import Derived.Test.YtnookalplejneaaDoorWalkWalk2
namespace Go.Proofs.YtnookalplejneaaDoor
open Go.RowKit Words FieldMath PteMath

theorem cells_length (d : LayD) : d.cells.length = 15 := rfl
theorem flat_at : ∀ (l : List LayD) (k j : Nat) (d : LayD) (v : Value), l[k]? = some d → d.cells[j]? = some v → (l.flatMap LayD.cells)[k * 15 + j]? = some v
  | [], k, j, d, v, h, _ => by simp at h
  | x :: l, 0, j, d, v, h, hv => by
    obtain rfl : x = d := by simpa using h
    have hj : j < x.cells.length := (List.getElem?_eq_some_iff.1 hv).1
    rw [List.flatMap_cons, Nat.zero_mul, Nat.zero_add, List.getElem?_append_left hj]
    exact hv
  | x :: l, k + 1, j, d, v, h, hv => by
    have h2 : l[k]? = some d := by simpa using h
    rw [List.flatMap_cons, List.getElem?_append_right (by rw [cells_length]; omega), cells_length, show (k + 1) * 15 + j - 15 = k * 15 + j by omega]
    exact flat_at l k j d v h2 hv
theorem lays_of_row {W : World} {b : Nat} {l : List LayD} {c : List Value} (hc : l.flatMap LayD.cells = c) (h : Row W b c) : LaysAt W b 0 l := fun k d j v h1 h2 => by
  subst hc
  rw [Nat.zero_add]
  exact h _ _ (flat_at l k j d v h1 h2)
theorem laid_row (b n : Nat) (l : List LayD) (hn : l.length = n) (c : List Value) (hc : l.flatMap LayD.cells = c) (M : Nat → Nat → BitVec 64) (hM : laidM (l.take 60) = M) (W : World) (hT : Tab W) (hr : Row W b c) :
    Calls Tryd.prog 8 #[.slice (some ⟨b, 0, none⟩) n n] W (fun e W' => ∃ R N sa na ca sb nb cb, e = .returned (.tuple #[.pointer (some ⟨R, 0, none⟩), .agg #[.int .i64 8, .slice sa na ca, .slice sb nb cb, .slice none 0 0]]) ∧ MemW W' R N 8 M ∧ Below W.heap.size W W' ∧ W.heap.size ≤ R ∧ W.heap.size ≤ N) := by
  subst hn hM
  refine (laid_some b 0 l.length l W hT (lays_of_row hc hr)).mono ?_
  rintro e W' ⟨R, N, sa, na, ca, sb, nb, cb, rfl, h1, _, _, h4, h5, h6⟩
  exact ⟨R, N, sa, na, ca, sb, nb, cb, rfl, h1, h4, h5, h6⟩
set_option maxRecDepth 100000 in
set_option maxHeartbeats 8000000 in
theorem one_let (M : Nat → Nat → BitVec 64) (c1 : ∀ b W, Tab W → Row W b (([⟨0, 0, true, false, false, false, false, false, false, false, false, false, false, false, 1#64⟩, ⟨1, 0, true, false, false, false, false, false, false, false, false, false, false, false, 2#64⟩, ⟨2, 3, true, true, false, false, false, false, false, false, false, false, false, false, 7#64⟩] : List LayD).flatMap LayD.cells) → Calls Tryd.prog 8 #[.slice (some ⟨b, 0, none⟩) 3 3] W (fun e W' => ∃ R N sa na ca sb nb cb, e = .returned (.tuple #[.pointer (some ⟨R, 0, none⟩), .agg #[.int .i64 8, .slice sa na ca, .slice sb nb cb, .slice none 0 0]]) ∧ MemW W' R N 8 M ∧ Below W.heap.size W W' ∧ W.heap.size ≤ R ∧ W.heap.size ≤ N)) (c2 : ∀ R N W, Tab W → MemW W R N 8 M → Calls Tryd.prog 9 #[.pointer (some ⟨R, 0, none⟩), .int .u64 0, .int .u64 12288] W (Makes (.tuple #[.agg #[.bool true, .bool true, .bool false, .bool false, .bool false, .bool false, .bool false, .bool false, .bool false, .bool false, .bool false, .bool false, .int .u64 7, .int .u64 8216], .int .i64 0]) W)) (c3 : ∀ R N W, Tab W → MemW W R N 8 M → Calls Tryd.prog 9 #[.pointer (some ⟨R, 0, none⟩), .int .u64 0, .int .u64 16384] W (Makes (.tuple #[.agg #[.bool false, .bool false, .bool false, .bool false, .bool false, .bool false, .bool false, .bool false, .bool false, .bool false, .bool false, .bool false, .int .u64 0, .int .u64 0], .int .i64 1]) W)) (w : World) (hT : Tab w) : Calls Tryd.prog 11 #[] w (Makes (.bool true) w) := by
  have Cc1 := hide c1
  have Cc2 := hide c2
  have Cc3 := hide c3
  clear c1 c2 c3
  have SS := cell_same
  have LB' := ltB_add
  have LS := ltB_self
  have LA' := alloc_reads
  have LH := alloc_holds
  go_enter Tryd.func11, Tryd.ntmps11
  go_wp2_with (first | (go_at_call 8; (with_reducible refine (Cc1.out _ _ ?_ ?_).mono ?_); (refine hT.behind ?_; repeat (first | with_reducible assumption | with_reducible exact Below.refl _ _ | with_reducible refine Below.drew ?_ | with_reducible refine below_drewN ?_ _ | with_reducible refine bw_alloc ?_ _ | (with_reducible refine bw_set ?_ ?_ _; focus (dsimp only; omega)) | (with_reducible apply bw_behind; with_reducible assumption))); (focus (repeat (first | with_reducible assumption | with_reducible refine k_dr _ ?_ | with_reducible refine k_d1 ?_ | exact row_new rfl rfl | with_reducible refine k_al _ ?_ | (with_reducible apply k_be; with_reducible assumption)))); rintro e w1 ⟨R1, N1, sa1, na1, ca1, sb1, nb1, cb1, rfl, hM1, hb1, hR1, hN1⟩; have hr1 := below_reads hb1; have hh1 := below_holds hb1; obtain ⟨m1, hs1⟩ := below_grew hb1) | (go_at_call 9; (first | ((with_reducible refine (Cc2.out _ N1 _ ?_ ?_).mono ?_); (refine hT.behind ?_; repeat (first | with_reducible assumption | with_reducible exact Below.refl _ _ | with_reducible refine Below.drew ?_ | with_reducible refine below_drewN ?_ _ | with_reducible refine bw_alloc ?_ _ | (with_reducible refine bw_set ?_ ?_ _; focus (dsimp only; omega)) | (with_reducible apply bw_behind; with_reducible assumption))); (focus (repeat (first | with_reducible assumption | with_reducible refine mw_dr _ ?_ | with_reducible refine mw_d1 ?_ | with_reducible refine mw_al _ ?_ | (with_reducible apply mw_be; with_reducible assumption)))))); rintro e w2 ⟨rfl, hb2⟩; have hr2 := below_reads hb2; have hh2 := below_holds hb2; obtain ⟨m2, hs2⟩ := below_grew hb2) | (go_at_call 9; (first | ((with_reducible refine (Cc3.out _ N1 _ ?_ ?_).mono ?_); (refine hT.behind ?_; repeat (first | with_reducible assumption | with_reducible exact Below.refl _ _ | with_reducible refine Below.drew ?_ | with_reducible refine below_drewN ?_ _ | with_reducible refine bw_alloc ?_ _ | (with_reducible refine bw_set ?_ ?_ _; focus (dsimp only; omega)) | (with_reducible apply bw_behind; with_reducible assumption))); (focus (repeat (first | with_reducible assumption | with_reducible refine mw_dr _ ?_ | with_reducible refine mw_d1 ?_ | with_reducible refine mw_al _ ?_ | (with_reducible apply mw_be; with_reducible assumption)))))); rintro e w3 ⟨rfl, hb3⟩; have hr3 := below_reads hb3; have hh3 := below_holds hb3; obtain ⟨m3, hs3⟩ := below_grew hb3))
  go_ret
  refine ⟨rfl, ?_⟩
  repeat (first | with_reducible assumption | with_reducible exact Below.refl _ _ | with_reducible refine Below.drew ?_ | with_reducible refine below_drewN ?_ _ | with_reducible refine bw_alloc ?_ _ | (with_reducible refine bw_set ?_ ?_ _; focus (dsimp only; omega)) | (with_reducible apply bw_behind; with_reducible assumption))
theorem one_y : walkM (laidM ([⟨0, 0, true, false, false, false, false, false, false, false, false, false, false, false, 1#64⟩, ⟨1, 0, true, false, false, false, false, false, false, false, false, false, false, false, 2#64⟩, ⟨2, 3, true, true, false, false, false, false, false, false, false, false, false, false, 7#64⟩] : List LayD)) 8 0 12288 = some (7171#64, 8216) := by decide +kernel
theorem one_n : walkM (laidM ([⟨0, 0, true, false, false, false, false, false, false, false, false, false, false, false, 1#64⟩, ⟨1, 0, true, false, false, false, false, false, false, false, false, false, false, false, 2#64⟩, ⟨2, 3, true, true, false, false, false, false, false, false, false, false, false, false, 7#64⟩] : List LayD)) 8 0 16384 = none := by decide +kernel
theorem one_any (w : World) (hT : Tab w) : Calls Tryd.prog 11 #[] w (Makes (.bool true) w) := by
  refine one_let (laidM ([⟨0, 0, true, false, false, false, false, false, false, false, false, false, false, false, 1#64⟩, ⟨1, 0, true, false, false, false, false, false, false, false, false, false, false, false, 2#64⟩, ⟨2, 3, true, true, false, false, false, false, false, false, false, false, false, false, 7#64⟩] : List LayD)) (fun b W h hr => laid_row b 3 [⟨0, 0, true, false, false, false, false, false, false, false, false, false, false, false, 1#64⟩, ⟨1, 0, true, false, false, false, false, false, false, false, false, false, false, false, 2#64⟩, ⟨2, 3, true, true, false, false, false, false, false, false, false, false, false, false, 7#64⟩] rfl _ rfl _ rfl W h hr) (fun R N W h hM => ?_) (fun R N W h hM => ?_) w hT
  · have := walk_any R N 8 (by omega) _ 0#64 12288#64 W h hM
    rw [show (0#64).toNat = 0 from rfl, show (12288#64).toNat = 12288 from rfl, one_y] at this
    exact this
  · have := walk_any R N 8 (by omega) _ 0#64 16384#64 W h hM
    rw [show (0#64).toNat = 0 from rfl, show (16384#64).toNat = 16384 from rfl, one_n] at this
    exact this
end Go.Proofs.YtnookalplejneaaDoor
