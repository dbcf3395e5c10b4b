/-
  WalkFinds holds: for every l, root and va the law returns true and turns nothing that was there, where the table of places holds what the program's text lays.
-/
import Derived.Test.YtnookalplejneaaDoorWalkRWalk
import Derived.Test.YtnookalplejneaaDoorWalkOne
import Derived.Test.YtnookalplejneaaDoorWalkArg
import Derived.Test.YtnookalplejneaaDoorPteEq
namespace Go.Proofs.YtnookalplejneaaDoor.WalkFinds
open Go.RowKit Words FieldMath PteMath

theorem sl_al {W : World} {s : Option Addr} {n c : Nat} {l : List Value} (ob : Obj) (h : Sl W s n c l) : Sl (W.alloc ob) s n c l := sl_be (below_alloc (Below.refl _ _) (Nat.le_refl _) ob) h
set_option maxRecDepth 100000 in
set_option maxHeartbeats 8000000 in
theorem main (d0 d1 d2 d3 d4 d5 d6 d7 d8 d9 d10 d11 : Bool) (F A T V e : Int) (sl : Value) (M : Nat → Nat → BitVec 64) (LA LB : List Value) (w : World) (hT : Tab w) (c1 : ∀ W, Below w.heap.size w W → Calls Tryd.prog 8 #[sl] W (fun e W' => ∃ R N sa na ca sb nb cb, e = .returned (.tuple #[.pointer (some ⟨R, 0, none⟩), .agg #[.int .i64 8, .slice sa na ca, .slice sb nb cb, .slice none 0 0]]) ∧ MemW W' R N 8 M ∧ Sl W' sa na ca LA ∧ Sl W' sb nb cb LB ∧ Below W.heap.size W W' ∧ W.heap.size ≤ R ∧ W.heap.size ≤ N)) (c2 : ∀ R N W, Tab W → MemW W R N 8 M → Calls Tryd.prog 9 #[.pointer (some ⟨R, 0, none⟩), .int .u64 T, .int .u64 V] W (Makes (.tuple #[.agg #[.bool d0, .bool d1, .bool d2, .bool d3, .bool d4, .bool d5, .bool d6, .bool d7, .bool d8, .bool d9, .bool d10, .bool d11, .int .u64 F, .int .u64 A], .int .i64 e]) W)) (c3 : ∀ sa na ca sb nb cb W, Sl W sa na ca LA → Sl W sb nb cb LB → Calls Tryd.prog 10 #[.agg #[.int .i64 8, .slice sa na ca, .slice sb nb cb, .slice none 0 0], .int .u64 T, .int .u64 V] W (Makes (.tuple #[.agg #[.bool d0, .bool d1, .bool d2, .bool d3, .bool d4, .bool d5, .bool d6, .bool d7, .bool d8, .bool d9, .bool d10, .bool d11, .int .u64 F], .int .u64 A, .int .i64 e]) W)) (c4 : ∀ W, Tab W → Calls Tryd.prog 11 #[] W (Makes (.bool true) W)) : Calls Tryd.prog 3 #[sl, .int .u64 T, .int .u64 V] w (Makes (.bool true) w) := by
  have Cc1 := hide c1
  have Cc2 := hide c2
  have Cc3 := hide c3
  have Cc4 := hide c4
  clear c1 c2 c3 c4
  have SS := cell_same
  have LB' := ltB_add
  have LS := ltB_self
  have LA' := alloc_reads
  have LH := alloc_holds
  have EI : ∀ W, (Op.equalIn 10000 37 (.agg #[.bool d0, .bool d1, .bool d2, .bool d3, .bool d4, .bool d5, .bool d6, .bool d7, .bool d8, .bool d9, .bool d10, .bool d11, .int .u64 F]) (.agg #[.bool d0, .bool d1, .bool d2, .bool d3, .bool d4, .bool d5, .bool d6, .bool d7, .bool d8, .bool d9, .bool d10, .bool d11, .int .u64 F])).run Tryd.prog W = .ok true W := fun W => by rw [eqi_r, decide_eq_true rfl]
  have EQ : ∀ W, (binOp .eql 37 (.agg #[.bool d0, .bool d1, .bool d2, .bool d3, .bool d4, .bool d5, .bool d6, .bool d7, .bool d8, .bool d9, .bool d10, .bool d11, .int .u64 F]) (.agg #[.bool d0, .bool d1, .bool d2, .bool d3, .bool d4, .bool d5, .bool d6, .bool d7, .bool d8, .bool d9, .bool d10, .bool d11, .int .u64 F])).run Tryd.prog W = .ok (.bool true) W := fun W => by rw [eq_r, decide_eq_true rfl]
  go_enter Tryd.func3, Tryd.ntmps3
  go_wp2_with (first | (go_at_call 8; (with_reducible refine (Cc1.out _ ?_).mono ?_); (focus (repeat (first | with_reducible assumption | with_reducible exact Below.refl _ _ | with_reducible refine Below.drew ?_ | with_reducible refine below_drewN ?_ _ | with_reducible refine bw_alloc ?_ _ | (with_reducible refine bw_set ?_ ?_ _; focus (dsimp only; omega)) | (with_reducible apply bw_behind; with_reducible assumption)))); rintro _ w1 ⟨R1, N1, sa1, na1, ca1, sb1, nb1, cb1, rfl, hM1, hA1, hB1, hb1, hR1, hN1⟩; have hr1 := below_reads hb1; have hh1 := below_holds hb1; obtain ⟨m1, hs1⟩ := below_grew hb1) | (go_at_call 9; (with_reducible refine (Cc2.out _ N1 _ ?_ ?_).mono ?_); (refine hT.behind ?_; repeat (first | with_reducible assumption | with_reducible exact Below.refl _ _ | with_reducible refine Below.drew ?_ | with_reducible refine below_drewN ?_ _ | with_reducible refine bw_alloc ?_ _ | (with_reducible refine bw_set ?_ ?_ _; focus (dsimp only; omega)) | (with_reducible apply bw_behind; with_reducible assumption))); (focus (repeat (first | with_reducible assumption | with_reducible refine mw_dr _ ?_ | with_reducible refine mw_d1 ?_ | with_reducible refine mw_al _ ?_ | (with_reducible apply mw_be; with_reducible assumption)))); rintro _ w2 ⟨rfl, hb2⟩; have hr2 := below_reads hb2; have hh2 := below_holds hb2; obtain ⟨m2, hs2⟩ := below_grew hb2) | (go_at_call 10; (with_reducible refine (Cc3.out _ _ _ _ _ _ _ ?_ ?_).mono ?_); (focus (repeat (first | with_reducible assumption | (with_reducible apply sl_be; with_reducible assumption) | with_reducible refine sl_dr _ ?_ | with_reducible refine sl_d1 ?_ | with_reducible refine sl_al _ ?_))); (focus (repeat (first | with_reducible assumption | (with_reducible apply sl_be; with_reducible assumption) | with_reducible refine sl_dr _ ?_ | with_reducible refine sl_d1 ?_ | with_reducible refine sl_al _ ?_))); rintro _ w3 ⟨rfl, hb3⟩; have hr3 := below_reads hb3; have hh3 := below_holds hb3; obtain ⟨m3, hs3⟩ := below_grew hb3) | (go_at_call 11; (with_reducible refine (Cc4.out _ ?_).mono ?_); (refine hT.behind ?_; repeat (first | with_reducible assumption | with_reducible exact Below.refl _ _ | with_reducible refine Below.drew ?_ | with_reducible refine below_drewN ?_ _ | with_reducible refine bw_alloc ?_ _ | (with_reducible refine bw_set ?_ ?_ _; focus (dsimp only; omega)) | (with_reducible apply bw_behind; with_reducible assumption))); rintro _ w4 ⟨rfl, hb4⟩; have hr4 := below_reads hb4; have hh4 := below_holds hb4; obtain ⟨m4, hs4⟩ := below_grew hb4))
  go_ret
  refine ⟨rfl, ?_⟩
  repeat (first | with_reducible assumption | with_reducible exact Below.refl _ _ | with_reducible refine Below.drew ?_ | with_reducible refine below_drewN ?_ _ | with_reducible refine bw_alloc ?_ _ | (with_reducible refine bw_set ?_ ?_ _; focus (dsimp only; omega)) | (with_reducible apply bw_behind; with_reducible assumption))
theorem walk (sl : Value) (root v : BitVec 64) (w : World) (hT : Tab w) (hl : ∃ l, IsLays w l sl) : Calls Tryd.prog 3 #[sl, .int .u64 (root.toNat : Int), .int .u64 (v.toNat : Int)] w (Makes (.bool true) w) := by
  obtain ⟨l, hl⟩ := hl
  have c2 := fun R N W h1 h2 => walk_any R N 8 (by omega) (laidM (l.take 60)) root v W h1 h2
  have c3 := fun sa na ca sb nb cb W h1 h2 => rwalk_any (l.take 60) (by rw [List.length_take]; omega) sa na ca sb nb cb root v W h1 h2
  cases hw : walkM (laidM (l.take 60)) 8 root.toNat v.toNat with
  | none =>
    rw [hw] at c2 c3
    exact main false false false false false false false false false false false false 0 0 _ _ 1 sl _ _ _ w hT (laid_arg hl hT) c2 c3 (fun W h => one_any W h)
  | some x =>
    obtain ⟨x, a⟩ := x
    rw [hw] at c2 c3
    exact main (x.getLsbD 0) (x.getLsbD 1) (x.getLsbD 2) (x.getLsbD 3) (x.getLsbD 4) (x.getLsbD 5) (x.getLsbD 6) (x.getLsbD 7) (x.getLsbD 58) (x.getLsbD 59) (x.getLsbD 60) (x.getLsbD 61) _ _ _ _ 0 sl _ _ _ w hT (laid_arg hl hT) c2 c3 (fun W h => one_any W h)

open Go.ChangeShapes Go.WideShapes Go.ChangeAt
set_option maxRecDepth 100000 in
theorem walks : Frame.WalksLaid [("mintmark/pte.places", Rows.laid_mintmark_pte_places)] 3 Tryd.f3 := by
  intro H enc W base args ds ps hL hval hA
  rw [Tryd.params3] at hA hval
  obtain ⟨v0, v1, v2, d0, d1, d2, p0, p1, p2, hargs, rfl, rfl, h0, h1, h2⟩ := trodAll_three hA
  obtain rfl : args = #[v0, v1, v2] := by cases args; simp_all
  have e0 := open_lays (hval 0 22 v0 rfl rfl) h0
  obtain ⟨x1, rfl, rfl, rfl, w1⟩ := open_int Tryd.underlying23 (hval 1 23 v1 rfl rfl) h1
  obtain ⟨x2, rfl, rfl, rfl, w2⟩ := open_int Tryd.underlying23 (hval 2 23 v2 rfl rfl) h2
  obtain ⟨X1, rfl⟩ := Frame.wf_u64 w1
  obtain ⟨X2, rfl⟩ := Frame.wf_u64 w2
  exact walk v0 X1 X2 W (tab_of_laid hL) e0
set_option maxRecDepth 100000 in
theorem said : Rows.WalkFindsSaid :=
  OpenClaim.holds_of_wide 3 Tryd.f3 rfl rfl rfl rfl rfl rfl rfl ⟨rfl, rfl, rfl, rfl, rfl⟩ rfl rfl rfl rfl rfl (by kernel_rfl) Tryd.func3 (by kernel_rfl)
    (of_decide_eq_true (by kernel_rfl)) (by unfold Func.isWrapper; first | (rw [if_pos (by decide +kernel)]; kernel_rfl) | (rw [if_neg (by decide +kernel)]; exact ⟨rfl, rfl⟩))
    (fun os started H enc _ => Frame.liftLaid [("mintmark/pte.places", Rows.laid_mintmark_pte_places)] os started H enc _ _ Rows.walkFindsSpec 4 (by kernel_rfl) Tryd.func3 Tryd.underlying4 (by kernel_rfl) rfl (by kernel_rfl)
      (fun ds h => by match ds, h with | [_, _, _], _ => exact ⟨rfl, rfl, rfl⟩)
      (ChangeSpec.witness_shaped (enc := enc) (C := Tryd.checked) (os := os) (X := fun w _ => laidMetH Tryd.prog [("mintmark/pte.places", Rows.laid_mintmark_pte_places)] w) false (World.doorLaid Tryd.prog 400 os) #[.slice none 0 0, .int .u64 0, .int .u64 0] 8 rfl (World.shaped_of_RefB (by kernel_rfl) (by kernel_rfl)) (by kernel_rfl) (by kernel_rfl) (by kernel_rfl) (door_met os _)) walks)
set_option maxRecDepth 100000 in
theorem proved : Rows.WalkFindsCardSaid :=
  Claim7.holds_tied_plain_at .later [] [.data] true _ false said (fun _ h => by cases h) (by kernel_rfl) (fun _ h => by cases h) walkFinds_row_tie rfl ⟨rfl, rfl⟩ (by kernel_rfl) rfl
    (fun f fn hf hfn => by
      obtain rfl : f = 3 := Option.some.inj ((show Tryd.prog.funcNamed "mintmark/mintmarklaw10.WalkFinds" = some 3 by kernel_rfl).symm.trans hf) |>.symm
      obtain rfl : fn = Tryd.f3 := (Option.some.inj (Tryd.func3.symm.trans hfn)).symm
      exact ⟨by kernel_rfl, fun j t ht => by
        rw [Tryd.params3] at ht
        have hm : t ∈ [22, 23] := by have := Array.mem_of_getElem? ht; simp at this; simp; first | omega | grind
        have hall : ([22, 23].all fun u => !Tryd.prog.wantsStandIn u) = true := by kernel_rfl
        exact (show Tryd.prog.wantsStandIn t = false by simpa using List.all_eq_true.1 hall t hm)⟩)
    (by kernel_rfl)
end Go.Proofs.YtnookalplejneaaDoor.WalkFinds
