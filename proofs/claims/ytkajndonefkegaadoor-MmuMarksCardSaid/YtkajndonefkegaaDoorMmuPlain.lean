/-
  What Plain answers.
-/
import Derived.Test.YtkajndonefkegaaDoorMmuAll
namespace Go.Proofs.YtkajndonefkegaaDoor
open Go.RowKit Words FieldMath PteMath

set_option maxRecDepth 100000 in
set_option maxHeartbeats 8000000 in
theorem plain_none  (N R K C : Nat) (M : Nat → List Ln) (Mm : Nat → Nat → BitVec 64) (P A V k : Int) (G t : Bool) (c2 : ∀ W, Tab W → MemW W R K C Mm → Calls Tryd.prog 41 #[.pointer (some ⟨R, 0, none⟩), .int .u64 P, .int .u64 V] W (Makes (.tuple #[.agg #[.bool false, .bool false, .bool false, .bool false, .bool false, .bool false, .bool false, .bool false, .bool false, .bool false, .bool false, .bool false, .int .u64 0, .int .u64 0], .int .i64 1]) W)) (w : World) (hT : Tab w) (hM : MemW w R K C Mm) (hU : UnitAt N M P A G w) : Calls Tryd.prog 9 #[.pointer (some ⟨N, 0, none⟩), .pointer (some ⟨R, 0, none⟩), .int .u64 V, .int .i64 k, .bool t] w (Makes (.tuple #[.agg #[.int .u64 0, .bool false], .int .i64 1]) w) := by
  have Cc2 := hide c2
  clear c2
  have SS := cell_same
  have LB' := ltB_add
  have LS := ltB_self
  have LA' := alloc_reads
  have LH := alloc_holds
  have hN := hU.here
  have hLn0 : ltB N w.heap.size = true := decide_eq_true hN
  have p0 := hU.root
  go_enter Tryd.func9, Tryd.ntmps9
  go_wp2_with (first | (go_at_call 41; (with_reducible refine (Cc2.out _ ?_ ?_).mono ?_); (refine hT.behind ?_; repeat (first | with_reducible assumption | with_reducible exact Below.refl _ _ | with_reducible refine Below.drew ?_ | with_reducible refine below_drewN ?_ _ | with_reducible refine bw_alloc ?_ _ | (with_reducible refine bw_set ?_ ?_ _; focus (dsimp only; omega)) | (with_reducible apply bw_behind; with_reducible assumption))); (focus (repeat (first | with_reducible assumption | with_reducible refine mw_dr _ ?_ | with_reducible refine mw_d1 ?_ | with_reducible refine mw_al _ ?_ | (with_reducible apply mw_be; with_reducible assumption)))); rintro e w2 ⟨rfl, hb2⟩; have hr2 := below_reads hb2; have hh2 := below_holds hb2; obtain ⟨m2, hs2⟩ := below_grew hb2))
  refine bodyPost_ret (v := .tuple #[.agg #[.int .u64 0, .bool false], .int .i64 1]) (by simp (maxDischargeDepth := 4) [results, Tryd.results9, go_sem, *]) rfl ?_
  refine ⟨rfl, ?_⟩
  repeat (first | with_reducible assumption | with_reducible exact Below.refl _ _ | with_reducible refine Below.drew ?_ | with_reducible refine below_drewN ?_ _ | with_reducible refine bw_alloc ?_ _ | (with_reducible refine bw_set ?_ ?_ _; focus (dsimp only; omega)) | (with_reducible apply bw_behind; with_reducible assumption))

set_option maxRecDepth 100000 in
set_option maxHeartbeats 8000000 in
theorem plain_some (b0 b1 b2 b3 b4 b5 b6 b7 b8 b9 b10 b11 : Bool) (F X : Int) (s : Bool) (z q : Int) (N R K C : Nat) (M : Nat → List Ln) (Mm : Nat → Nat → BitVec 64) (P A V k : Int) (G t : Bool) (c2 : ∀ W, Tab W → MemW W R K C Mm → Calls Tryd.prog 41 #[.pointer (some ⟨R, 0, none⟩), .int .u64 P, .int .u64 V] W (Makes (.tuple #[.agg #[.bool b0, .bool b1, .bool b2, .bool b3, .bool b4, .bool b5, .bool b6, .bool b7, .bool b8, .bool b9, .bool b10, .bool b11, .int .u64 F, .int .u64 X], .int .i64 0]) W)) (c3 : ∀ W, UnitAt N M P A G W → Calls Tryd.prog 33 #[.pointer (some ⟨N, 0, none⟩), .agg #[.bool b0, .bool b1, .bool b2, .bool b3, .bool b4, .bool b5, .bool b6, .bool b7, .bool b8, .bool b9, .bool b10, .bool b11, .int .u64 F], .int .u64 V, .int .i64 k, .bool t] W (Makes (.tuple #[.agg #[.int .u64 z, .bool s], .int .i64 q]) W)) (w : World) (hT : Tab w) (hM : MemW w R K C Mm) (hU : UnitAt N M P A G w) : Calls Tryd.prog 9 #[.pointer (some ⟨N, 0, none⟩), .pointer (some ⟨R, 0, none⟩), .int .u64 V, .int .i64 k, .bool t] w (Makes (.tuple #[.agg #[.int .u64 z, .bool s], .int .i64 q]) w) := by
  have Cc2 := hide c2
  have Cc3 := hide c3
  clear c2 c3
  have SS := cell_same
  have LB' := ltB_add
  have LS := ltB_self
  have LA' := alloc_reads
  have LH := alloc_holds
  have hN := hU.here
  have hLn0 : ltB N w.heap.size = true := decide_eq_true hN
  have p0 := hU.root
  go_enter Tryd.func9, Tryd.ntmps9
  go_wp2_with (first | (go_at_call 41; (with_reducible refine (Cc2.out _ ?_ ?_).mono ?_); (refine hT.behind ?_; repeat (first | with_reducible assumption | with_reducible exact Below.refl _ _ | with_reducible refine Below.drew ?_ | with_reducible refine below_drewN ?_ _ | with_reducible refine bw_alloc ?_ _ | (with_reducible refine bw_set ?_ ?_ _; focus (dsimp only; omega)) | (with_reducible apply bw_behind; with_reducible assumption))); (focus (repeat (first | with_reducible assumption | with_reducible refine mw_dr _ ?_ | with_reducible refine mw_d1 ?_ | with_reducible refine mw_al _ ?_ | (with_reducible apply mw_be; with_reducible assumption)))); rintro e w2 ⟨rfl, hb2⟩; have hr2 := below_reads hb2; have hh2 := below_holds hb2; obtain ⟨m2, hs2⟩ := below_grew hb2) | (go_at_call 33; (with_reducible refine (Cc3.out _ ?_).mono ?_); (focus (repeat (first | with_reducible assumption | with_reducible refine un_dr _ ?_ | with_reducible refine un_d1 ?_ | with_reducible refine un_al _ ?_ | (with_reducible refine un_set ?_ ?_; focus (dsimp only; omega)) | (with_reducible apply un_be; with_reducible assumption) | (with_reducible refine un_sc _ _ ?_ ?_; focus (dsimp only; omega))))); rintro e w6 ⟨rfl, hb6⟩; have hr6 := below_reads hb6; have hh6 := below_holds hb6; obtain ⟨m6, hs6⟩ := below_grew hb6))
  refine bodyPost_ret (v := .tuple #[.agg #[.int .u64 z, .bool s], .int .i64 q]) (by simp (maxDischargeDepth := 4) [results, Tryd.results9, go_sem, *]) rfl ?_
  refine ⟨rfl, ?_⟩
  repeat (first | with_reducible assumption | with_reducible exact Below.refl _ _ | with_reducible refine Below.drew ?_ | with_reducible refine below_drewN ?_ _ | with_reducible refine bw_alloc ?_ _ | (with_reducible refine bw_set ?_ ?_ _; focus (dsimp only; omega)) | (with_reducible apply bw_behind; with_reducible assumption))

theorem plain_any (N R K C : Nat) (hC2 : C ≤ 64) (M : Nat → List Ln) (Mm : Nat → Nat → BitVec 64) (root v : BitVec 64) (A k : Int) (t G : Bool) (w : World) (hT : Tab w) (hM : MemW w R K C Mm) (hU : UnitAt N M (root.toNat : Int) A G w) : Calls Tryd.prog 9 #[.pointer (some ⟨N, 0, none⟩), .pointer (some ⟨R, 0, none⟩), .int .u64 (v.toNat : Int), .int .i64 k, .bool t] w (Makes (outV (plainR Mm C root.toNat v.toNat k t G)) w) := by
  have c2 := fun W h1 h2 => walk_any R K C hC2 Mm root v W h1 h2
  unfold plainR
  cases hw : walkM Mm C root.toNat v.toNat with
  | none =>
    rw [hw] at c2
    exact plain_none N R K C M Mm _ A _ k G t c2 w hT hM hU
  | some y =>
    obtain ⟨x, a⟩ := y
    rw [hw] at c2
    have c3 := fun W h => access_any (x.getLsbD 0) (x.getLsbD 1) (x.getLsbD 2) (x.getLsbD 3) (x.getLsbD 4) (x.getLsbD 5) (x.getLsbD 6) (x.getLsbD 7) (x.getLsbD 58) (x.getLsbD 59) (x.getLsbD 60) (x.getLsbD 61) t (getB x 10 44) v k (N := N) (M := M) (P := (root.toNat : Int)) (A := A) (G := G) W h
    simp only [accV_eq] at c3
    exact plain_some (x.getLsbD 0) (x.getLsbD 1) (x.getLsbD 2) (x.getLsbD 3) (x.getLsbD 4) (x.getLsbD 5) (x.getLsbD 6) (x.getLsbD 7) (x.getLsbD 58) (x.getLsbD 59) (x.getLsbD 60) (x.getLsbD 61) _ _ _ _ _ N R K C M Mm _ A _ k G t c2 c3 w hT hM hU
end Go.Proofs.YtkajndonefkegaaDoor
