/-
  What flags answers: where the twelve Booleans of the entry are.
-/
import Derived.Test.YtnookalplejneaaDoorPteMath
import Derived.Test.YtnookalplejneaaDoorLong
import Derived.Deep.RegionHeld3
namespace Go.Proofs.YtnookalplejneaaDoor
open Go.RowKit Words FieldMath PteMath

set_option maxRecDepth 100000 in
theorem info12 : Option.map (fun x => x.size) (Tryd.prog.info? 87) = some 12 := by kernel_rfl
set_option maxRecDepth 100000 in
theorem one12 (b : Nat) : ∀ v ∈ [(.pointer (some ⟨b, 0, none⟩) : Value), (.pointer (some ⟨b, 1, none⟩) : Value), (.pointer (some ⟨b, 2, none⟩) : Value), (.pointer (some ⟨b, 3, none⟩) : Value), (.pointer (some ⟨b, 4, none⟩) : Value), (.pointer (some ⟨b, 5, none⟩) : Value), (.pointer (some ⟨b, 6, none⟩) : Value), (.pointer (some ⟨b, 7, none⟩) : Value), (.pointer (some ⟨b, 8, none⟩) : Value), (.pointer (some ⟨b, 9, none⟩) : Value), (.pointer (some ⟨b, 10, none⟩) : Value), (.pointer (some ⟨b, 11, none⟩) : Value)], v.oneCell' = true := by simp [Value.oneCell']
attribute [local irreducible] World.setCells in
set_option maxRecDepth 100000 in
set_option maxHeartbeats 4000000 in
theorem flags_any (b : Nat) (w : World) : Calls Tryd.prog 44 #[.pointer (some ⟨b, 0, none⟩)] w (Makes (.agg #[.pointer (some ⟨b, 0, none⟩), .pointer (some ⟨b, 1, none⟩), .pointer (some ⟨b, 2, none⟩), .pointer (some ⟨b, 3, none⟩), .pointer (some ⟨b, 4, none⟩), .pointer (some ⟨b, 5, none⟩), .pointer (some ⟨b, 6, none⟩), .pointer (some ⟨b, 7, none⟩), .pointer (some ⟨b, 8, none⟩), .pointer (some ⟨b, 9, none⟩), .pointer (some ⟨b, 10, none⟩), .pointer (some ⟨b, 11, none⟩)]) w) := by
  have SS := cell_same
  have LB' := ltB_add
  have LS := ltB_self
  have LA' := alloc_reads
  have LH := alloc_holds
  have i12 : Option.map (fun x => x.size) (Tryd.prog.info? 87) = some ([(.pointer (some ⟨b, 0, none⟩) : Value), (.pointer (some ⟨b, 1, none⟩) : Value), (.pointer (some ⟨b, 2, none⟩) : Value), (.pointer (some ⟨b, 3, none⟩) : Value), (.pointer (some ⟨b, 4, none⟩) : Value), (.pointer (some ⟨b, 5, none⟩) : Value), (.pointer (some ⟨b, 6, none⟩) : Value), (.pointer (some ⟨b, 7, none⟩) : Value), (.pointer (some ⟨b, 8, none⟩) : Value), (.pointer (some ⟨b, 9, none⟩) : Value), (.pointer (some ⟨b, 10, none⟩) : Value), (.pointer (some ⟨b, 11, none⟩) : Value)]).length := info12
  have o12 := one12 b
  go_enter Tryd.func44, Tryd.ntmps44
  go_wp2
  refine wp_abs (fun W => Below w.heap.size w W ∧ W.there w.heap.size 0 12) ?_ ?_
  · refine ⟨?_, ?_⟩
    · repeat (first | with_reducible exact Below.refl _ _ | with_reducible refine bw_alloc ?_ _)
    · exact th_own (o_new rfl (by first | simp | decide +kernel))
  rintro w0 ⟨hB0, h0⟩
  go_region_held3 (fun w' => w'.there w.heap.size 0 12 ∧ Below w.heap.size w w') (first | with_reducible assumption | (refine ⟨?_, ?_⟩ <;> first | with_reducible assumption | ((repeat (first | with_reducible assumption | with_reducible exact Below.refl _ _ | with_reducible refine Below.drew ?_ | with_reducible refine below_drewN ?_ _ | with_reducible refine bw_alloc ?_ _ | (with_reducible refine bw_set ?_ ?_ _; focus (dsimp only; omega)) | (with_reducible apply bw_behind; with_reducible assumption) | (with_reducible refine bw_sc _ ?_ ?_; focus omega))); done) | exact there_sc _ _ _ _ _ _ _ h0 | exact h0)) (first | fail)
  have hr : Row (w0.drew.setCells w.heap.size 0 [(.pointer (some ⟨b, 0, none⟩) : Value), (.pointer (some ⟨b, 1, none⟩) : Value), (.pointer (some ⟨b, 2, none⟩) : Value), (.pointer (some ⟨b, 3, none⟩) : Value), (.pointer (some ⟨b, 4, none⟩) : Value), (.pointer (some ⟨b, 5, none⟩) : Value), (.pointer (some ⟨b, 6, none⟩) : Value), (.pointer (some ⟨b, 7, none⟩) : Value), (.pointer (some ⟨b, 8, none⟩) : Value), (.pointer (some ⟨b, 9, none⟩) : Value), (.pointer (some ⟨b, 10, none⟩) : Value), (.pointer (some ⟨b, 11, none⟩) : Value)]) w.heap.size [(.pointer (some ⟨b, 0, none⟩) : Value), (.pointer (some ⟨b, 1, none⟩) : Value), (.pointer (some ⟨b, 2, none⟩) : Value), (.pointer (some ⟨b, 3, none⟩) : Value), (.pointer (some ⟨b, 4, none⟩) : Value), (.pointer (some ⟨b, 5, none⟩) : Value), (.pointer (some ⟨b, 6, none⟩) : Value), (.pointer (some ⟨b, 7, none⟩) : Value), (.pointer (some ⟨b, 8, none⟩) : Value), (.pointer (some ⟨b, 9, none⟩) : Value), (.pointer (some ⟨b, 10, none⟩) : Value), (.pointer (some ⟨b, 11, none⟩) : Value)] := row_sc h0
  have q0 := hr 0 _ rfl
  have q1 := hr 1 _ rfl
  have q2 := hr 2 _ rfl
  have q3 := hr 3 _ rfl
  have q4 := hr 4 _ rfl
  have q5 := hr 5 _ rfl
  have q6 := hr 6 _ rfl
  have q7 := hr 7 _ rfl
  have q8 := hr 8 _ rfl
  have q9 := hr 9 _ rfl
  have q10 := hr 10 _ rfl
  have q11 := hr 11 _ rfl
  clear hr
  go_wp2_with fail
  refine bodyPost_ret (v := .agg #[.pointer (some ⟨b, 0, none⟩), .pointer (some ⟨b, 1, none⟩), .pointer (some ⟨b, 2, none⟩), .pointer (some ⟨b, 3, none⟩), .pointer (some ⟨b, 4, none⟩), .pointer (some ⟨b, 5, none⟩), .pointer (some ⟨b, 6, none⟩), .pointer (some ⟨b, 7, none⟩), .pointer (some ⟨b, 8, none⟩), .pointer (some ⟨b, 9, none⟩), .pointer (some ⟨b, 10, none⟩), .pointer (some ⟨b, 11, none⟩)]) (by simp (maxDischargeDepth := 4) [results, Tryd.results44, go_sem, *]) rfl ?_
  refine ⟨rfl, ?_⟩
  repeat (first | with_reducible assumption | with_reducible exact Below.refl _ _ | with_reducible refine Below.drew ?_ | with_reducible refine below_drewN ?_ _ | with_reducible refine bw_alloc ?_ _ | (with_reducible refine bw_set ?_ ?_ _; focus (dsimp only; omega)) | (with_reducible apply bw_behind; with_reducible assumption) | (with_reducible refine bw_sc _ ?_ ?_; focus omega))
end Go.Proofs.YtnookalplejneaaDoor
