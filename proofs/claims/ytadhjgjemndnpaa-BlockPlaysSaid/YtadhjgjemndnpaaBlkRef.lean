/-
  The document's device: failed, New, Read, Write.
-/
import Derived.Test.YtadhjgjemndnpaaBlkStr
import Derived.Test.YtadhjgjemndnpaaAppRow
namespace Go.Proofs.Ytadhjgjemndnpaa
open Go.RowKit

/-- The device by value: its slice of blocks, and how many calls are to fail. -/
abbrev refV (s : Option Addr) (l c : Nat) (f : Int) : Value := .agg #[.slice s l c, .int .i64 f]
/-- The first n blocks as texts. -/
def strsL (n : Nat) (C : Nat → List UInt8) : List Value := (List.range n).map (fun j => .string (str (C j)))
theorem strsL_length (n : Nat) (C : Nat → List UInt8) : (strsL n C).length = n := by simp [strsL]
theorem strsL_get {n j : Nat} {C : Nat → List UInt8} (h : j < n) : (strsL n C)[j]? = some (.string (str (C j))) := by simp [strsL, h]
theorem strsL_at {n j : Nat} {C : Nat → List UInt8} {u : Value} (h : (strsL n C)[j]? = some u) : j < n ∧ u = .string (str (C j)) := by
  have hj : j < n := by
    have := (List.getElem?_eq_some_iff.1 h).1
    rwa [strsL_length] at this
  rw [strsL_get hj] at h
  exact ⟨hj, (Option.some.inj h).symm⟩
theorem strsL_one (n : Nat) (C : Nat → List UInt8) : ∀ u ∈ strsL n C, u.oneCell' = true := fun u hu => by
  obtain ⟨j, _, rfl⟩ := List.mem_map.1 hu
  rfl

set_option maxHeartbeats 1000000 in
theorem rfailed_no (s : Option Addr) (l c : Nat) (f : Int) (hf : f < 1) (w : World) : Calls Try.prog 18 #[refV s l c f] w (Makes (.tuple #[refV s l c f, .bool false]) w) := by
  unfold refV
  go_enter Try.func18, Try.ntmps18
  go_wp2
  refine bodyPost_ret (v := .tuple #[.agg #[.slice s l c, .int .i64 f], .bool false]) (by simp (maxDischargeDepth := 4) [results, Try.results18, go_sem, *]) rfl ?_
  exact ⟨rfl, by repeat (first | with_reducible assumption | with_reducible exact Below.refl _ _ | with_reducible refine Below.drew ?_ | with_reducible refine below_drewN ?_ _ | with_reducible refine bw_alloc ?_ _ | (with_reducible refine bw_set ?_ ?_ _; focus (dsimp only; omega)) | (with_reducible apply bw_behind; with_reducible assumption))⟩

set_option maxHeartbeats 1000000 in
theorem rfailed_yes (s : Option Addr) (l c : Nat) (f : Int) (g : Int) (hf : ¬ f < 1) (hg : wrap64 (f - 1) = g) (w : World) : Calls Try.prog 18 #[refV s l c f] w (Makes (.tuple #[refV s l c g, .bool true]) w) := by
  unfold refV
  go_enter Try.func18, Try.ntmps18
  go_wp2
  refine bodyPost_ret (v := .tuple #[.agg #[.slice s l c, .int .i64 g], .bool true]) (by simp (maxDischargeDepth := 4) [results, Try.results18, go_sem, *]) rfl ?_
  exact ⟨rfl, by repeat (first | with_reducible assumption | with_reducible exact Below.refl _ _ | with_reducible refine Below.drew ?_ | with_reducible refine below_drewN ?_ _ | with_reducible refine bw_alloc ?_ _ | (with_reducible refine bw_set ?_ ?_ _; focus (dsimp only; omega)) | (with_reducible apply bw_behind; with_reducible assumption))⟩

set_option maxHeartbeats 1000000 in
theorem rread_bad (s : Option Addr) (l c : Nat) (f : Int) (i : Int) (hi : i < 0 ∨ (l : Int) ≤ i) (w : World) : Calls Try.prog 13 #[refV s l c f, .int .i64 i] w (Makes (.tuple #[refV s l c f, .string ⟨#[]⟩, .int .i64 2]) w) := by
  unfold refV
  by_cases h1 : i < 0
  · go_enter Try.func13, Try.ntmps13
    go_wp2
    refine bodyPost_ret (v := .tuple #[.agg #[.slice s l c, .int .i64 f], .string ⟨#[]⟩, .int .i64 2]) (by simp (maxDischargeDepth := 4) [results, Try.results13, go_sem, *]) rfl ?_
    exact ⟨rfl, by repeat (first | with_reducible assumption | with_reducible exact Below.refl _ _ | with_reducible refine Below.drew ?_ | with_reducible refine below_drewN ?_ _ | with_reducible refine bw_alloc ?_ _ | (with_reducible refine bw_set ?_ ?_ _; focus (dsimp only; omega)) | (with_reducible apply bw_behind; with_reducible assumption))⟩
  · have h2 : (l : Int) ≤ i := by omega
    go_enter Try.func13, Try.ntmps13
    go_wp2
    refine bodyPost_ret (v := .tuple #[.agg #[.slice s l c, .int .i64 f], .string ⟨#[]⟩, .int .i64 2]) (by simp (maxDischargeDepth := 4) [results, Try.results13, go_sem, *]) rfl ?_
    exact ⟨rfl, by repeat (first | with_reducible assumption | with_reducible exact Below.refl _ _ | with_reducible refine Below.drew ?_ | with_reducible refine below_drewN ?_ _ | with_reducible refine bw_alloc ?_ _ | (with_reducible refine bw_set ?_ ?_ _; focus (dsimp only; omega)) | (with_reducible apply bw_behind; with_reducible assumption))⟩

set_option maxHeartbeats 1000000 in
theorem rread_fails (s : Option Addr) (l c : Nat) (f : Int) (g i : Int) (h0 : ¬ i < 0) (hi : ¬ (l : Int) ≤ i) (hf : ¬ f < 1) (hg : wrap64 (f - 1) = g) (w : World) : Calls Try.prog 13 #[refV s l c f, .int .i64 i] w (Makes (.tuple #[refV s l c g, .string ⟨#[]⟩, .int .i64 17]) w) := by
  unfold refV
  have C1 := hide (rfailed_yes s l c f g hf hg)
  unfold refV at C1
  have SS := cell_same
  have LB := ltB_add
  have LS := ltB_self
  have LA := alloc_reads
  have LH := alloc_holds
  go_enter Try.func13, Try.ntmps13
  go_wp2_with ((go_at_call 18; refine (C1.out _).mono ?_; rintro e w1 ⟨rfl, hb1⟩; have hr1 := below_reads hb1; have hh1 := below_holds hb1; obtain ⟨m1, hs1⟩ := below_grew hb1))
  go_wp2
  refine bodyPost_ret (v := .tuple #[.agg #[.slice s l c, .int .i64 g], .string ⟨#[]⟩, .int .i64 17]) (by simp (maxDischargeDepth := 4) [results, Try.results13, go_sem, *]) rfl ?_
  exact ⟨rfl, by repeat (first | with_reducible assumption | with_reducible exact Below.refl _ _ | with_reducible refine Below.drew ?_ | with_reducible refine below_drewN ?_ _ | with_reducible refine bw_alloc ?_ _ | (with_reducible refine bw_set ?_ ?_ _; focus (dsimp only; omega)) | (with_reducible apply bw_behind; with_reducible assumption))⟩

set_option maxHeartbeats 1000000 in
theorem rwrite_bad (s : Option Addr) (l c : Nat) (f : Int) (i : Int) (S : ByteArray) (hi : i < 0 ∨ (l : Int) ≤ i ∨ ((S.size : Int) != 4096) = true) (w : World) : Calls Try.prog 11 #[refV s l c f, .int .i64 i, .string S] w (Makes (.tuple #[refV s l c f, .int .i64 2]) w) := by
  unfold refV
  by_cases h1 : i < 0
  · go_enter Try.func11, Try.ntmps11
    go_wp2
    refine bodyPost_ret (v := .tuple #[.agg #[.slice s l c, .int .i64 f], .int .i64 2]) (by simp (maxDischargeDepth := 4) [results, Try.results11, go_sem, *]) rfl ?_
    exact ⟨rfl, by repeat (first | with_reducible assumption | with_reducible exact Below.refl _ _ | with_reducible refine Below.drew ?_ | with_reducible refine below_drewN ?_ _ | with_reducible refine bw_alloc ?_ _ | (with_reducible refine bw_set ?_ ?_ _; focus (dsimp only; omega)) | (with_reducible apply bw_behind; with_reducible assumption))⟩
  by_cases h2 : (l : Int) ≤ i
  · go_enter Try.func11, Try.ntmps11
    go_wp2
    refine bodyPost_ret (v := .tuple #[.agg #[.slice s l c, .int .i64 f], .int .i64 2]) (by simp (maxDischargeDepth := 4) [results, Try.results11, go_sem, *]) rfl ?_
    exact ⟨rfl, by repeat (first | with_reducible assumption | with_reducible exact Below.refl _ _ | with_reducible refine Below.drew ?_ | with_reducible refine below_drewN ?_ _ | with_reducible refine bw_alloc ?_ _ | (with_reducible refine bw_set ?_ ?_ _; focus (dsimp only; omega)) | (with_reducible apply bw_behind; with_reducible assumption))⟩
  · have h3 : ((S.size : Int) != 4096) = true := by rcases hi with h | h | h <;> first | omega | exact h
    go_enter Try.func11, Try.ntmps11
    go_wp2
    refine bodyPost_ret (v := .tuple #[.agg #[.slice s l c, .int .i64 f], .int .i64 2]) (by simp (maxDischargeDepth := 4) [results, Try.results11, go_sem, *]) rfl ?_
    exact ⟨rfl, by repeat (first | with_reducible assumption | with_reducible exact Below.refl _ _ | with_reducible refine Below.drew ?_ | with_reducible refine below_drewN ?_ _ | with_reducible refine bw_alloc ?_ _ | (with_reducible refine bw_set ?_ ?_ _; focus (dsimp only; omega)) | (with_reducible apply bw_behind; with_reducible assumption))⟩

set_option maxHeartbeats 1000000 in
theorem rwrite_fails (s : Option Addr) (l c : Nat) (f : Int) (g i : Int) (S : ByteArray) (h0 : ¬ i < 0) (hi : ¬ (l : Int) ≤ i) (hS : ((S.size : Int) != 4096) = false) (hf : ¬ f < 1) (hg : wrap64 (f - 1) = g) (w : World) : Calls Try.prog 11 #[refV s l c f, .int .i64 i, .string S] w (Makes (.tuple #[refV s l c g, .int .i64 17]) w) := by
  unfold refV
  have C1 := hide (rfailed_yes s l c f g hf hg)
  unfold refV at C1
  have SS := cell_same
  have LB := ltB_add
  have LS := ltB_self
  have LA := alloc_reads
  have LH := alloc_holds
  go_enter Try.func11, Try.ntmps11
  go_wp2_with ((go_at_call 18; refine (C1.out _).mono ?_; rintro e w1 ⟨rfl, hb1⟩; have hr1 := below_reads hb1; have hh1 := below_holds hb1; obtain ⟨m1, hs1⟩ := below_grew hb1))
  go_wp2
  refine bodyPost_ret (v := .tuple #[.agg #[.slice s l c, .int .i64 g], .int .i64 17]) (by simp (maxDischargeDepth := 4) [results, Try.results11, go_sem, *]) rfl ?_
  exact ⟨rfl, by repeat (first | with_reducible assumption | with_reducible exact Below.refl _ _ | with_reducible refine Below.drew ?_ | with_reducible refine below_drewN ?_ _ | with_reducible refine bw_alloc ?_ _ | (with_reducible refine bw_set ?_ ?_ _; focus (dsimp only; omega)) | (with_reducible apply bw_behind; with_reducible assumption))⟩

end Go.Proofs.Ytadhjgjemndnpaa
