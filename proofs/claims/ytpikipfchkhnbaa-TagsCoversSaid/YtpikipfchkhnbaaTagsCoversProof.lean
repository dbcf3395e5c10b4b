/-
  TagsCovers holds: for every off and n the law returns true and turns nothing that was there.
-/
import Derived.Test.YtpikipfchkhnbaaTag7
import Derived.Test.YtpikipfchkhnbaaLawFrame
namespace Go.Proofs.Ytpikipfchkhnbaa.TagsCovers
open Go.RowKit Words

theorem eq_arr (x0 x1 x2 x3 y0 y1 y2 y3 : Int) : ∀ W, (binOp .eql 24 (.agg #[.int .u64 x0, .int .u64 x1, .int .u64 x2, .int .u64 x3]) (.agg #[.int .u64 y0, .int .u64 y1, .int .u64 y2, .int .u64 y3])).run Try.prog W = .ok (.bool (decide (x0 = y0 ∧ x1 = y1 ∧ x2 = y2 ∧ x3 = y3))) W := fun W => by
  rw [run_eql_struct, eqi_arr]
  rfl

set_option maxRecDepth 100000 in
set_option maxHeartbeats 8000000 in
theorem walk_y (X N A0 A1 A2 A3 Q : Int) (c1 : ∀ W, Calls Try.prog 16 #[.int .i64 X] W (Makes (.tuple #[.int .i64 Q, .bool true]) W)) (c2 : ∀ W, Calls Try.prog 17 #[.int .i64 X, .int .i64 N] W (Makes (.agg #[.int .u64 A0, .int .u64 A1, .int .u64 A2, .int .u64 A3]) W)) (c3 : ∀ W, Calls Try.prog 18 #[.int .i64 X, .int .i64 N] W (Makes (.agg #[.int .u64 A0, .int .u64 A1, .int .u64 A2, .int .u64 A3]) W)) (c4 : ∀ W, Calls Try.prog 17 #[.int .i64 15, .int .i64 2] W (Makes (.agg #[.int .u64 3, .int .u64 0, .int .u64 0, .int .u64 0]) W)) (_h0 : 0 ≤ X) (_h1 : X < 4096) (_hm : X % 16 = 0) (_hmt : X.tmod 16 = 0) (_hq : X / 16 = Q) (_hqt : X.tdiv 16 = Q) (_hqw : RowKit.wrap64 (X.tdiv 16) = Q) (w : World) :
    Calls Try.prog 4 #[.int .i64 X, .int .i64 N] w (Makes (.bool true) w) := by
  have Cc1 := hide c1
  have Cc2 := hide c2
  have Cc3 := hide c3
  have Cc4 := hide c4
  clear c1 c2 c3 c4
  have E1 := eq_arr A0 A1 A2 A3 A0 A1 A2 A3
  rw [decide_eq_true ⟨rfl, rfl, rfl, rfl⟩] at E1
  have E2 := eq_arr 3 0 0 0 3 0 0 0
  rw [decide_eq_true ⟨rfl, rfl, rfl, rfl⟩] at E2
  have SS := cell_same
  have LB' := ltB_add
  have LS := ltB_self
  have LA' := alloc_reads
  have LH := alloc_holds
  go_enter Try.func4, Try.ntmps4
  go_wp2_with (first | (go_at_call 16; (with_reducible first | refine (Cc1.out _).mono ?_); rintro e wa ⟨rfl, hba⟩; have hra := below_reads hba; have hha := below_holds hba; obtain ⟨ma, hsa⟩ := below_grew hba) | (go_at_call 17; (with_reducible first | refine (Cc2.out _).mono ?_ | refine (Cc4.out _).mono ?_); rintro e wb ⟨rfl, hbb⟩; have hrb := below_reads hbb; have hhb := below_holds hbb; obtain ⟨mb, hsb⟩ := below_grew hbb) | (go_at_call 18; (with_reducible first | refine (Cc3.out _).mono ?_); rintro e wc ⟨rfl, hbc⟩; have hrc := below_reads hbc; have hhc := below_holds hbc; obtain ⟨mc, hsc⟩ := below_grew hbc))
  refine bodyPost_ret (v := .bool true) (by simp (maxDischargeDepth := 4) [results, Try.results4, go_sem, *]) rfl ?_
  refine ⟨rfl, ?_⟩
  repeat (first | with_reducible assumption | with_reducible exact Below.refl _ _ | with_reducible refine Below.drew ?_ | with_reducible refine below_drewN ?_ _ | with_reducible refine bw_alloc ?_ _ | (with_reducible refine bw_set ?_ ?_ _; focus (dsimp only; omega)) | (with_reducible apply bw_behind; with_reducible assumption))

set_option maxRecDepth 100000 in
set_option maxHeartbeats 8000000 in
theorem walk_lo (X N A0 A1 A2 A3 : Int) (c1 : ∀ W, Calls Try.prog 16 #[.int .i64 X] W (Makes (.tuple #[.int .i64 0, .bool false]) W)) (c2 : ∀ W, Calls Try.prog 17 #[.int .i64 X, .int .i64 N] W (Makes (.agg #[.int .u64 A0, .int .u64 A1, .int .u64 A2, .int .u64 A3]) W)) (c3 : ∀ W, Calls Try.prog 18 #[.int .i64 X, .int .i64 N] W (Makes (.agg #[.int .u64 A0, .int .u64 A1, .int .u64 A2, .int .u64 A3]) W)) (c4 : ∀ W, Calls Try.prog 17 #[.int .i64 15, .int .i64 2] W (Makes (.agg #[.int .u64 3, .int .u64 0, .int .u64 0, .int .u64 0]) W)) (_h0 : ¬ 0 ≤ X) (w : World) :
    Calls Try.prog 4 #[.int .i64 X, .int .i64 N] w (Makes (.bool true) w) := by
  have Cc1 := hide c1
  have Cc2 := hide c2
  have Cc3 := hide c3
  have Cc4 := hide c4
  clear c1 c2 c3 c4
  have E1 := eq_arr A0 A1 A2 A3 A0 A1 A2 A3
  rw [decide_eq_true ⟨rfl, rfl, rfl, rfl⟩] at E1
  have E2 := eq_arr 3 0 0 0 3 0 0 0
  rw [decide_eq_true ⟨rfl, rfl, rfl, rfl⟩] at E2
  have SS := cell_same
  have LB' := ltB_add
  have LS := ltB_self
  have LA' := alloc_reads
  have LH := alloc_holds
  go_enter Try.func4, Try.ntmps4
  go_wp2_with (first | (go_at_call 16; (with_reducible first | refine (Cc1.out _).mono ?_); rintro e wa ⟨rfl, hba⟩; have hra := below_reads hba; have hha := below_holds hba; obtain ⟨ma, hsa⟩ := below_grew hba) | (go_at_call 17; (with_reducible first | refine (Cc2.out _).mono ?_ | refine (Cc4.out _).mono ?_); rintro e wb ⟨rfl, hbb⟩; have hrb := below_reads hbb; have hhb := below_holds hbb; obtain ⟨mb, hsb⟩ := below_grew hbb) | (go_at_call 18; (with_reducible first | refine (Cc3.out _).mono ?_); rintro e wc ⟨rfl, hbc⟩; have hrc := below_reads hbc; have hhc := below_holds hbc; obtain ⟨mc, hsc⟩ := below_grew hbc))
  refine bodyPost_ret (v := .bool true) (by simp (maxDischargeDepth := 4) [results, Try.results4, go_sem, *]) rfl ?_
  refine ⟨rfl, ?_⟩
  repeat (first | with_reducible assumption | with_reducible exact Below.refl _ _ | with_reducible refine Below.drew ?_ | with_reducible refine below_drewN ?_ _ | with_reducible refine bw_alloc ?_ _ | (with_reducible refine bw_set ?_ ?_ _; focus (dsimp only; omega)) | (with_reducible apply bw_behind; with_reducible assumption))

set_option maxRecDepth 100000 in
set_option maxHeartbeats 8000000 in
theorem walk_hi (X N A0 A1 A2 A3 : Int) (c1 : ∀ W, Calls Try.prog 16 #[.int .i64 X] W (Makes (.tuple #[.int .i64 0, .bool false]) W)) (c2 : ∀ W, Calls Try.prog 17 #[.int .i64 X, .int .i64 N] W (Makes (.agg #[.int .u64 A0, .int .u64 A1, .int .u64 A2, .int .u64 A3]) W)) (c3 : ∀ W, Calls Try.prog 18 #[.int .i64 X, .int .i64 N] W (Makes (.agg #[.int .u64 A0, .int .u64 A1, .int .u64 A2, .int .u64 A3]) W)) (c4 : ∀ W, Calls Try.prog 17 #[.int .i64 15, .int .i64 2] W (Makes (.agg #[.int .u64 3, .int .u64 0, .int .u64 0, .int .u64 0]) W)) (_h0 : 0 ≤ X) (_h1 : ¬ X < 4096) (w : World) :
    Calls Try.prog 4 #[.int .i64 X, .int .i64 N] w (Makes (.bool true) w) := by
  have Cc1 := hide c1
  have Cc2 := hide c2
  have Cc3 := hide c3
  have Cc4 := hide c4
  clear c1 c2 c3 c4
  have E1 := eq_arr A0 A1 A2 A3 A0 A1 A2 A3
  rw [decide_eq_true ⟨rfl, rfl, rfl, rfl⟩] at E1
  have E2 := eq_arr 3 0 0 0 3 0 0 0
  rw [decide_eq_true ⟨rfl, rfl, rfl, rfl⟩] at E2
  have SS := cell_same
  have LB' := ltB_add
  have LS := ltB_self
  have LA' := alloc_reads
  have LH := alloc_holds
  go_enter Try.func4, Try.ntmps4
  go_wp2_with (first | (go_at_call 16; (with_reducible first | refine (Cc1.out _).mono ?_); rintro e wa ⟨rfl, hba⟩; have hra := below_reads hba; have hha := below_holds hba; obtain ⟨ma, hsa⟩ := below_grew hba) | (go_at_call 17; (with_reducible first | refine (Cc2.out _).mono ?_ | refine (Cc4.out _).mono ?_); rintro e wb ⟨rfl, hbb⟩; have hrb := below_reads hbb; have hhb := below_holds hbb; obtain ⟨mb, hsb⟩ := below_grew hbb) | (go_at_call 18; (with_reducible first | refine (Cc3.out _).mono ?_); rintro e wc ⟨rfl, hbc⟩; have hrc := below_reads hbc; have hhc := below_holds hbc; obtain ⟨mc, hsc⟩ := below_grew hbc))
  refine bodyPost_ret (v := .bool true) (by simp (maxDischargeDepth := 4) [results, Try.results4, go_sem, *]) rfl ?_
  refine ⟨rfl, ?_⟩
  repeat (first | with_reducible assumption | with_reducible exact Below.refl _ _ | with_reducible refine Below.drew ?_ | with_reducible refine below_drewN ?_ _ | with_reducible refine bw_alloc ?_ _ | (with_reducible refine bw_set ?_ ?_ _; focus (dsimp only; omega)) | (with_reducible apply bw_behind; with_reducible assumption))

set_option maxRecDepth 100000 in
set_option maxHeartbeats 8000000 in
theorem walk_odd (X N A0 A1 A2 A3 M : Int) (c1 : ∀ W, Calls Try.prog 16 #[.int .i64 X] W (Makes (.tuple #[.int .i64 0, .bool false]) W)) (c2 : ∀ W, Calls Try.prog 17 #[.int .i64 X, .int .i64 N] W (Makes (.agg #[.int .u64 A0, .int .u64 A1, .int .u64 A2, .int .u64 A3]) W)) (c3 : ∀ W, Calls Try.prog 18 #[.int .i64 X, .int .i64 N] W (Makes (.agg #[.int .u64 A0, .int .u64 A1, .int .u64 A2, .int .u64 A3]) W)) (c4 : ∀ W, Calls Try.prog 17 #[.int .i64 15, .int .i64 2] W (Makes (.agg #[.int .u64 3, .int .u64 0, .int .u64 0, .int .u64 0]) W)) (_h0 : 0 ≤ X) (_h1 : X < 4096) (_hm : X % 16 = M) (_hmt : X.tmod 16 = M) (_hne : M ≠ 0) (_hnb : (M == 0) = false) (w : World) :
    Calls Try.prog 4 #[.int .i64 X, .int .i64 N] w (Makes (.bool true) w) := by
  have Cc1 := hide c1
  have Cc2 := hide c2
  have Cc3 := hide c3
  have Cc4 := hide c4
  clear c1 c2 c3 c4
  have E1 := eq_arr A0 A1 A2 A3 A0 A1 A2 A3
  rw [decide_eq_true ⟨rfl, rfl, rfl, rfl⟩] at E1
  have E2 := eq_arr 3 0 0 0 3 0 0 0
  rw [decide_eq_true ⟨rfl, rfl, rfl, rfl⟩] at E2
  have SS := cell_same
  have LB' := ltB_add
  have LS := ltB_self
  have LA' := alloc_reads
  have LH := alloc_holds
  go_enter Try.func4, Try.ntmps4
  go_wp2_with (first | (go_at_call 16; (with_reducible first | refine (Cc1.out _).mono ?_); rintro e wa ⟨rfl, hba⟩; have hra := below_reads hba; have hha := below_holds hba; obtain ⟨ma, hsa⟩ := below_grew hba) | (go_at_call 17; (with_reducible first | refine (Cc2.out _).mono ?_ | refine (Cc4.out _).mono ?_); rintro e wb ⟨rfl, hbb⟩; have hrb := below_reads hbb; have hhb := below_holds hbb; obtain ⟨mb, hsb⟩ := below_grew hbb) | (go_at_call 18; (with_reducible first | refine (Cc3.out _).mono ?_); rintro e wc ⟨rfl, hbc⟩; have hrc := below_reads hbc; have hhc := below_holds hbc; obtain ⟨mc, hsc⟩ := below_grew hbc))
  refine bodyPost_ret (v := .bool true) (by simp (maxDischargeDepth := 4) [results, Try.results4, go_sem, *]) rfl ?_
  refine ⟨rfl, ?_⟩
  repeat (first | with_reducible assumption | with_reducible exact Below.refl _ _ | with_reducible refine Below.drew ?_ | with_reducible refine below_drewN ?_ _ | with_reducible refine bw_alloc ?_ _ | (with_reducible refine bw_set ?_ ?_ _; focus (dsimp only; omega)) | (with_reducible apply bw_behind; with_reducible assumption))

theorem cover_three : coverS 15 2 = 3#256 := by decide +kernel
theorem walk (X N : Int) (w : World) (x0 : -9223372036854775808 ≤ X) (x1 : X < 9223372036854775808) (_n0 : -9223372036854775808 ≤ N) (n1 : N < 9223372036854775808) :
    Calls Try.prog 4 #[.int .i64 X, .int .i64 N] w fun e w' => e = .returned (.bool true) ∧ Below w.heap.size w w' := by
  have c1 := fun W => aligned_any X x0 x1 W
  have c2 := fun W => cover_any X N x0 n1 W
  have c3 := fun W => rcover_any X N x0 n1 W
  have c4 : ∀ W, Calls Try.prog 17 #[.int .i64 15, .int .i64 2] W (Makes (.agg #[.int .u64 3, .int .u64 0, .int .u64 0, .int .u64 0]) W) := fun W => by
    have h := cover_any 15 2 (by omega) (by omega) W
    rw [cover_three] at h
    exact h
  cases ha : alignB X with
  | true =>
    rw [ha, if_pos rfl] at c1
    obtain ⟨h0, h1, hm⟩ : 0 ≤ X ∧ X < 4096 ∧ X % 16 = 0 := by simpa [alignB] using ha
    have hd : X.tdiv 16 = X / 16 := Int.tdiv_eq_ediv_of_nonneg h0
    exact walk_y X N _ _ _ _ _ c1 c2 c3 c4 h0 h1 hm (by rw [Int.tmod_eq_emod_of_nonneg h0]; exact hm) rfl hd (by rw [hd]; unfold RowKit.wrap64; omega) w
  | false =>
    rw [ha, if_neg (by simp)] at c1
    by_cases h0 : 0 ≤ X
    · by_cases h1 : X < 4096
      · have hm : X % 16 ≠ 0 := fun e => by
          have : alignB X = true := by unfold alignB; simp [h0, h1, e]
          rw [ha] at this
          cases this
        exact walk_odd X N _ _ _ _ _ c1 c2 c3 c4 h0 h1 rfl (Int.tmod_eq_emod_of_nonneg h0) hm (by simpa using hm) w
      · exact walk_hi X N _ _ _ _ c1 c2 c3 c4 h0 h1 w
    · exact walk_lo X N _ _ _ _ c1 c2 c3 c4 h0 w
open Go.ChangeShapes Go.WideShapes Go.ChangeAt
theorem walks : Frame.Walks 4 Try.f4 := by
  intro H enc W base args ds ps hval hA
  rw [Try.params4] at hA hval
  obtain ⟨v0, v1, d0, d1, p0, p1, hargs, rfl, rfl, h0, h1⟩ := trodAll_two hA
  obtain rfl : args = #[v0, v1] := by cases args; simp_all
  obtain ⟨x0, rfl, rfl, rfl, w0⟩ := open_int Try.underlying3 (hval 0 3 v0 rfl rfl) h0
  obtain ⟨x1, rfl, rfl, rfl, w1⟩ := open_int Try.underlying3 (hval 1 3 v1 rfl rfl) h1
  exact walk x0 x1 W (Frame.wf_i64 w0).1 (Frame.wf_i64 w0).2 (Frame.wf_i64 w1).1 (Frame.wf_i64 w1).2
set_option maxRecDepth 100000 in
theorem proved : Rows.TagsCoversSaid :=
  OpenClaim.holds_of_wide 4 Try.f4 rfl rfl rfl rfl rfl rfl rfl ⟨rfl, rfl, rfl, rfl, rfl⟩ rfl rfl rfl rfl rfl (by kernel_rfl) Try.func4 (by kernel_rfl)
    (of_decide_eq_true (by kernel_rfl)) (by unfold Func.isWrapper; first | (rw [if_pos (by decide +kernel)]; kernel_rfl) | (rw [if_neg (by decide +kernel)]; exact ⟨rfl, rfl⟩))
    (fun os started H enc _ => Frame.lift os started H enc _ _ Rows.tagsCoversSpec 4 (by kernel_rfl) Try.func4 Try.underlying4 (by kernel_rfl) rfl (by kernel_rfl)
      (fun ds h => by match ds, h with | [_, _], _ => exact ⟨rfl, rfl, rfl⟩)
      (ChangeSpec.witness6 (enc := enc) (C := Try.checked) false ⟨#[], #[.int .i64 0, .int .i64 0], []⟩ 8 (by kernel_rfl) (by kernel_rfl) (by kernel_rfl) (by kernel_rfl)) walks)
end Go.Proofs.Ytpikipfchkhnbaa.TagsCovers
