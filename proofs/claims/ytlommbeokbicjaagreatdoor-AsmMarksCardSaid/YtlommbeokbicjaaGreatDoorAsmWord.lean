/-
  What asm.branches, (*program).add, word's closure and (*program).word answer.
-/
import Derived.Test.YtlommbeokbicjaaGreatDoorAsmMap
import Derived.Test.YtlommbeokbicjaaGreatDoorAsmReadW
import Derived.Test.YtlommbeokbicjaaGreatDoorTail
namespace Go.Proofs.YtlommbeokbicjaaGreatDoor
open Go.RowKit InstMath AsmMath
open Go.Lib (itoa)

open Go.Maps
def brB (s : Nat) : Bool := s == 66 || s == 74

set_option maxHeartbeats 400000 in
theorem branches_any (s : Nat) (w : World) : Calls Tryz.prog 62 #[.int .u8 (s : Int)] w (Quiet (.bool (brB s)) w) := by
  by_cases h1 : s = 66
  · subst h1
    go_enter Tryz.func62, Tryz.ntmps62
    go_wp2
    go_ret
    exact ⟨rfl, 0, rfl⟩
  · have n1 : ((s : Int) == 66) = false := by simp; omega
    have hR := hide (show brB s = (s == 74) by unfold brB; simp [h1])
    by_cases h2 : s = 74
    · subst h2
      go_enter Tryz.func62, Tryz.ntmps62
      go_wp2
      go_ret
      exact ⟨rfl, 0, rfl⟩
    · have n2 : ((s : Int) == 74) = false := by simp; omega
      have hR2 := hide (show brB s = false by rw [hR.out]; simpa using h2)
      clear h1 h2 hR
      go_enter Tryz.func62, Tryz.ntmps62
      go_wp2
      go_ret
      exact ⟨ret_bool (by rw [hR2.out]), 0, rfl⟩

set_option maxHeartbeats 4000000 in
/-- A mark that was not there before. -/
theorem add_new (P mb k n : Nat) (h : List UInt8 → Option (Int × Int)) (s : List UInt8) (hs : s.length ≤ 1000) (hk : k < 20000) (hnone : h s = none) (w : World)
    (c1 : w.cell? ⟨P, 1, none⟩ = some (.map (some mb))) (c2 : w.cell? ⟨P, 2, none⟩ = some (.int .i64 (n : Int))) (hm : MapS w mb k h) :
    Calls Tryz.prog 59 #[.pointer (some ⟨P, 0, none⟩), .string (str s)] w fun e w' => e = .returned (.bool false) ∧ MapS w' mb (k + 1) (updS h s ((n : Int), 1)) ∧ OutB mb w w' := by
  have hlt : ltB P w.heap.size = true := by unfold ltB; simpa using World.block_lt_of_cell? _ _ c1
  have hmlt := hm.lt
  have hv : plV ((h s).getD (0, 0)) = .agg #[.int .i64 0, .int .i64 0] := by rw [hnone]; rfl
  have SS := cell_same
  have LB' := ltB_add
  have LS := ltB_self
  have LA' := alloc_reads
  have LH := alloc_holds
  go_enter Tryz.func59, Tryz.ntmps59
  go_upto_region 2 with (first | (at_lookup; refine wpList_look_ms rfl _ _ rfl rfl hm (by omega) rfl ?_; rw [hv]))
  refine wp_abs (fun W => Below w.heap.size w W ∧ W.cell? ⟨P, 1, none⟩ = some (.map (some mb)) ∧ W.cell? ⟨P, 2, none⟩ = some (.int .i64 (n : Int)) ∧ W.cell? ⟨w.heap.size, 0, none⟩ = some (.int .i64 0) ∧ W.cell? ⟨w.heap.size, 1, none⟩ = some (.int .i64 0) ∧ MapS W mb k h) ?_ ?_
  · refine ⟨?_, ?_, ?_, ?_, ?_, ?_⟩
    · repeat (first | with_reducible assumption | with_reducible exact Below.refl _ _ | with_reducible refine Below.drew ?_ | with_reducible refine below_drewN ?_ _ | with_reducible refine bw_alloc ?_ _ | (with_reducible refine bw_set ?_ ?_ _; focus (dsimp only; omega)) | (with_reducible apply bw_behind; with_reducible assumption))
    · (first | with_reducible assumption | ((repeat (first | with_reducible assumption | with_reducible refine c_dr _ ?_ | with_reducible refine c_d1 ?_ | with_reducible refine c_al _ ?_ | (with_reducible refine c_set ?_ ?_; focus (dsimp only; omega)) | (with_reducible apply c_be; with_reducible assumption))); done) | ((repeat (first | with_reducible assumption | with_reducible refine o_dr _ ?_ | with_reducible refine o_d1 ?_ | with_reducible refine o_set ?_ | (with_reducible refine o_new ?_ ?_; (focus (simp)); (focus (simp))) | with_reducible refine o_al _ ?_ | (with_reducible apply o_be; with_reducible assumption))); done) | ((repeat (first | with_reducible assumption | with_reducible exact Below.refl _ _ | with_reducible refine Below.drew ?_ | with_reducible refine below_drewN ?_ _ | with_reducible refine bw_alloc ?_ _ | (with_reducible refine bw_set ?_ ?_ _; focus (dsimp only; omega)) | (with_reducible apply bw_behind; with_reducible assumption))); done) | (simp [go_sem, *]; omega) | (simp (maxDischargeDepth := 4) [go_sem, *]; done))
    · (first | with_reducible assumption | ((repeat (first | with_reducible assumption | with_reducible refine c_dr _ ?_ | with_reducible refine c_d1 ?_ | with_reducible refine c_al _ ?_ | (with_reducible refine c_set ?_ ?_; focus (dsimp only; omega)) | (with_reducible apply c_be; with_reducible assumption))); done) | ((repeat (first | with_reducible assumption | with_reducible refine o_dr _ ?_ | with_reducible refine o_d1 ?_ | with_reducible refine o_set ?_ | (with_reducible refine o_new ?_ ?_; (focus (simp)); (focus (simp))) | with_reducible refine o_al _ ?_ | (with_reducible apply o_be; with_reducible assumption))); done) | ((repeat (first | with_reducible assumption | with_reducible exact Below.refl _ _ | with_reducible refine Below.drew ?_ | with_reducible refine below_drewN ?_ _ | with_reducible refine bw_alloc ?_ _ | (with_reducible refine bw_set ?_ ?_ _; focus (dsimp only; omega)) | (with_reducible apply bw_behind; with_reducible assumption))); done) | (simp [go_sem, *]; omega) | (simp (maxDischargeDepth := 4) [go_sem, *]; done))
    · (first | with_reducible assumption | ((repeat (first | with_reducible assumption | with_reducible refine c_dr _ ?_ | with_reducible refine c_d1 ?_ | with_reducible refine c_al _ ?_ | (with_reducible refine c_set ?_ ?_; focus (dsimp only; omega)) | (with_reducible apply c_be; with_reducible assumption))); done) | ((repeat (first | with_reducible assumption | with_reducible refine o_dr _ ?_ | with_reducible refine o_d1 ?_ | with_reducible refine o_set ?_ | (with_reducible refine o_new ?_ ?_; (focus (simp)); (focus (simp))) | with_reducible refine o_al _ ?_ | (with_reducible apply o_be; with_reducible assumption))); done) | ((repeat (first | with_reducible assumption | with_reducible exact Below.refl _ _ | with_reducible refine Below.drew ?_ | with_reducible refine below_drewN ?_ _ | with_reducible refine bw_alloc ?_ _ | (with_reducible refine bw_set ?_ ?_ _; focus (dsimp only; omega)) | (with_reducible apply bw_behind; with_reducible assumption))); done) | (simp [go_sem, *]; omega) | (simp (maxDischargeDepth := 4) [go_sem, *]; done))
    · (first | with_reducible assumption | ((repeat (first | with_reducible assumption | with_reducible refine c_dr _ ?_ | with_reducible refine c_d1 ?_ | with_reducible refine c_al _ ?_ | (with_reducible refine c_set ?_ ?_; focus (dsimp only; omega)) | (with_reducible apply c_be; with_reducible assumption))); done) | ((repeat (first | with_reducible assumption | with_reducible refine o_dr _ ?_ | with_reducible refine o_d1 ?_ | with_reducible refine o_set ?_ | (with_reducible refine o_new ?_ ?_; (focus (simp)); (focus (simp))) | with_reducible refine o_al _ ?_ | (with_reducible apply o_be; with_reducible assumption))); done) | ((repeat (first | with_reducible assumption | with_reducible exact Below.refl _ _ | with_reducible refine Below.drew ?_ | with_reducible refine below_drewN ?_ _ | with_reducible refine bw_alloc ?_ _ | (with_reducible refine bw_set ?_ ?_ _; focus (dsimp only; omega)) | (with_reducible apply bw_behind; with_reducible assumption))); done) | (simp [go_sem, *]; omega) | (simp (maxDischargeDepth := 4) [go_sem, *]; done))
    · exact ms_al _ hm
  rintro w0 ⟨hB0, d1, d2, d3, d4, hm0⟩
  refine wp_region_tail_lit (C := fun W => ∃ y : Behind w0.heap.size w0, W = y.world) 13 _ rfl (by kernel_rfl) (by kernel_rfl) (by kernel_rfl) ⟨⟨w0.drew, (Below.refl _ _).drew⟩, rfl⟩ ?_
  have y1 := behind_cell0 d1
  have y2 := behind_cell0 d2
  have y4 := behind_cell0 d4
  have hsome := Behind.any w0
  simp only [List.take_succ_cons, List.take_zero, List.cons_append, List.nil_append, mute]
  repeat (go_big_quiet_step (fail))
  refine wpQuiet_nil ?_
  rintro _ ⟨y, rfl⟩
  have x1 := y1 y
  have x2 := y2 y
  have x3 := behind_cell0 d3 y
  have x4 := y4 y
  have hm1 := ms_be y.below hm0
  have hB1 := bw_behind y.below hB0
  clear y1 y2 y4 hsome
  obtain ⟨w1, hw1⟩ : ∃ W, W = y.world := ⟨_, rfl⟩
  rw [← hw1] at x1 x2 x3 x4 hm1 hB1 ⊢
  clear hw1 y hm0 d1 d2 d3 d4
  go_wp2_with (first | (at_mapUpdate; refine wpList_store_ms rfl _ _ _ rfl rfl hm1 (by omega) (by omega) ((n : Int), 1) rfl rfl ?_; intro w3 hm3 ho3; have z4 := ob_cell ho3 (show w.heap.size ≠ mb by omega) x4))
  refine bodyPost_ret (v := .bool false) (by simp (maxDischargeDepth := 4) [results, Tryz.results59, go_sem, *]) rfl ?_
  exact ⟨rfl, hm3, (OutB.of_below hB1).trans ho3⟩

set_option maxHeartbeats 4000000 in
/-- A mark's name in place of a number. -/
theorem closure_name (sh : Nat) (hsh : brB sh = true) (a : Int) (P mb kk pb ab : Nat) (at' : Int) (h : List UInt8 → Option (Int × Int)) (s : List UInt8) (w : World) (hG : G w) (hs : s.length ≤ 1000)
    (c0 : w.cell? ⟨pb, 0, none⟩ = some (.pointer (some ⟨P, 0, none⟩))) (c1 : w.cell? ⟨ab, 0, none⟩ = some (.int .i64 at')) (c2 : w.cell? ⟨P, 1, none⟩ = some (.map (some mb))) (hm : MapS w mb kk h) (hsome : h s = some (a, 1)) (ha : 0 ≤ a ∧ a < 20000) (hat : 0 ≤ at' ∧ at' < 20000) :
    Calls Tryz.prog 61 #[.int .u8 (sh : Int), .string (str s), .pointer (some ⟨pb, 0, none⟩), .pointer (some ⟨ab, 0, none⟩)] w (Makes (.tuple #[.int .i64 (4 * (a - at')), .bool true]) w) := by
  have CB : Hid (∀ W, G W → Calls Tryz.prog 62 #[.int .u8 (sh : Int)] W (Makes (.bool true) W)) := hide (fun W _ => by have := branches_any sh W; rw [hsh] at this; exact this.mono fun _ _ h => quiet_makes h)
  have hlt : ltB ab w.heap.size = true := by unfold ltB; simpa using World.block_lt_of_cell? _ _ c1
  have hv : plV ((h s).getD (0, 0)) = .agg #[.int .i64 a, .int .i64 1] := by rw [hsome]; rfl
  have hv2 : (h s).isSome = true := by rw [hsome]; rfl
  have w1 : IntKind.i64.wrap (a - at') = a - at' := by rw [IntKind.wrap_i64]; omega
  have w2 : IntKind.i64.wrap (4 * (a - at')) = 4 * (a - at') := by rw [IntKind.wrap_i64]; omega
  obtain ⟨D, hD⟩ : ∃ D, a - at' = D := ⟨_, rfl⟩
  obtain ⟨E, hE⟩ : ∃ E, 4 * (a - at') = E := ⟨_, rfl⟩
  rw [hE] at w2 ⊢
  rw [hD] at w1 hE
  clear hsome ha hat
  have SS := cell_same
  have LB' := ltB_add
  have LS := ltB_self
  have LA' := alloc_reads
  have LH := alloc_holds
  go_enter Tryz.func61, Tryz.ntmps61
  go_upto_region 3 with (first | (at_lookup; refine wpList_looko_ms rfl _ _ rfl rfl hm (by omega) rfl ?_; rw [hv, hv2]) | (go_at_call 62; (first | ((with_reducible refine (CB.out _ ?_).mono ?_); (focus (refine hG.behind ?_; repeat (first | with_reducible assumption | with_reducible exact Below.refl _ _ | with_reducible refine Below.drew ?_ | with_reducible refine below_drewN ?_ _ | with_reducible refine bw_alloc ?_ _ | (with_reducible refine bw_set ?_ ?_ _; focus (dsimp only; omega)) | (with_reducible apply bw_behind; with_reducible assumption)))))); rintro e w1 ⟨rfl, hb1⟩; have hr1 := below_reads hb1; have hh1 := below_holds hb1; obtain ⟨m1, hs1⟩ := below_grew hb1))

  refine wp_abs (fun W => G W ∧ Below w.heap.size w W ∧ W.cell? ⟨w.heap.size, 0, none⟩ = some (.int .i64 a) ∧ W.cell? ⟨w.heap.size, 1, none⟩ = some (.int .i64 1) ∧ W.cell? ⟨ab, 0, none⟩ = some (.int .i64 at')) ?_ ?_
  · refine ⟨?_, ?_, ?_, ?_, ?_⟩
    all_goals (first | with_reducible assumption | ((repeat (first | with_reducible assumption | with_reducible refine c_dr _ ?_ | with_reducible refine c_d1 ?_ | with_reducible refine c_al _ ?_ | (with_reducible refine c_set ?_ ?_; focus (dsimp only; omega)) | (with_reducible apply c_be; with_reducible assumption))); done) | ((repeat (first | with_reducible assumption | with_reducible refine o_dr _ ?_ | with_reducible refine o_d1 ?_ | with_reducible refine o_set ?_ | (with_reducible refine o_new ?_ ?_; (focus (simp)); (focus (simp))) | with_reducible refine o_al _ ?_ | (with_reducible apply o_be; with_reducible assumption))); done) | ((repeat (first | with_reducible assumption | with_reducible exact Below.refl _ _ | with_reducible refine Below.drew ?_ | with_reducible refine below_drewN ?_ _ | with_reducible refine bw_alloc ?_ _ | (with_reducible refine bw_set ?_ ?_ _; focus (dsimp only; omega)) | (with_reducible apply bw_behind; with_reducible assumption))); done) | (refine hG.behind ?_; (repeat (first | with_reducible assumption | with_reducible exact Below.refl _ _ | with_reducible refine Below.drew ?_ | with_reducible refine below_drewN ?_ _ | with_reducible refine bw_alloc ?_ _ | (with_reducible refine bw_set ?_ ?_ _; focus (dsimp only; omega)) | (with_reducible apply bw_behind; with_reducible assumption))); done) | (simp [go_sem, *]; omega) | (simp (maxDischargeDepth := 4) [go_sem, *]; done))
  rintro w0 ⟨hT0, hB0, c0, c1, c2⟩
  have y0 := behind_cell0 c0
  have y1 := behind_cell0 c1
  have y2 := behind_cell0 c2
  have hsome := Behind.any w0
  clear c0 c1 c2
  refine wp_region_behind w0 (by kernel_rfl) (by kernel_rfl) (Below.refl _ _) ?_
  repeat (go_big_quiet_step (fail))
  refine wpQuiet_nil ?_
  rintro _ ⟨y, rfl⟩
  have hTy := hT0.behind y.below
  have hBy := bw_behind y.below hB0
  have x0 := y0 y
  have x1 := y1 y
  have x2 := y2 y
  clear hsome y0 y1 y2
  obtain ⟨w1, hw1⟩ : ∃ W, W = y.world := ⟨_, rfl⟩
  rw [← hw1] at hTy hBy x0 x1 x2 ⊢
  clear hw1 y hT0 hB0
  go_wp2
  refine bodyPost_ret (v := .tuple #[.int .i64 E, .bool true]) (by simp (maxDischargeDepth := 4) [results, Tryz.results61, go_sem, *]) rfl ?_
  refine ⟨rfl, ?_⟩
  repeat (first | with_reducible assumption | with_reducible exact Below.refl _ _ | with_reducible refine Below.drew ?_ | with_reducible refine below_drewN ?_ _ | with_reducible refine bw_alloc ?_ _ | (with_reducible refine bw_set ?_ ?_ _; focus (dsimp only; omega)) | (with_reducible apply bw_behind; with_reducible assumption))

set_option maxHeartbeats 4000000 in
/-- A number. -/
theorem closure_num (sh : Nat) (n : Int) (hn : rng n) (hn2 : -10000000000 < n ∧ n < 10000000000) (P mb kk pb ab : Nat) (h : List UInt8 → Option (Int × Int)) (s : List UInt8) (w : World) (hG : G w) (hs : s.length ≤ 1000)
    (c0 : w.cell? ⟨pb, 0, none⟩ = some (.pointer (some ⟨P, 0, none⟩))) (c2 : w.cell? ⟨P, 1, none⟩ = some (.map (some mb))) (hm : MapS w mb kk h) (hnone : h s = none) (es : s = itoa n) :
    Calls Tryz.prog 61 #[.int .u8 (sh : Int), .string (str s), .pointer (some ⟨pb, 0, none⟩), .pointer (some ⟨ab, 0, none⟩)] w (Makes (.tuple #[.int .i64 n, .bool true]) w) := by
  have CN : Hid (∀ W, G W → Calls Tryz.prog 23 #[.string (str s)] W (Makes (.tuple #[.int .i64 n, .bool true]) W)) := hide (fun W hG => by rw [es]; exact number_any n hn hn2 W hG)
  have hv : plV ((h s).getD (0, 0)) = .agg #[.int .i64 0, .int .i64 0] := by rw [hnone]; rfl
  have hv2 : (h s).isSome = false := by rw [hnone]; rfl
  clear hnone es hn hn2
  have SS := cell_same
  have LB' := ltB_add
  have LS := ltB_self
  have LA' := alloc_reads
  have LH := alloc_holds
  go_enter Tryz.func61, Tryz.ntmps61
  go_wp2_with (first | (at_lookup; refine wpList_looko_ms rfl _ _ rfl rfl hm (by omega) rfl ?_; rw [hv, hv2]) | (go_at_call 23; (first | ((with_reducible refine (CN.out _ ?_).mono ?_); (focus (refine hG.behind ?_; repeat (first | with_reducible assumption | with_reducible exact Below.refl _ _ | with_reducible refine Below.drew ?_ | with_reducible refine below_drewN ?_ _ | with_reducible refine bw_alloc ?_ _ | (with_reducible refine bw_set ?_ ?_ _; focus (dsimp only; omega)) | (with_reducible apply bw_behind; with_reducible assumption)))))); rintro e w1 ⟨rfl, hb1⟩; have hr1 := below_reads hb1; have hh1 := below_holds hb1; obtain ⟨m1, hs1⟩ := below_grew hb1))
  refine bodyPost_ret (v := .tuple #[.int .i64 n, .bool true]) (by simp (maxDischargeDepth := 4) [results, Tryz.results61, go_sem, *]) rfl ?_
  refine ⟨rfl, ?_⟩
  repeat (first | with_reducible assumption | with_reducible exact Below.refl _ _ | with_reducible refine Below.drew ?_ | with_reducible refine below_drewN ?_ _ | with_reducible refine bw_alloc ?_ _ | (with_reducible refine bw_set ?_ ?_ _; focus (dsimp only; omega)) | (with_reducible apply bw_behind; with_reducible assumption))
end Go.Proofs.YtlommbeokbicjaaGreatDoor
