/-
  CapabRoots holds: for every s, perms and c the law returns true and turns nothing that was there, where the table of places holds what the program's text lays.
-/
import Derived.Test.YtpdadlbdloeijaaDoorTabLaid03
import Derived.Test.YtpdadlbdloeijaaDoorCapRoot
import Derived.Test.YtpdadlbdloeijaaDoorCapMath2
import Derived.Deep.DeepCutAuto
namespace Go.Proofs.YtpdadlbdloeijaaDoor.CapabRoots
open Go.RowKit Words FieldMath BoundsMath

theorem behind_cell {w0 : World} {a : Addr} {v : Value} (h : w0.cell? a = some v) : ∀ y : Behind w0.heap.size w0, y.world.cell? a = some v := fun y => (y.below.cell (World.block_lt_of_cell? w0 a h)).trans h
structure Met (B T P M A FB FT E M1 A1 MA D U P1 K1 : Int) (q EX O RV LV : Bool) : Prop where
  enc : ∀ W, Tab W → Calls Tryd.prog 25 #[.agg #[.int .u64 B, .int .u64 T]] W (Makes (.tuple #[.agg #[.int .u64 FB, .int .u64 FT, .int .u64 E], .bool EX]) W)
  rt : ∀ W, Tab W → Calls Tryd.prog 23 #[.agg #[.int .u64 B, .int .u64 T], .int .u64 P] W (Makes (.tuple #[.agg #[.bool O, .int .u64 M1, .int .u64 A1], .bool O]) W)
  all : ∀ W, Tab W → Calls Tryd.prog 23 #[.agg #[.int .u64 0, .int .u64 281474976710656], .int .u64 511] W (Makes (.tuple #[.agg #[.bool true, .int .u64 MA, .int .u64 0], .bool true]) W)
  look : ∀ W, Tab W → Calls Tryd.prog 9 #[.agg #[.bool O, .int .u64 M1, .int .u64 A1]] W (Makes (.tuple #[.agg #[.int .u64 D, .int .u64 U, .int .u64 P1, .int .u64 K1], .bool LV]) W)
  wi : ∀ W, Tab W → Calls Tryd.prog 15 #[.agg #[.bool q, .int .u64 M, .int .u64 A], .agg #[.bool true, .int .u64 MA, .int .u64 0]] W (Makes (.bool RV) W)
  ri : ∀ W, Tab W → Calls Tryd.prog 13 #[.agg #[.bool q, .int .u64 M, .int .u64 A]] W (Makes (.bool RV) W)

set_option maxRecDepth 100000 in
set_option maxHeartbeats 4000000 in
theorem walk_no1 (B T P M A FB FT E M1 A1 MA D U P1 K1 : Int) (q RV LV : Bool) (hm : Met B T P M A FB FT E M1 A1 MA D U P1 K1 q false false RV LV)  (w : World) (hT : Tab w) :
    Calls Tryd.prog 8 #[.agg #[.int .u64 B, .int .u64 T], .int .u64 P, .agg #[.bool q, .int .u64 M, .int .u64 A]] w fun e w' => e = .returned (.bool true) ∧ Below w.heap.size w w' := by
  have CM := hide hm
  clear hm
  have SS := cell_same
  have LB' := ltB_add
  have LS := ltB_self
  have LA' := alloc_reads
  have LH := alloc_holds
  go_enter Tryd.func8, Tryd.ntmps8
  go_upto_region 9 with (first | (go_at_call 25; (first | ((with_reducible refine (CM.out.enc _ ?_).mono ?_); (refine hT.behind ?_; repeat (first | with_reducible assumption | with_reducible exact Below.refl _ _ | with_reducible refine Below.drew ?_ | with_reducible refine below_drewN ?_ _ | with_reducible refine bw_alloc ?_ _ | (with_reducible refine bw_set ?_ ?_ _; focus (dsimp only; omega)) | (with_reducible apply bw_behind; with_reducible assumption))))); rintro e wa ⟨rfl, hba⟩; have hra := below_reads hba; have hha := below_holds hba; obtain ⟨ma, hsa⟩ := below_grew hba) | (go_at_call 23; (first | ((with_reducible refine (CM.out.rt _ ?_).mono ?_); (refine hT.behind ?_; repeat (first | with_reducible assumption | with_reducible exact Below.refl _ _ | with_reducible refine Below.drew ?_ | with_reducible refine below_drewN ?_ _ | with_reducible refine bw_alloc ?_ _ | (with_reducible refine bw_set ?_ ?_ _; focus (dsimp only; omega)) | (with_reducible apply bw_behind; with_reducible assumption))))); rintro e wb ⟨rfl, hbb⟩; have hrb := below_reads hbb; have hhb := below_holds hbb; obtain ⟨mb, hsb⟩ := below_grew hbb) | (go_at_call 9; (first | ((with_reducible refine (CM.out.look _ ?_).mono ?_); (refine hT.behind ?_; repeat (first | with_reducible assumption | with_reducible exact Below.refl _ _ | with_reducible refine Below.drew ?_ | with_reducible refine below_drewN ?_ _ | with_reducible refine bw_alloc ?_ _ | (with_reducible refine bw_set ?_ ?_ _; focus (dsimp only; omega)) | (with_reducible apply bw_behind; with_reducible assumption))))); rintro e wc ⟨rfl, hbc⟩; have hrc := below_reads hbc; have hhc := below_holds hbc; obtain ⟨mc, hsc⟩ := below_grew hbc))
  go_cut [13, 14] (fun s13 s14 wx => ∃ n : Nat, s13 = .pointer (some ⟨n, 0, none⟩) ∧ s14 = .bool true ∧ wx.cell? ⟨n, 0, none⟩ = some (.bool true) ∧ wx.cell? ⟨n, 1, none⟩ = some (.int .u64 MA) ∧ wx.cell? ⟨n, 2, none⟩ = some (.int .u64 0) ∧
    wx.cell? ⟨w.heap.size + 1, 0, none⟩ = some (.bool q) ∧ wx.cell? ⟨w.heap.size + 1, 1, none⟩ = some (.int .u64 M) ∧ wx.cell? ⟨w.heap.size + 1, 2, none⟩ = some (.int .u64 A) ∧ Tab wx ∧ Below w.heap.size w wx)
  case first =>
    go_wp2_with (first | (go_at_call 23; (first | ((with_reducible refine (CM.out.all _ ?_).mono ?_); (refine hT.behind ?_; repeat (first | with_reducible assumption | with_reducible exact Below.refl _ _ | with_reducible refine Below.drew ?_ | with_reducible refine below_drewN ?_ _ | with_reducible refine bw_alloc ?_ _ | (with_reducible refine bw_set ?_ ?_ _; focus (dsimp only; omega)) | (with_reducible apply bw_behind; with_reducible assumption))))); rintro e wd ⟨rfl, hbd⟩; have hrd := below_reads hbd; have hhd := below_holds hbd; obtain ⟨md, hsd⟩ := below_grew hbd))
    go_meet
    refine ⟨_, rfl, rfl, ?_, ?_, ?_, ?_, ?_, ?_, ?_, ?_⟩
    all_goals (first | with_reducible assumption | ((repeat (first | with_reducible assumption | with_reducible refine c_dr _ ?_ | with_reducible refine c_d1 ?_ | with_reducible refine c_al _ ?_ | (with_reducible refine c_set ?_ ?_; focus (dsimp only; omega)) | (with_reducible apply c_be; with_reducible assumption))); done) | ((repeat (first | with_reducible assumption | with_reducible refine o_dr _ ?_ | with_reducible refine o_d1 ?_ | with_reducible refine o_set ?_ | (with_reducible refine o_new ?_ ?_; (focus (simp)); (focus (simp))) | with_reducible refine o_al _ ?_ | (with_reducible apply o_be; with_reducible assumption))); done) | ((repeat (first | with_reducible assumption | with_reducible exact Below.refl _ _ | with_reducible refine Below.drew ?_ | with_reducible refine below_drewN ?_ _ | with_reducible refine bw_alloc ?_ _ | (with_reducible refine bw_set ?_ ?_ _; focus (dsimp only; omega)) | (with_reducible apply bw_behind; with_reducible assumption))); done) | (refine hT.behind ?_; (repeat (first | with_reducible assumption | with_reducible exact Below.refl _ _ | with_reducible refine Below.drew ?_ | with_reducible refine below_drewN ?_ _ | with_reducible refine bw_alloc ?_ _ | (with_reducible refine bw_set ?_ ?_ _; focus (dsimp only; omega)) | (with_reducible apply bw_behind; with_reducible assumption))); done) | (simp [go_sem, *]; omega) | (simp (maxDischargeDepth := 4) [go_sem, *]; done))
  case rest =>
    obtain ⟨n, rfl, rfl, c0, c1, c2, c3, c4, c5, hT0, hB0⟩ := hcut
    have y0 := behind_cell c0
    have y1 := behind_cell c1
    have y2 := behind_cell c2
    have y3 := behind_cell c3
    have y4 := behind_cell c4
    have y5 := behind_cell c5
    have hsome := Behind.any wc
    clear c0 c1 c2 c3 c4 c5
    go_wp2
    refine wp_region_behind wc (by kernel_rfl) (by kernel_rfl) (Below.refl _ _) ?_
    repeat (go_big_quiet_step (first | (go_at_call 15; with_reducible exact behind_call CM.out.wi hT0 _) | (go_at_call 13; with_reducible exact behind_call CM.out.ri hT0 _) | (go_at_call 20; with_reducible exact behind_call one_any hT0 _)))
    refine wpQuiet_nil ?_
    rintro _ ⟨y, rfl⟩
    go_wp2
    go_ret
    exact ⟨rfl, bw_behind y.below hB0⟩

set_option maxRecDepth 100000 in
set_option maxHeartbeats 4000000 in
theorem walk_no2 (B T P M A FB FT E M1 A1 MA D U P1 K1 : Int) (q RV LV : Bool) (hm : Met B T P M A FB FT E M1 A1 MA D U P1 K1 q true false RV LV) (hP : ¬ P ≤ 511) (w : World) (hT : Tab w) :
    Calls Tryd.prog 8 #[.agg #[.int .u64 B, .int .u64 T], .int .u64 P, .agg #[.bool q, .int .u64 M, .int .u64 A]] w fun e w' => e = .returned (.bool true) ∧ Below w.heap.size w w' := by
  have CM := hide hm
  clear hm
  have SS := cell_same
  have LB' := ltB_add
  have LS := ltB_self
  have LA' := alloc_reads
  have LH := alloc_holds
  go_enter Tryd.func8, Tryd.ntmps8
  go_upto_region 9 with (first | (go_at_call 25; (first | ((with_reducible refine (CM.out.enc _ ?_).mono ?_); (refine hT.behind ?_; repeat (first | with_reducible assumption | with_reducible exact Below.refl _ _ | with_reducible refine Below.drew ?_ | with_reducible refine below_drewN ?_ _ | with_reducible refine bw_alloc ?_ _ | (with_reducible refine bw_set ?_ ?_ _; focus (dsimp only; omega)) | (with_reducible apply bw_behind; with_reducible assumption))))); rintro e wa ⟨rfl, hba⟩; have hra := below_reads hba; have hha := below_holds hba; obtain ⟨ma, hsa⟩ := below_grew hba) | (go_at_call 23; (first | ((with_reducible refine (CM.out.rt _ ?_).mono ?_); (refine hT.behind ?_; repeat (first | with_reducible assumption | with_reducible exact Below.refl _ _ | with_reducible refine Below.drew ?_ | with_reducible refine below_drewN ?_ _ | with_reducible refine bw_alloc ?_ _ | (with_reducible refine bw_set ?_ ?_ _; focus (dsimp only; omega)) | (with_reducible apply bw_behind; with_reducible assumption))))); rintro e wb ⟨rfl, hbb⟩; have hrb := below_reads hbb; have hhb := below_holds hbb; obtain ⟨mb, hsb⟩ := below_grew hbb) | (go_at_call 9; (first | ((with_reducible refine (CM.out.look _ ?_).mono ?_); (refine hT.behind ?_; repeat (first | with_reducible assumption | with_reducible exact Below.refl _ _ | with_reducible refine Below.drew ?_ | with_reducible refine below_drewN ?_ _ | with_reducible refine bw_alloc ?_ _ | (with_reducible refine bw_set ?_ ?_ _; focus (dsimp only; omega)) | (with_reducible apply bw_behind; with_reducible assumption))))); rintro e wc ⟨rfl, hbc⟩; have hrc := below_reads hbc; have hhc := below_holds hbc; obtain ⟨mc, hsc⟩ := below_grew hbc))
  go_cut [13, 14] (fun s13 s14 wx => ∃ n : Nat, s13 = .pointer (some ⟨n, 0, none⟩) ∧ s14 = .bool true ∧ wx.cell? ⟨n, 0, none⟩ = some (.bool true) ∧ wx.cell? ⟨n, 1, none⟩ = some (.int .u64 MA) ∧ wx.cell? ⟨n, 2, none⟩ = some (.int .u64 0) ∧
    wx.cell? ⟨w.heap.size + 1, 0, none⟩ = some (.bool q) ∧ wx.cell? ⟨w.heap.size + 1, 1, none⟩ = some (.int .u64 M) ∧ wx.cell? ⟨w.heap.size + 1, 2, none⟩ = some (.int .u64 A) ∧ Tab wx ∧ Below w.heap.size w wx)
  case first =>
    go_wp2_with (first | (go_at_call 23; (first | ((with_reducible refine (CM.out.all _ ?_).mono ?_); (refine hT.behind ?_; repeat (first | with_reducible assumption | with_reducible exact Below.refl _ _ | with_reducible refine Below.drew ?_ | with_reducible refine below_drewN ?_ _ | with_reducible refine bw_alloc ?_ _ | (with_reducible refine bw_set ?_ ?_ _; focus (dsimp only; omega)) | (with_reducible apply bw_behind; with_reducible assumption))))); rintro e wd ⟨rfl, hbd⟩; have hrd := below_reads hbd; have hhd := below_holds hbd; obtain ⟨md, hsd⟩ := below_grew hbd))
    go_meet
    refine ⟨_, rfl, rfl, ?_, ?_, ?_, ?_, ?_, ?_, ?_, ?_⟩
    all_goals (first | with_reducible assumption | ((repeat (first | with_reducible assumption | with_reducible refine c_dr _ ?_ | with_reducible refine c_d1 ?_ | with_reducible refine c_al _ ?_ | (with_reducible refine c_set ?_ ?_; focus (dsimp only; omega)) | (with_reducible apply c_be; with_reducible assumption))); done) | ((repeat (first | with_reducible assumption | with_reducible refine o_dr _ ?_ | with_reducible refine o_d1 ?_ | with_reducible refine o_set ?_ | (with_reducible refine o_new ?_ ?_; (focus (simp)); (focus (simp))) | with_reducible refine o_al _ ?_ | (with_reducible apply o_be; with_reducible assumption))); done) | ((repeat (first | with_reducible assumption | with_reducible exact Below.refl _ _ | with_reducible refine Below.drew ?_ | with_reducible refine below_drewN ?_ _ | with_reducible refine bw_alloc ?_ _ | (with_reducible refine bw_set ?_ ?_ _; focus (dsimp only; omega)) | (with_reducible apply bw_behind; with_reducible assumption))); done) | (refine hT.behind ?_; (repeat (first | with_reducible assumption | with_reducible exact Below.refl _ _ | with_reducible refine Below.drew ?_ | with_reducible refine below_drewN ?_ _ | with_reducible refine bw_alloc ?_ _ | (with_reducible refine bw_set ?_ ?_ _; focus (dsimp only; omega)) | (with_reducible apply bw_behind; with_reducible assumption))); done) | (simp [go_sem, *]; omega) | (simp (maxDischargeDepth := 4) [go_sem, *]; done))
  case rest =>
    obtain ⟨n, rfl, rfl, c0, c1, c2, c3, c4, c5, hT0, hB0⟩ := hcut
    have y0 := behind_cell c0
    have y1 := behind_cell c1
    have y2 := behind_cell c2
    have y3 := behind_cell c3
    have y4 := behind_cell c4
    have y5 := behind_cell c5
    have hsome := Behind.any wc
    clear c0 c1 c2 c3 c4 c5
    go_wp2
    refine wp_region_behind wc (by kernel_rfl) (by kernel_rfl) (Below.refl _ _) ?_
    repeat (go_big_quiet_step (first | (go_at_call 15; with_reducible exact behind_call CM.out.wi hT0 _) | (go_at_call 13; with_reducible exact behind_call CM.out.ri hT0 _) | (go_at_call 20; with_reducible exact behind_call one_any hT0 _)))
    refine wpQuiet_nil ?_
    rintro _ ⟨y, rfl⟩
    go_wp2
    go_ret
    exact ⟨rfl, bw_behind y.below hB0⟩

set_option maxRecDepth 100000 in
set_option maxHeartbeats 4000000 in
theorem walk_no3 (B T P M A FB FT E M1 A1 MA D U P1 K1 : Int) (q RV LV : Bool) (hm : Met B T P M A FB FT E M1 A1 MA D U P1 K1 q true false RV LV) (hP : P ≤ 511) (hB : ¬ B < 281474976710656) (w : World) (hT : Tab w) :
    Calls Tryd.prog 8 #[.agg #[.int .u64 B, .int .u64 T], .int .u64 P, .agg #[.bool q, .int .u64 M, .int .u64 A]] w fun e w' => e = .returned (.bool true) ∧ Below w.heap.size w w' := by
  have CM := hide hm
  clear hm
  have SS := cell_same
  have LB' := ltB_add
  have LS := ltB_self
  have LA' := alloc_reads
  have LH := alloc_holds
  go_enter Tryd.func8, Tryd.ntmps8
  go_upto_region 9 with (first | (go_at_call 25; (first | ((with_reducible refine (CM.out.enc _ ?_).mono ?_); (refine hT.behind ?_; repeat (first | with_reducible assumption | with_reducible exact Below.refl _ _ | with_reducible refine Below.drew ?_ | with_reducible refine below_drewN ?_ _ | with_reducible refine bw_alloc ?_ _ | (with_reducible refine bw_set ?_ ?_ _; focus (dsimp only; omega)) | (with_reducible apply bw_behind; with_reducible assumption))))); rintro e wa ⟨rfl, hba⟩; have hra := below_reads hba; have hha := below_holds hba; obtain ⟨ma, hsa⟩ := below_grew hba) | (go_at_call 23; (first | ((with_reducible refine (CM.out.rt _ ?_).mono ?_); (refine hT.behind ?_; repeat (first | with_reducible assumption | with_reducible exact Below.refl _ _ | with_reducible refine Below.drew ?_ | with_reducible refine below_drewN ?_ _ | with_reducible refine bw_alloc ?_ _ | (with_reducible refine bw_set ?_ ?_ _; focus (dsimp only; omega)) | (with_reducible apply bw_behind; with_reducible assumption))))); rintro e wb ⟨rfl, hbb⟩; have hrb := below_reads hbb; have hhb := below_holds hbb; obtain ⟨mb, hsb⟩ := below_grew hbb) | (go_at_call 9; (first | ((with_reducible refine (CM.out.look _ ?_).mono ?_); (refine hT.behind ?_; repeat (first | with_reducible assumption | with_reducible exact Below.refl _ _ | with_reducible refine Below.drew ?_ | with_reducible refine below_drewN ?_ _ | with_reducible refine bw_alloc ?_ _ | (with_reducible refine bw_set ?_ ?_ _; focus (dsimp only; omega)) | (with_reducible apply bw_behind; with_reducible assumption))))); rintro e wc ⟨rfl, hbc⟩; have hrc := below_reads hbc; have hhc := below_holds hbc; obtain ⟨mc, hsc⟩ := below_grew hbc))
  go_cut [13, 14] (fun s13 s14 wx => ∃ n : Nat, s13 = .pointer (some ⟨n, 0, none⟩) ∧ s14 = .bool true ∧ wx.cell? ⟨n, 0, none⟩ = some (.bool true) ∧ wx.cell? ⟨n, 1, none⟩ = some (.int .u64 MA) ∧ wx.cell? ⟨n, 2, none⟩ = some (.int .u64 0) ∧
    wx.cell? ⟨w.heap.size + 1, 0, none⟩ = some (.bool q) ∧ wx.cell? ⟨w.heap.size + 1, 1, none⟩ = some (.int .u64 M) ∧ wx.cell? ⟨w.heap.size + 1, 2, none⟩ = some (.int .u64 A) ∧ Tab wx ∧ Below w.heap.size w wx)
  case first =>
    go_wp2_with (first | (go_at_call 23; (first | ((with_reducible refine (CM.out.all _ ?_).mono ?_); (refine hT.behind ?_; repeat (first | with_reducible assumption | with_reducible exact Below.refl _ _ | with_reducible refine Below.drew ?_ | with_reducible refine below_drewN ?_ _ | with_reducible refine bw_alloc ?_ _ | (with_reducible refine bw_set ?_ ?_ _; focus (dsimp only; omega)) | (with_reducible apply bw_behind; with_reducible assumption))))); rintro e wd ⟨rfl, hbd⟩; have hrd := below_reads hbd; have hhd := below_holds hbd; obtain ⟨md, hsd⟩ := below_grew hbd))
    go_meet
    refine ⟨_, rfl, rfl, ?_, ?_, ?_, ?_, ?_, ?_, ?_, ?_⟩
    all_goals (first | with_reducible assumption | ((repeat (first | with_reducible assumption | with_reducible refine c_dr _ ?_ | with_reducible refine c_d1 ?_ | with_reducible refine c_al _ ?_ | (with_reducible refine c_set ?_ ?_; focus (dsimp only; omega)) | (with_reducible apply c_be; with_reducible assumption))); done) | ((repeat (first | with_reducible assumption | with_reducible refine o_dr _ ?_ | with_reducible refine o_d1 ?_ | with_reducible refine o_set ?_ | (with_reducible refine o_new ?_ ?_; (focus (simp)); (focus (simp))) | with_reducible refine o_al _ ?_ | (with_reducible apply o_be; with_reducible assumption))); done) | ((repeat (first | with_reducible assumption | with_reducible exact Below.refl _ _ | with_reducible refine Below.drew ?_ | with_reducible refine below_drewN ?_ _ | with_reducible refine bw_alloc ?_ _ | (with_reducible refine bw_set ?_ ?_ _; focus (dsimp only; omega)) | (with_reducible apply bw_behind; with_reducible assumption))); done) | (refine hT.behind ?_; (repeat (first | with_reducible assumption | with_reducible exact Below.refl _ _ | with_reducible refine Below.drew ?_ | with_reducible refine below_drewN ?_ _ | with_reducible refine bw_alloc ?_ _ | (with_reducible refine bw_set ?_ ?_ _; focus (dsimp only; omega)) | (with_reducible apply bw_behind; with_reducible assumption))); done) | (simp [go_sem, *]; omega) | (simp (maxDischargeDepth := 4) [go_sem, *]; done))
  case rest =>
    obtain ⟨n, rfl, rfl, c0, c1, c2, c3, c4, c5, hT0, hB0⟩ := hcut
    have y0 := behind_cell c0
    have y1 := behind_cell c1
    have y2 := behind_cell c2
    have y3 := behind_cell c3
    have y4 := behind_cell c4
    have y5 := behind_cell c5
    have hsome := Behind.any wc
    clear c0 c1 c2 c3 c4 c5
    go_wp2
    refine wp_region_behind wc (by kernel_rfl) (by kernel_rfl) (Below.refl _ _) ?_
    repeat (go_big_quiet_step (first | (go_at_call 15; with_reducible exact behind_call CM.out.wi hT0 _) | (go_at_call 13; with_reducible exact behind_call CM.out.ri hT0 _) | (go_at_call 20; with_reducible exact behind_call one_any hT0 _)))
    refine wpQuiet_nil ?_
    rintro _ ⟨y, rfl⟩
    go_wp2
    go_ret
    exact ⟨rfl, bw_behind y.below hB0⟩

set_option maxRecDepth 100000 in
set_option maxHeartbeats 4000000 in
theorem walk_yes (B T P M A FB FT E M1 MA : Int) (q RV : Bool) (hm : Met B T P M A FB FT E M1 B MA B T P 0 q true true RV true) (hP : P ≤ 511) (hB : B < 281474976710656) (w : World) (hT : Tab w) :
    Calls Tryd.prog 8 #[.agg #[.int .u64 B, .int .u64 T], .int .u64 P, .agg #[.bool q, .int .u64 M, .int .u64 A]] w fun e w' => e = .returned (.bool true) ∧ Below w.heap.size w w' := by
  have CM := hide hm
  clear hm
  have SS := cell_same
  have LB' := ltB_add
  have LS := ltB_self
  have LA' := alloc_reads
  have LH := alloc_holds
  go_enter Tryd.func8, Tryd.ntmps8
  go_upto_region 9 with (first | (go_at_call 25; (first | ((with_reducible refine (CM.out.enc _ ?_).mono ?_); (refine hT.behind ?_; repeat (first | with_reducible assumption | with_reducible exact Below.refl _ _ | with_reducible refine Below.drew ?_ | with_reducible refine below_drewN ?_ _ | with_reducible refine bw_alloc ?_ _ | (with_reducible refine bw_set ?_ ?_ _; focus (dsimp only; omega)) | (with_reducible apply bw_behind; with_reducible assumption))))); rintro e wa ⟨rfl, hba⟩; have hra := below_reads hba; have hha := below_holds hba; obtain ⟨ma, hsa⟩ := below_grew hba) | (go_at_call 23; (first | ((with_reducible refine (CM.out.rt _ ?_).mono ?_); (refine hT.behind ?_; repeat (first | with_reducible assumption | with_reducible exact Below.refl _ _ | with_reducible refine Below.drew ?_ | with_reducible refine below_drewN ?_ _ | with_reducible refine bw_alloc ?_ _ | (with_reducible refine bw_set ?_ ?_ _; focus (dsimp only; omega)) | (with_reducible apply bw_behind; with_reducible assumption))))); rintro e wb ⟨rfl, hbb⟩; have hrb := below_reads hbb; have hhb := below_holds hbb; obtain ⟨mb, hsb⟩ := below_grew hbb) | (go_at_call 9; (first | ((with_reducible refine (CM.out.look _ ?_).mono ?_); (refine hT.behind ?_; repeat (first | with_reducible assumption | with_reducible exact Below.refl _ _ | with_reducible refine Below.drew ?_ | with_reducible refine below_drewN ?_ _ | with_reducible refine bw_alloc ?_ _ | (with_reducible refine bw_set ?_ ?_ _; focus (dsimp only; omega)) | (with_reducible apply bw_behind; with_reducible assumption))))); rintro e wc ⟨rfl, hbc⟩; have hrc := below_reads hbc; have hhc := below_holds hbc; obtain ⟨mc, hsc⟩ := below_grew hbc))
  go_cut [13, 14] (fun s13 s14 wx => ∃ n : Nat, s13 = .pointer (some ⟨n, 0, none⟩) ∧ s14 = .bool true ∧ wx.cell? ⟨n, 0, none⟩ = some (.bool true) ∧ wx.cell? ⟨n, 1, none⟩ = some (.int .u64 MA) ∧ wx.cell? ⟨n, 2, none⟩ = some (.int .u64 0) ∧
    wx.cell? ⟨w.heap.size + 1, 0, none⟩ = some (.bool q) ∧ wx.cell? ⟨w.heap.size + 1, 1, none⟩ = some (.int .u64 M) ∧ wx.cell? ⟨w.heap.size + 1, 2, none⟩ = some (.int .u64 A) ∧ Tab wx ∧ Below w.heap.size w wx)
  case first =>
    go_wp2_with (first | (go_at_call 23; (first | ((with_reducible refine (CM.out.all _ ?_).mono ?_); (refine hT.behind ?_; repeat (first | with_reducible assumption | with_reducible exact Below.refl _ _ | with_reducible refine Below.drew ?_ | with_reducible refine below_drewN ?_ _ | with_reducible refine bw_alloc ?_ _ | (with_reducible refine bw_set ?_ ?_ _; focus (dsimp only; omega)) | (with_reducible apply bw_behind; with_reducible assumption))))); rintro e wd ⟨rfl, hbd⟩; have hrd := below_reads hbd; have hhd := below_holds hbd; obtain ⟨md, hsd⟩ := below_grew hbd))
    go_meet
    refine ⟨_, rfl, rfl, ?_, ?_, ?_, ?_, ?_, ?_, ?_, ?_⟩
    all_goals (first | with_reducible assumption | ((repeat (first | with_reducible assumption | with_reducible refine c_dr _ ?_ | with_reducible refine c_d1 ?_ | with_reducible refine c_al _ ?_ | (with_reducible refine c_set ?_ ?_; focus (dsimp only; omega)) | (with_reducible apply c_be; with_reducible assumption))); done) | ((repeat (first | with_reducible assumption | with_reducible refine o_dr _ ?_ | with_reducible refine o_d1 ?_ | with_reducible refine o_set ?_ | (with_reducible refine o_new ?_ ?_; (focus (simp)); (focus (simp))) | with_reducible refine o_al _ ?_ | (with_reducible apply o_be; with_reducible assumption))); done) | ((repeat (first | with_reducible assumption | with_reducible exact Below.refl _ _ | with_reducible refine Below.drew ?_ | with_reducible refine below_drewN ?_ _ | with_reducible refine bw_alloc ?_ _ | (with_reducible refine bw_set ?_ ?_ _; focus (dsimp only; omega)) | (with_reducible apply bw_behind; with_reducible assumption))); done) | (refine hT.behind ?_; (repeat (first | with_reducible assumption | with_reducible exact Below.refl _ _ | with_reducible refine Below.drew ?_ | with_reducible refine below_drewN ?_ _ | with_reducible refine bw_alloc ?_ _ | (with_reducible refine bw_set ?_ ?_ _; focus (dsimp only; omega)) | (with_reducible apply bw_behind; with_reducible assumption))); done) | (simp [go_sem, *]; omega) | (simp (maxDischargeDepth := 4) [go_sem, *]; done))
  case rest =>
    obtain ⟨n, rfl, rfl, c0, c1, c2, c3, c4, c5, hT0, hB0⟩ := hcut
    have y0 := behind_cell c0
    have y1 := behind_cell c1
    have y2 := behind_cell c2
    have y3 := behind_cell c3
    have y4 := behind_cell c4
    have y5 := behind_cell c5
    have hsome := Behind.any wc
    clear c0 c1 c2 c3 c4 c5
    go_wp2
    refine wp_region_behind wc (by kernel_rfl) (by kernel_rfl) (Below.refl _ _) ?_
    repeat (go_big_quiet_step (first | (go_at_call 15; with_reducible exact behind_call CM.out.wi hT0 _) | (go_at_call 13; with_reducible exact behind_call CM.out.ri hT0 _) | (go_at_call 20; with_reducible exact behind_call one_any hT0 _)))
    refine wpQuiet_nil ?_
    rintro _ ⟨y, rfl⟩
    go_wp2
    go_ret
    exact ⟨rfl, bw_behind y.below hB0⟩

theorem walk (b t p : BitVec 64) (q : Bool) (m a : BitVec 64) (w : World) (hT : Tab w) :
    Calls Tryd.prog 8 #[.agg #[.int .u64 (b.toNat : Int), .int .u64 (t.toNat : Int)], .int .u64 (p.toNat : Int), .agg #[.bool q, .int .u64 (m.toNat : Int), .int .u64 (a.toNat : Int)]] w fun e w' => e = .returned (.bool true) ∧ Below w.heap.size w w' := by
  obtain ⟨fb, ft, e, ex, h⟩ := enc_ex b.toNat t.toNat
  have h1 := fun W hW => enc_any b t fb ft e ex h W hW
  have h2 := fun W hW => root_any b t p.toNat fb ft e ex (toNat_lt p) h W hW
  have h3 := root_all
  have h4 := fun W hW => within_any q true m.toNat a.toNat (metaN (wordN 0 0 37) 511 0) 0 (toNat_lt m) (metaN_lt ..) W hW
  rw [within_all] at h4
  have h5 := fun W hW => right_any q m.toNat a.toNat (toNat_lt m) W hW
  have hr := root_ok (p := p.toNat) h
  cases ho : mkO b.toNat t.toNat p.toNat 0 b.toNat fb ft e ex with
  | true =>
    rw [ho] at hr h2
    have hr2 := hr.symm
    rw [Bool.and_eq_true, Bool.and_eq_true, decide_eq_true_eq, decide_eq_true_eq] at hr2
    obtain ⟨rfl, hp, hb⟩ := hr2
    obtain ⟨e1, e2, e3, e4, e5, _⟩ := made h ho
    have h6 := fun W hW => look_any true (metaN (wordN fb ft e) p.toNat 0) b.toNat (metaN_lt ..) W hW
    rw [e1, e2, e3, e4, e5] at h6
    exact walk_yes _ _ _ _ _ _ _ _ _ _ _ _ ⟨h1, h2, h3, h6, h4, h5⟩ (by omega) (by omega) w hT
  | false =>
    rw [ho] at hr h2
    have h6 := fun W hW => look_any false 0 0 (by omega) W hW
    cases ex with
    | false => exact walk_no1 _ _ _ _ _ _ _ _ _ _ _ _ _ _ _ _ _ _ ⟨h1, h2, h3, h6, h4, h5⟩ w hT
    | true =>
      by_cases hp : p.toNat ≤ 511
      · by_cases hb : b.toNat < 281474976710656
        · rw [decide_eq_true hp, decide_eq_true hb] at hr
          cases hr
        · exact walk_no3 _ _ _ _ _ _ _ _ _ _ _ _ _ _ _ _ _ _ ⟨h1, h2, h3, h6, h4, h5⟩ (by omega) (by omega) w hT
      · exact walk_no2 _ _ _ _ _ _ _ _ _ _ _ _ _ _ _ _ _ _ ⟨h1, h2, h3, h6, h4, h5⟩ (by omega) w hT
open Go.ChangeShapes Go.WideShapes Go.ChangeAt
set_option maxRecDepth 100000 in
theorem walks : Frame.WalksLaid [("mintmark/bounds.places", Rows.laid_mintmark_bounds_places)] 8 Tryd.f8 := by
  intro H enc W base args ds ps hL hval hA
  rw [Tryd.params8] at hA hval
  obtain ⟨v0, v1, v2, d0, d1, d2, p0, p1, p2, hargs, rfl, rfl, h0, h1, h2⟩ := trodAll_three hA
  obtain rfl : args = #[v0, v1, v2] := by cases args; simp_all
  obtain ⟨cs0, rfl, hf0⟩ := Frame.open_struct (F := 4) (ks := [.inl .u64, .inl .u64]) Tryd.underlying26 (by kernel_rfl) (hval 0 26 v0 rfl rfl) h0
  match cs0, hf0 with
  | [_, _], ⟨⟨z0_0, rfl, wz0_0⟩, ⟨z0_1, rfl, wz0_1⟩, _⟩ =>
  obtain ⟨Z0_0, rfl⟩ := Frame.wf_u64 wz0_0
  obtain ⟨Z0_1, rfl⟩ := Frame.wf_u64 wz0_1
  obtain ⟨x1, rfl, rfl, rfl, w1⟩ := open_int Tryd.underlying22 (hval 1 22 v1 rfl rfl) h1
  obtain ⟨cs2, rfl, hf2⟩ := Frame.open_struct (F := 4) (ks := [.inr false, .inl .u64, .inl .u64]) Tryd.underlying24 (by kernel_rfl) (hval 2 24 v2 rfl rfl) h2
  match cs2, hf2 with
  | [_, _, _], ⟨⟨z2_0, rfl⟩, ⟨z2_1, rfl, wz2_1⟩, ⟨z2_2, rfl, wz2_2⟩, _⟩ =>
  obtain ⟨Z2_1, rfl⟩ := Frame.wf_u64 wz2_1
  obtain ⟨Z2_2, rfl⟩ := Frame.wf_u64 wz2_2
  obtain ⟨X1, rfl⟩ := Frame.wf_u64 w1
  exact walk Z0_0 Z0_1 X1 z2_0 Z2_1 Z2_2 W (tab_of_laid hL)
set_option maxRecDepth 100000 in
theorem said : Rows.CapabRootsSaid :=
  OpenClaim.holds_of_wide 8 Tryd.f8 rfl rfl rfl rfl rfl rfl rfl ⟨rfl, rfl, rfl, rfl, rfl⟩ rfl rfl rfl rfl rfl (by kernel_rfl) Tryd.func8 (by kernel_rfl)
    (of_decide_eq_true (by kernel_rfl)) (by unfold Func.isWrapper; first | (rw [if_pos (by decide +kernel)]; kernel_rfl) | (rw [if_neg (by decide +kernel)]; exact ⟨rfl, rfl⟩))
    (fun os started H enc _ => Frame.liftLaid [("mintmark/bounds.places", Rows.laid_mintmark_bounds_places)] os started H enc _ _ Rows.capabRootsSpec 4 (by kernel_rfl) Tryd.func8 Tryd.underlying4 (by kernel_rfl) rfl (by kernel_rfl)
      (fun ds h => by match ds, h with | [_, _, _], _ => exact ⟨rfl, rfl, rfl⟩)
      (ChangeSpec.witness_shaped (enc := enc) (C := Tryd.checked) (os := os) (X := fun w _ => laidMetH Tryd.prog [("mintmark/bounds.places", Rows.laid_mintmark_bounds_places)] w) false (World.doorLaid Tryd.prog 400 os) #[.agg #[.int .u64 0, .int .u64 0], .int .u64 0, .agg #[.bool false, .int .u64 0, .int .u64 0]] 8 rfl (World.shaped_of_RefB (by kernel_rfl) (by kernel_rfl)) (by kernel_rfl) (by kernel_rfl) (by kernel_rfl) (door_met os _)) walks)
set_option maxRecDepth 100000 in
theorem proved : Rows.CapabRootsCardSaid :=
  Claim7.holds_tied_plain_at .later [] [.data] true _ false said (fun _ h => by cases h) (by kernel_rfl) (fun _ h => by cases h) capabRoots_row_tie rfl ⟨rfl, rfl⟩ (by kernel_rfl) rfl
    (fun f fn hf hfn => by
      obtain rfl : f = 8 := Option.some.inj ((show Tryd.prog.funcNamed "mintmark/mintmarklaw05.CapabRoots" = some 8 by kernel_rfl).symm.trans hf) |>.symm
      obtain rfl : fn = Tryd.f8 := (Option.some.inj (Tryd.func8.symm.trans hfn)).symm
      exact ⟨by kernel_rfl, fun j t ht => by
        rw [Tryd.params8] at ht
        have hm : t ∈ [26, 22, 24] := by have := Array.mem_of_getElem? ht; simp at this; simp; first | omega | grind
        have hall : ([26, 22, 24].all fun u => !Tryd.prog.wantsStandIn u) = true := by kernel_rfl
        exact (show Tryd.prog.wantsStandIn t = false by simpa using List.all_eq_true.1 hall t hm)⟩)
    (by kernel_rfl)
end Go.Proofs.YtpdadlbdloeijaaDoor.CapabRoots
