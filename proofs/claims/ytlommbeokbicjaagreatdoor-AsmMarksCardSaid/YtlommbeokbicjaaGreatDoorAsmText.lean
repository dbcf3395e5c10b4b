/-
  What asm.Text answers.
-/
import Derived.Test.YtlommbeokbicjaaGreatDoorAsmWrite
namespace Go.Proofs.YtlommbeokbicjaaGreatDoor
open Go.RowKit InstMath AsmMath
open Go.Lib (itoa)

theorem behind_callG {f : FuncId} {args : Array Value} {v : Value} {w0 : World} (c : ∀ W, G W → Calls Tryz.prog f args W (Makes v W)) (hT : G w0) (y : Behind w0.heap.size w0) :
    Calls Tryz.prog f args y.world fun e w'' => e = .returned v ∧ ∃ z : Behind w0.heap.size w0, w'' = z.world :=
  (c _ (hT.behind y.below)).mono fun _ _ ⟨he, hb⟩ => ⟨he, ⟨_, y.below.trans (hb.mono y.below.size)⟩, rfl⟩
theorem four_is {F : Nat → Int} {x0 x1 x2 x3 : Int} (q : F = four x0 x1 x2 x3) : F 0 = x0 ∧ F 1 = x1 ∧ F 2 = x2 ∧ F 3 = x3 := by subst q; exact ⟨rfl, rfl, rfl, rfl⟩
theorem four_rng {x0 x1 x2 x3 : Int} (r0 : rng x0) (r1 : rng x1) (r2 : rng x2) (r3 : rng x3) (o : Nat) : rng (four x0 x1 x2 x3 o) := by unfold four; split <;> assumption
theorem shut_str (l : List UInt8) : str l = ⟨l.toArray⟩ := rfl

set_option maxRecDepth 100000 in
set_option maxHeartbeats 4000000 in
theorem text_yes (k : Nat) (h1 : 1 ≤ k) (h2 : k ≤ 69) (x0 x1 x2 x3 : Int) (r0 : rng x0) (r1 : rng x1) (r2 : rng x2) (r3 : rng x3) (y : BitVec 64) (he : encK k (four x0 x1 x2 x3) = some y) (w : World) (hG : G w) : Calls Tryz.prog 7 #[.agg #[.int .i64 (k : Int), .int .i64 x0, .int .i64 x1, .int .i64 x2, .int .i64 x3]] w (Makes (.string (str (wr k (four x0 x1 x2 x3) (itoa x3)))) w) := by
  have C1 : Hid (∀ W, G W → Calls Tryz.prog 6 #[.agg #[.int .i64 (k : Int), .int .i64 x0, .int .i64 x1, .int .i64 x2, .int .i64 x3]] W (Makes (.tuple #[.int .u32 (y.toNat : Int), .bool true]) W)) := hide (fun W hG => by have := enc_yes k h1 h2 x0 x1 x2 x3 r0 r1 r2 r3 W hG.words; rw [he] at this; exact this)
  have C2 : Hid (∀ W, G W → Calls Tryz.prog 20 #[.int .i64 x3] W (Makes (.string (str (itoa x3))) W)) := hide (decimal_any x3 r3)
  have C3 : Hid (∀ W, G W → Calls Tryz.prog 19 #[.agg #[.int .i64 (k : Int), .int .i64 x0, .int .i64 x1, .int .i64 x2, .int .i64 x3], .string (str (itoa x3))] W (Makes (.string (str (wr k (four x0 x1 x2 x3) (itoa x3)))) W)) := hide (fun W hG => write_any k h1 h2 (four x0 x1 x2 x3) (four_rng r0 r1 r2 r3) (itoa x3) (last_itoa r3) W hG)
  generalize str (wr k (four x0 x1 x2 x3) (itoa x3)) = S1 at *
  generalize str (itoa x3) = S2 at *
  clear h1 h2 r0 r1 r2 r3 he
  have SS := cell_same
  have LB' := ltB_add
  have LS := ltB_self
  have LA' := alloc_reads
  have LH := alloc_holds
  go_enter Tryz.func7, Tryz.ntmps7
  go_upto_region 4 with (first | (go_at_call 6; (first | ((with_reducible refine (C1.out _ ?_).mono ?_); (focus (refine hG.behind ?_; repeat (first | with_reducible assumption | with_reducible exact Below.refl _ _ | with_reducible refine Below.drew ?_ | with_reducible refine below_drewN ?_ _ | with_reducible refine bw_alloc ?_ _ | (with_reducible refine bw_set ?_ ?_ _; focus (dsimp only; omega)) | (with_reducible apply bw_behind; with_reducible assumption)))))); rintro e w1 ⟨rfl, hb1⟩; have hr1 := below_reads hb1; have hh1 := below_holds hb1; obtain ⟨m1, hs1⟩ := below_grew hb1))

  refine wp_abs (fun W => G W ∧ Below w.heap.size w W ∧ W.cell? ⟨w.heap.size, 0, none⟩ = some (.int .i64 (k : Int)) ∧ W.cell? ⟨w.heap.size, 1, none⟩ = some (.int .i64 x0) ∧ W.cell? ⟨w.heap.size, 2, none⟩ = some (.int .i64 x1) ∧ W.cell? ⟨w.heap.size, 3, none⟩ = some (.int .i64 x2) ∧ W.cell? ⟨w.heap.size, 4, none⟩ = some (.int .i64 x3)) ?_ ?_
  · refine ⟨?_, ?_, ?_, ?_, ?_, ?_, ?_⟩
    all_goals (first | with_reducible assumption | ((repeat (first | with_reducible assumption | with_reducible refine c_dr _ ?_ | with_reducible refine c_d1 ?_ | with_reducible refine c_al _ ?_ | (with_reducible refine c_set ?_ ?_; focus (dsimp only; omega)) | (with_reducible apply c_be; with_reducible assumption))); done) | ((repeat (first | with_reducible assumption | with_reducible refine o_dr _ ?_ | with_reducible refine o_d1 ?_ | with_reducible refine o_set ?_ | (with_reducible refine o_new ?_ ?_; (focus (simp)); (focus (simp))) | with_reducible refine o_al _ ?_ | (with_reducible apply o_be; with_reducible assumption))); done) | ((repeat (first | with_reducible assumption | with_reducible exact Below.refl _ _ | with_reducible refine Below.drew ?_ | with_reducible refine below_drewN ?_ _ | with_reducible refine bw_alloc ?_ _ | (with_reducible refine bw_set ?_ ?_ _; focus (dsimp only; omega)) | (with_reducible apply bw_behind; with_reducible assumption))); done) | (refine hG.behind ?_; (repeat (first | with_reducible assumption | with_reducible exact Below.refl _ _ | with_reducible refine Below.drew ?_ | with_reducible refine below_drewN ?_ _ | with_reducible refine bw_alloc ?_ _ | (with_reducible refine bw_set ?_ ?_ _; focus (dsimp only; omega)) | (with_reducible apply bw_behind; with_reducible assumption))); done) | (simp [go_sem, *]; omega) | (simp (maxDischargeDepth := 4) [go_sem, *]; done))
  rintro w0 ⟨hT0, hB0, c0, c1, c2, c3, c4⟩
  have y0 := behind_cell0 c0
  have y1 := behind_cell0 c1
  have y2 := behind_cell0 c2
  have y3 := behind_cell0 c3
  have y4 := behind_cell0 c4
  have hsome := Behind.any w0
  clear c0 c1 c2 c3 c4
  refine wp_region_behind w0 (by kernel_rfl) (by kernel_rfl) (Below.refl _ _) ?_
  repeat (go_big_quiet_step (first | (go_at_call 20; with_reducible first | exact behind_callG C2.out hT0 _) | (go_at_call 19; with_reducible first | exact behind_callG C3.out hT0 _)))
  refine wpQuiet_nil ?_
  rintro _ ⟨y, rfl⟩
  have hTy := hT0.behind y.below
  have hBy := bw_behind y.below hB0
  have x0 := y0 y
  have x1 := y1 y
  have x2 := y2 y
  have x3 := y3 y
  have x4 := y4 y
  clear hsome y0 y1 y2 y3 y4
  obtain ⟨w1, hw1⟩ : ∃ W, W = y.world := ⟨_, rfl⟩
  rw [← hw1] at hTy hBy x0 x1 x2 x3 x4 ⊢
  clear hw1 y hT0 hB0
  go_wp2
  refine bodyPost_ret (v := .string S1) (by simp (maxDischargeDepth := 4) [results, Tryz.results7, go_sem, *]) rfl ?_
  refine ⟨rfl, ?_⟩
  repeat (first | with_reducible assumption | with_reducible exact Below.refl _ _ | with_reducible refine Below.drew ?_ | with_reducible refine below_drewN ?_ _ | with_reducible refine bw_alloc ?_ _ | (with_reducible refine bw_set ?_ ?_ _; focus (dsimp only; omega)) | (with_reducible apply bw_behind; with_reducible assumption))

set_option maxRecDepth 100000 in
set_option maxHeartbeats 2000000 in
theorem text_none (K x0 x1 x2 x3 : Int) (hE : ∀ W, G W → Calls Tryz.prog 6 #[.agg #[.int .i64 K, .int .i64 x0, .int .i64 x1, .int .i64 x2, .int .i64 x3]] W (Makes (.tuple #[.int .u32 0, .bool false]) W)) (w : World) (hG : G w) : Calls Tryz.prog 7 #[.agg #[.int .i64 K, .int .i64 x0, .int .i64 x1, .int .i64 x2, .int .i64 x3]] w (Makes (.string ⟨#[]⟩) w) := by
  have C1 := hide hE
  clear hE
  have SS := cell_same
  have LB' := ltB_add
  have LS := ltB_self
  have LA' := alloc_reads
  have LH := alloc_holds
  go_enter Tryz.func7, Tryz.ntmps7
  go_wp2_with (first | (go_at_call 6; (first | ((with_reducible refine (C1.out _ ?_).mono ?_); (focus (refine hG.behind ?_; repeat (first | with_reducible assumption | with_reducible exact Below.refl _ _ | with_reducible refine Below.drew ?_ | with_reducible refine below_drewN ?_ _ | with_reducible refine bw_alloc ?_ _ | (with_reducible refine bw_set ?_ ?_ _; focus (dsimp only; omega)) | (with_reducible apply bw_behind; with_reducible assumption)))))); rintro e w1 ⟨rfl, hb1⟩; have hr1 := below_reads hb1; have hh1 := below_holds hb1; obtain ⟨m1, hs1⟩ := below_grew hb1))
  refine bodyPost_ret (v := .string ⟨#[]⟩) (by simp (maxDischargeDepth := 4) [results, Tryz.results7, go_sem, *]) rfl ?_
  refine ⟨rfl, ?_⟩
  repeat (first | with_reducible assumption | with_reducible exact Below.refl _ _ | with_reducible refine Below.drew ?_ | with_reducible refine below_drewN ?_ _ | with_reducible refine bw_alloc ?_ _ | (with_reducible refine bw_set ?_ ?_ _; focus (dsimp only; omega)) | (with_reducible apply bw_behind; with_reducible assumption))
end Go.Proofs.YtlommbeokbicjaaGreatDoor
