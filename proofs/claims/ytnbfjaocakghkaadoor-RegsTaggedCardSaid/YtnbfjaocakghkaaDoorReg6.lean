/-
  What is swept: the capabilities that the iterator tells and that are gone lose their tags; how many they are.
-/
import Derived.Test.YtnbfjaocakghkaaDoorReg4
namespace Go.Proofs.YtnbfjaocakghkaaDoor
open Go.RowKit

attribute [local go_sem] Oper.semAt_some

/-- R behind a sweep of the capabilities pre. -/
def swR (R : Nat → C3) (g : Nat → Bool) (pre : List Reg) : Nat → C3 := fun i => if (pre.any (fun x => x.1 == i) && g (basN (R i))) = true then (false, (R i).2.1, (R i).2.2) else R i
def swC (R : Nat → C3) (g : Nat → Bool) : List Reg → Nat
  | [] => 0
  | x :: pre => swC R g pre + (if g (basN (R x.1)) = true then 1 else 0)
theorem swC_app (R : Nat → C3) (g : Nat → Bool) (x : Reg) : ∀ pre, swC R g (pre ++ [x]) = swC R g pre + (if g (basN (R x.1)) = true then 1 else 0)
  | [] => rfl
  | y :: pre => by
    rw [List.cons_append, swC, swC, swC_app R g x pre]
    omega
theorem swC_le (R : Nat → C3) (g : Nat → Bool) : ∀ pre, swC R g pre ≤ pre.length
  | [] => Nat.le_refl _
  | x :: pre => by
    have := swC_le R g pre
    rw [swC, List.length_cons]
    split <;> omega
theorem swR_nil (R : Nat → C3) (g : Nat → Bool) : swR R g [] = R := funext fun i => by unfold swR; simp
theorem swR_yes (R : Nat → C3) (g : Nat → Bool) (pre : List Reg) (x : Reg) (h : g (basN (R x.1)) = true) : swR R g (pre ++ [x]) = updC (swR R g pre) x.1 (false, (R x.1).2.1, (R x.1).2.2) := funext fun i => by
  unfold swR updC
  rw [List.any_append]
  by_cases e : i = x.1
  · subst e
    simp [h]
  · have : ([x].any fun x => x.1 == i) = false := by simp; omega
    rw [this, Bool.or_false, if_neg e]
theorem swR_no (R : Nat → C3) (g : Nat → Bool) (pre : List Reg) (x : Reg) (h : g (basN (R x.1)) = false) : swR R g (pre ++ [x]) = swR R g pre := funext fun i => by
  unfold swR
  rw [List.any_append]
  by_cases e : i = x.1
  · subst e
    simp [h]
  · have : ([x].any fun x => x.1 == i) = false := by simp; omega
    rw [this, Bool.or_false]
/-- What Swept answers. -/
def sweptR (R : Nat → C3) (g : Nat → Bool) : Nat → C3 := swR R g (tagU R 33)
def sweptC (R : Nat → C3) (g : Nat → Bool) : Nat := swC R g (tagU R 33)
theorem behind_tab {w0 : World} {f : FuncId} {args : Array Value} {v : Value} (c : ∀ W, Tab W → Calls Tryd.prog f args W (Makes v W)) (hT : Tab w0) (y : Behind w0.heap.size w0) :
    Calls Tryd.prog f args y.world fun e w'' => e = .returned v ∧ ∃ z : Behind w0.heap.size w0, w'' = z.world :=
  (c _ (hT.behind y.below)).mono fun _ _ ⟨he, hb⟩ => ⟨he, ⟨_, y.below.trans (hb.mono y.below.size)⟩, rfl⟩
theorem behind_from {w w0 : World} {f : FuncId} {args : Array Value} {v : Value} (c : ∀ W, Below w.heap.size w W → Calls Tryd.prog f args W (Makes v W)) (hB : Below w.heap.size w w0) (y : Behind w0.heap.size w0) :
    Calls Tryd.prog f args y.world fun e w'' => e = .returned v ∧ ∃ z : Behind w0.heap.size w0, w'' = z.world :=
  (c _ (hB.trans (y.below.mono hB.size))).mono fun _ _ ⟨he, hb⟩ => ⟨he, ⟨_, y.below.trans (hb.mono y.below.size)⟩, rfl⟩
/-- What speaks of cells, and of the size, and of what was there, abides what a range over a function does. -/
theorem ctx_kept {W W' : World} {row : Option Nat} {b : Nat} {R : Nat → C3} (h : Ctx W b R) (hg : W.grownBy W' row) (hr : ∀ r, row = some r → ∃ o : Obj, W.heap[r]? = some o ∧ o.isCells = false) : Ctx W' b R :=
  ⟨fun i hi j v hv => cell_kept (h.at_ i hi j v hv) hg hr, fun i hi => by
    obtain ⟨v, hv⟩ := Option.isSome_iff_exists.1 (h.own i hi).1
    exact ⟨by rw [cell_kept hv hg hr]; rfl, (frozen_kept hv hg hr).trans (h.own i hi).2⟩⟩
theorem own_kept {W W' : World} {row : Option Nat} {b k : Nat} (h : Own W b k) (hg : W.grownBy W' row) (hr : ∀ r, row = some r → ∃ o : Obj, W.heap[r]? = some o ∧ o.isCells = false) : Own W' b k := fun i hi => by
  obtain ⟨v, hv⟩ := Option.isSome_iff_exists.1 (h i hi).1
  exact ⟨by rw [cell_kept hv hg hr]; rfl, (frozen_kept hv hg hr).trans (h i hi).2⟩
theorem ctx_put_obj {W : World} {b l : Nat} {R : Nat → C3} {o : Obj} (o' : Obj) (h : Ctx W b R) (hl : W.heap[l]? = some o) (ho : o.isCells = false) : Ctx (W.putObj l o') b R :=
  ctx_kept h (grownBy_putObj' W l o') (fun r e => by cases e; exact ⟨o, hl, ho⟩)
theorem keepsCtx_t {b : Nat} {R : Nat → C3} {X Y Z : World} (h : KeepsCtx b R X Y) (k : KeepsCtx b R Y Z) : KeepsCtx b R X Z := fun x => k (h x)

set_option maxRecDepth 100000 in
set_option maxHeartbeats 4000000 in
theorem swept_f (R : Nat → C3) (hW : ∀ i, Wf3 (R i)) (gf : Fn) (gc gd : Array Value) (gB : Nat → Bool) (w : World) (hT : Tab w) (hH : ∀ W, Below w.heap.size w W → ∀ b : Nat, Calls Tryd.prog 26 #[.func gf gc gd, .int .u64 (b : Int)] W (Makes (.bool (gB b)) W)) :
    Calls Tryd.prog 7 #[.agg (ctxA R), .func gf gc gd] w (Makes (.tuple #[.agg (ctxA (sweptR R gB)), .int .i64 ((sweptC R gB : Nat) : Int)]) w) := by
  have C1 := hide (fun W => tagged_any R W)
  obtain ⟨T, hTT⟩ : ∃ T, T = tagU R 33 := ⟨_, rfl⟩
  unfold sweptR sweptC
  rw [← hTT]
  obtain ⟨Z, hz, hZe⟩ := ctx_zero ctx_p
  have hZs := ctxA_size (fun _ => zC)
  rw [← hZe] at hZs
  clear hZe
  generalize hcs : ctxA R = cs
  have HC := hide hcs
  clear hcs
  refine (callsIn_wide (n := 4)).1 ?_
  refine callsIn_of_wp_marks Tryd.func7 rfl trivial ?_ rfl
  simp only [Tryd.ntmps7, List.size_toArray, List.length_cons, List.length_nil, Nat.reduceAdd, Nat.reduceSub, Array.replicate_succ, Array.replicate_zero, List.push_toArray, List.append_toArray, List.nil_append, List.cons_append]
  refine wpIn_wide.2 ?_
  go_upto_region 1 with fail
  refine wp_abs (fun W => Below w.heap.size w W ∧ Ctx W w.heap.size R ∧ W.cell? ⟨w.heap.size + 1, 0, none⟩ = some (.func gf gc gd) ∧ Own W (w.heap.size + 2) 99 ∧ W.heap.size = w.heap.size + 3) ?_ ?_
  · refine ⟨?_, ?_, ?_, ?_, ?_⟩
    · repeat (first | with_reducible assumption | with_reducible exact Below.refl _ _ | with_reducible refine Below.drew ?_ | with_reducible refine below_drewN ?_ _ | with_reducible refine bw_alloc ?_ _ | (with_reducible refine bw_set ?_ ?_ _; focus (dsimp only; omega)) | (with_reducible apply bw_behind; with_reducible assumption) | (with_reducible refine bw_sc _ ?_ ?_; focus omega))
    · repeat (first | with_reducible assumption | with_reducible refine Ctx.dr ?_ _ | with_reducible refine Ctx.d1 ?_ | with_reducible exact ctx_newE HC.out rfl | (with_reducible refine ctx_newE HC.out ?_; focus (simp [*]; done)) | with_reducible refine Ctx.al ?_ _ | (with_reducible refine x_set ?_ ?_; focus (dsimp only; omega)) | (with_reducible refine x_sc ?_ ?_; focus omega) | (with_reducible refine x_be (by with_reducible assumption) ?_))
    · simp [go_sem]
    · repeat (first | with_reducible assumption | with_reducible exact Ctx.own (by with_reducible assumption) | with_reducible refine o_dr _ ?_ | with_reducible refine o_d1 ?_ | with_reducible refine o_set ?_ | with_reducible refine o_sc ?_ | (with_reducible refine o_new ?_ ?_; (focus (first | (simp [*]; done) | (simp [*]; omega))); (focus (first | omega | (simp; done)))) | with_reducible refine o_al _ ?_ | (with_reducible apply o_be; with_reducible assumption))
    · simp
  clear HC
  rintro W0 ⟨hB0, hX0, hg0, hO0, hs0⟩
  go_upto_region 2 with (first | ((refine wpList_load_ctx rfl ctx_p rfl rfl hX0 ?_)) | (with_reducible refine holdS rfl ?_))
  refine hide ?_
  refine wpList_store_ctx rfl ctx_p rfl rfl rfl (R := R) ?_ ?_
  · repeat (first | with_reducible assumption | with_reducible exact Ctx.own (by with_reducible assumption) | with_reducible refine o_dr _ ?_ | with_reducible refine o_d1 ?_ | with_reducible refine o_set ?_ | with_reducible refine o_sc ?_ | (with_reducible refine o_new ?_ ?_; (focus (simp [hs0])); (focus (first | omega | (simp; done)))) | with_reducible refine o_al _ ?_ | (with_reducible apply o_be; with_reducible assumption))
  refine wpList_abs (fun W => Below w.heap.size w W ∧ Ctx W w.heap.size R ∧ W.cell? ⟨w.heap.size + 1, 0, none⟩ = some (.func gf gc gd) ∧ Own W (w.heap.size + 2) 99 ∧ W.heap.size = w.heap.size + 5 ∧ Ctx W (w.heap.size + 3) R ∧ Own W (w.heap.size + 4) 1) ?_ ?_
  · refine ⟨?_, ?_, ?_, ?_, ?_, ?_, ?_⟩
    · repeat (first | with_reducible assumption | with_reducible exact Below.refl _ _ | with_reducible refine Below.drew ?_ | with_reducible refine below_drewN ?_ _ | with_reducible refine bw_alloc ?_ _ | (with_reducible refine bw_set ?_ ?_ _; focus (dsimp only; omega)) | (with_reducible apply bw_behind; with_reducible assumption) | (with_reducible refine bw_sc _ ?_ ?_; focus omega))
    · repeat (first | with_reducible assumption | with_reducible refine Ctx.dr ?_ _ | with_reducible refine Ctx.d1 ?_ | with_reducible exact ctx_newE HC.out rfl | (with_reducible refine ctx_newE HC.out ?_; focus (simp [*]; done)) | with_reducible refine Ctx.al ?_ _ | (with_reducible refine x_set ?_ ?_; focus (dsimp only; omega)) | (with_reducible refine x_sc ?_ ?_; focus omega) | (with_reducible refine x_be (by with_reducible assumption) ?_))
    · (repeat (first | with_reducible assumption | with_reducible refine c_dr _ ?_ | with_reducible refine c_d1 ?_ | with_reducible refine c_al _ ?_ | (with_reducible refine c_set ?_ ?_; focus (dsimp only; omega)) | (with_reducible apply c_be; with_reducible assumption) | (with_reducible refine c_sc ?_ ?_; focus (dsimp only; omega))))
    · repeat (first | with_reducible assumption | with_reducible exact Ctx.own (by with_reducible assumption) | with_reducible refine o_dr _ ?_ | with_reducible refine o_d1 ?_ | with_reducible refine o_set ?_ | with_reducible refine o_sc ?_ | (with_reducible refine o_new ?_ ?_; (focus (simp [hs0])); (focus (first | omega | (simp; done)))) | with_reducible refine o_al _ ?_ | (with_reducible apply o_be; with_reducible assumption))
    · rw [setCells_size, size_al, size_al, hs0]
    · refine ctx_store ?_ _
      (repeat (first | with_reducible assumption | with_reducible exact Ctx.own (by with_reducible assumption) | with_reducible refine o_dr _ ?_ | with_reducible refine o_d1 ?_ | with_reducible refine o_set ?_ | with_reducible refine o_sc ?_ | (with_reducible refine o_new ?_ ?_; (focus (simp [hs0])); (focus (first | omega | (simp; done)))) | with_reducible refine o_al _ ?_ | (with_reducible apply o_be; with_reducible assumption)))
    · repeat (first | with_reducible assumption | with_reducible exact Ctx.own (by with_reducible assumption) | with_reducible refine o_dr _ ?_ | with_reducible refine o_d1 ?_ | with_reducible refine o_set ?_ | with_reducible refine o_sc ?_ | (with_reducible refine o_new ?_ ?_; (focus (simp [hs0])); (focus (first | omega | (simp; done)))) | with_reducible refine o_al _ ?_ | (with_reducible apply o_be; with_reducible assumption))
  rintro W1 ⟨hB1, hX1', hg1, hO1, hs1, hY1, hP1⟩
  obtain ⟨v1, hc1⟩ := hP1.val 0 (by omega)
  have hf1 := hP1.free 0 (by omega)
  go_upto_region 2 with fail
  refine wp_abs (fun W => Below w.heap.size w W ∧ Ctx W w.heap.size R ∧ W.cell? ⟨w.heap.size + 1, 0, none⟩ = some (.func gf gc gd) ∧ Own W (w.heap.size + 2) 99 ∧ W.heap.size = w.heap.size + 5 ∧ Ctx W (w.heap.size + 3) R ∧ Own W (w.heap.size + 4) 1 ∧ W.cell? ⟨w.heap.size + 4, 0, none⟩ = some (.int .i64 0)) ?_ ?_
  · refine ⟨?_, ?_, ?_, ?_, ?_, ?_, ?_, ?_⟩
    · repeat (first | with_reducible assumption | with_reducible exact Below.refl _ _ | with_reducible refine Below.drew ?_ | with_reducible refine below_drewN ?_ _ | with_reducible refine bw_alloc ?_ _ | (with_reducible refine bw_set ?_ ?_ _; focus (dsimp only; omega)) | (with_reducible apply bw_behind; with_reducible assumption) | (with_reducible refine bw_sc _ ?_ ?_; focus omega))
    · repeat (first | with_reducible assumption | with_reducible refine Ctx.dr ?_ _ | with_reducible refine Ctx.d1 ?_ | with_reducible exact ctx_newE HC.out rfl | (with_reducible refine ctx_newE HC.out ?_; focus (simp [*]; done)) | with_reducible refine Ctx.al ?_ _ | (with_reducible refine x_set ?_ ?_; focus (dsimp only; omega)) | (with_reducible refine x_sc ?_ ?_; focus omega) | (with_reducible refine x_be (by with_reducible assumption) ?_))
    · (repeat (first | with_reducible assumption | with_reducible refine c_dr _ ?_ | with_reducible refine c_d1 ?_ | with_reducible refine c_al _ ?_ | (with_reducible refine c_set ?_ ?_; focus (dsimp only; omega)) | (with_reducible apply c_be; with_reducible assumption) | (with_reducible refine c_sc ?_ ?_; focus (dsimp only; omega))))
    · repeat (first | with_reducible assumption | with_reducible exact Ctx.own (by with_reducible assumption) | with_reducible refine o_dr _ ?_ | with_reducible refine o_d1 ?_ | with_reducible refine o_set ?_ | with_reducible refine o_sc ?_ | (with_reducible refine o_new ?_ ?_; (focus (first | (simp [*]; done) | (simp [*]; omega))); (focus (first | omega | (simp; done)))) | with_reducible refine o_al _ ?_ | (with_reducible apply o_be; with_reducible assumption))
    · rw [World.size_setCell, hs1]
    · repeat (first | with_reducible assumption | with_reducible refine Ctx.dr ?_ _ | with_reducible refine Ctx.d1 ?_ | with_reducible exact ctx_newE HC.out rfl | (with_reducible refine ctx_newE HC.out ?_; focus (simp [*]; done)) | with_reducible refine Ctx.al ?_ _ | (with_reducible refine x_set ?_ ?_; focus (dsimp only; omega)) | (with_reducible refine x_sc ?_ ?_; focus omega) | (with_reducible refine x_be (by with_reducible assumption) ?_))
    · repeat (first | with_reducible assumption | with_reducible exact Ctx.own (by with_reducible assumption) | with_reducible refine o_dr _ ?_ | with_reducible refine o_d1 ?_ | with_reducible refine o_set ?_ | with_reducible refine o_sc ?_ | (with_reducible refine o_new ?_ ?_; (focus (first | (simp [*]; done) | (simp [*]; omega))); (focus (first | omega | (simp; done)))) | with_reducible refine o_al _ ?_ | (with_reducible apply o_be; with_reducible assumption))
    · exact cell_same _ _ _ (by rw [hc1]; rfl)
  clear hB1 hX1' hg1 hO1 hs1 hY1 hP1 hc1 hf1 hB0 hX0 hg0 hO0 hs0
  rintro W2 ⟨hB2, hX2, hg2, hO2, hs2, hY2, hP2, hc2⟩
  refine (wpIn_wide (n := 4)).1 ?_
  gi_wp2_with (first | ((refine wpListIn_load_ctx rfl ctx_p rfl rfl hX2 ?_)) | (refine ⟨trivial, ?_⟩; gi_at_call 17; (refine (callsIn_wide.2 (C1.out _)).mono ?_); rintro e w1 ⟨bc, rfl, hbc, hX1, hb1⟩))
  rw [hs2] at hbc hb1
  have hsw : w.heap.size + 5 ≤ w1.heap.size := by have := hb1.size; rw [hs2] at this; exact this
  refine (wpIn_wide (n := 4)).1 ?_
  refine wpIn_block ?_
  refine wpIn_rangeFunc_ownH rfl (by omega) (gf := 32) (lb := #[.pointer (some ⟨bc, 0, none⟩)]) rfl trivial (enters_of Tryd.func32 (by kernel_rfl) rfl)
    (tagged_stops (4 - 1) bc (by omega) R w1 hX1) (fun h k => keepsCtx_t h k) (fun W l o o' _ hl ho _ h => ctx_put_obj o' h hl ho) (Below.refl _ _) (fun _ => rfl)
    (fun pre W => (Ctx W (w.heap.size + 3) (swR R gB pre) ∧ W.cell? ⟨w.heap.size + 4, 0, none⟩ = some (.int .i64 ((swC R gB pre : Nat) : Int)) ∧ Own W (w.heap.size + 4) 1 ∧ W.cell? ⟨w.heap.size + 1, 0, none⟩ = some (.func gf gc gd) ∧ Own W (w.heap.size + 2) 99 ∧ w1.heap.size ≤ W.heap.size) ∧ Below w.heap.size w W)
    (fun _ _ _ => False)
    (OwnFrom.and (fun s A B row hs hg hr => ⟨ctx_kept hs.1 hg (fun r e => (hr r e).2), cell_kept hs.2.1 hg (fun r e => (hr r e).2), own_kept hs.2.2.1 hg (fun r e => (hr r e).2), cell_kept hs.2.2.2.1 hg (fun r e => (hr r e).2), own_kept hs.2.2.2.2.1 hg (fun r e => (hr r e).2), Nat.le_trans hs.2.2.2.2.2 hg.size⟩) (ownFrom_below (Nat.le_refl _) (by omega)))
    (fun _ _ _ _ _ hs _ _ => hs)
    ⟨⟨by rw [swR_nil]; exact hY2.bn hb1 (by omega), (hb1.cell (p := ⟨w.heap.size + 4, 0, none⟩) (show w.heap.size + 4 < w.heap.size + 5 by omega)).trans hc2, own_bn hb1 (by omega) hP2, (hb1.cell (p := ⟨w.heap.size + 1, 0, none⟩) (show w.heap.size + 1 < w.heap.size + 5 by omega)).trans hg2, own_bn hb1 (by omega) hO2, Nat.le_refl _⟩, hB2.trans (hb1.mono (by omega))⟩
    (fun x a' W => ∃ N, w1.heap.size ≤ N ∧ W.cell? ⟨N, 0, none⟩ = some (.bool (R x.1).1) ∧ W.cell? ⟨N, 1, none⟩ = some (.int .u64 ((R x.1).2.1 : Int)) ∧ W.cell? ⟨N, 2, none⟩ = some (.int .u64 ((R x.1).2.2 : Int)) ∧ a' = { tmps := #[.agg cs, .func gf gc gd, .pointer (some ⟨w.heap.size, 0, none⟩), .pointer (some ⟨w.heap.size + 1, 0, none⟩), .pointer (some ⟨w.heap.size + 1 + 1, 0, none⟩), .int .i64 0, .pointer (some ⟨w.heap.size + 3, 0, none⟩), .pointer (some ⟨w.heap.size + 3 + 1, 0, none⟩), .int .i64 (x.1 : Int), .pointer (some ⟨N, 0, none⟩), .agg (ctxA R), .agg (ctxA R), .func (.func 32) #[] #[.pointer (some ⟨bc, 0, none⟩)], .int .i64 (x.1 : Int), capV (R x.1), undef, undef, undef, undef, undef, undef, undef, undef, undef, undef, undef, undef, undef, undef], defers := [] })
    (fun x a' _ A B row hs hg hr => by
      obtain ⟨N, h1, h2, h3, h4, h5⟩ := hs
      exact ⟨N, h1, cell_kept h2 hg (fun r e => (hr r e).2), cell_kept h3 hg (fun r e => (hr r e).2), cell_kept h4 hg (fun r e => (hr r e).2), h5⟩) ?assign ?body ?done ?stop
  case assign =>
    intro l pre x W K hi hK
    simp only [regV, capV]
    gi_wp2
    refine hK _ _ ?_ ?_ ?_ ⟨W.heap.size, hi.1.2.2.2.2.2, ?_, ?_, ?_, rfl⟩
    · exact keeps_below (below_alloc (Below.refl _ _) (Nat.le_refl _) _)
    · exact fun h => h.al _
    · obtain ⟨⟨i1, i2, i3, i4, i5, i6⟩, i7⟩ := hi
      have hBW := below_alloc (Below.refl W.heap.size W) (Nat.le_refl _) (Obj.cells #[Value.bool (R x.val).fst, Value.int IntKind.u64 ((R x.val).snd.fst : Int), Value.int IntKind.u64 ((R x.val).snd.snd : Int)] 24)
      exact ⟨⟨i1.be hBW, c_be hBW i2, o_be hBW i3, c_be hBW i4, o_be hBW i5, Nat.le_trans i6 hBW.size⟩, i7.trans (hBW.mono (by omega))⟩
    all_goals (simp [go_sem])
  case body =>
    rintro l pre x a' W hl hrec ⟨⟨i1, i2, i3, i4, i5, i6⟩, i7⟩ ⟨N, hN, n0, n1, n2, rfl⟩ hlen
    have hTW := hT.behind i7
    obtain ⟨⟨t, m, a⟩, hc⟩ : ∃ c, R x.1 = c := ⟨_, rfl⟩
    have hwf := hW x.1
    rw [hc] at n0 n1 n2 hwf
    dsimp only at n0 n1 n2
    have CB : Hid (∀ W, Tab W → Calls Tryd.prog 27 #[.agg #[.bool t, .int .u64 (m : Int), .int .u64 (a : Int)]] W (Makes (.int .u64 ((basN (t, m, a) : Nat) : Int)) W)) := hide (fun W h => base_all (t, m, a) hwf W h)
    have yg := behind_cell0 i4
    have y0 := behind_cell0 n0
    have y1 := behind_cell0 n1
    have y2 := behind_cell0 n2
    have hsome := Behind.any W
    cases hV : gB (basN (t, m, a)) with
    | false =>
      have CH : Hid (∀ W, Below w.heap.size w W → Calls Tryd.prog 26 #[.func gf gc gd, .int .u64 ((basN (t, m, a) : Nat) : Int)] W (Makes (.bool false) W)) := hide (fun W hB => by rw [← hV]; exact hH W hB _)
      have HN := hide (swR_no R gB pre x (by rw [hc]; exact hV))
      have HC2 := hide (show swC R gB (pre ++ [x]) = swC R gB pre by rw [swC_app, hc, hV]; rfl)
      gi_wp2
      refine round_behind W (by kernel_rfl) (by kernel_rfl) (by kernel_rfl) (Below.refl _ _) ?_
      repeat (go_big_quiet_step (first | (go_at_call 27; with_reducible exact behind_tab CB.out hTW _) | (go_at_call 26; with_reducible exact behind_from CH.out i7 _)))
      refine wpQuiet_nil ?_
      rintro _ ⟨y, rfl⟩
      clear yg y0 y1 y2
      gi_wp2
      refine ⟨keeps_below y.below, fun h => h.be y.below, ?_⟩
      dsimp only
      rw [HN.out, HC2.out]
      exact ⟨⟨i1.be y.below, c_be y.below i2, o_be y.below i3, c_be y.below i4, o_be y.below i5, Nat.le_trans i6 y.below.size⟩, i7.trans (y.below.mono i7.size)⟩
    | true =>
      have CH : Hid (∀ W, Below w.heap.size w W → Calls Tryd.prog 26 #[.func gf gc gd, .int .u64 ((basN (t, m, a) : Nat) : Int)] W (Makes (.bool true) W)) := hide (fun W hB => by rw [← hV]; exact hH W hB _)
      have HN := hide (swR_yes R gB pre x (by rw [hc]; exact hV))
      have HC2 := hide (show swC R gB (pre ++ [x]) = swC R gB pre + 1 by rw [swC_app, hc, hV]; rfl)
      have hle := swC_le R gB pre
      have hwr : IntKind.i64.wrap (((swC R gB pre : Nat) : Int) + 1) = ((swC R gB pre + 1 : Nat) : Int) := by rw [IntKind.wrap_i64]; omega
      have CC : Hid (∀ W, Tab W → Calls Tryd.prog 22 #[.agg #[.bool t, .int .u64 (m : Int), .int .u64 (a : Int)]] W (Makes (.agg #[.bool false, .int .u64 (m : Int), .int .u64 (a : Int)]) W)) := hide (fun W h => clear_all (t, m, a) W h)
      have CR : Hid (∀ W, Calls Tryd.prog 28 #[.agg (ctxA (swR R gB pre)), .int .i64 (x.1 : Int), .agg #[.bool false, .int .u64 (m : Int), .int .u64 (a : Int)]] W (Makes (.agg (ctxA (swR R gB (pre ++ [x])))) W)) := hide (fun W => by
        rw [HN.out, hc]
        exact repl_all (swR R gB pre) x.1 x.2.1 x.2.2 (false, m, a) W)
      clear HN
      gi_wp2
      refine round_behind W (by kernel_rfl) (by kernel_rfl) (by kernel_rfl) (Below.refl _ _) ?_
      repeat (go_big_quiet_step (first | (go_at_call 27; with_reducible exact behind_tab CB.out hTW _) | (go_at_call 26; with_reducible exact behind_from CH.out i7 _)))
      refine wpQuiet_nil ?_
      rintro _ ⟨y, rfl⟩
      clear yg y0 y1 y2 hsome
      gi_wp2
      refine wpIn_abs (fun W3 => Below W.heap.size W W3) y.below ?_
      intro W3 hB3
      clear y
      have hT3 := hTW.behind hB3
      have j1 := i1.be hB3
      have yc := behind_c j1
      have y0 := behind_cell0 (c_be hB3 n0)
      have y1 := behind_cell0 (c_be hB3 n1)
      have y2 := behind_cell0 (c_be hB3 n2)
      have hsome := Behind.any W3
      refine round_tail (C := fun W => ∃ y : Behind W3.heap.size W3, W = y.world) 5 _ rfl (by kernel_rfl) (by kernel_rfl) (by kernel_rfl) (by kernel_rfl) ⟨⟨W3.drew, (Below.refl _ _).drew⟩, rfl⟩ ?_
      simp only [List.take_succ_cons, List.take_zero, List.cons_append, List.nil_append, mute]
      repeat (first | ((with_reducible refine quiet_load_ctx rfl ctx_p rfl rfl yc ?_); simp only [Act.put, List.setIfInBounds_toArray, List.set_cons_succ, List.set_cons_zero]) | go_big_quiet_step (first | (go_at_call 22; with_reducible exact behind_tab CC.out hT3 _) | (go_at_call 28; with_reducible exact Behind.call CR.out _)))
      refine wpQuiet_nil ?_
      rintro _ ⟨z, rfl⟩
      have hBz : Below W.heap.size W z.world := hB3.trans (z.below.mono hB3.size)
      refine wpListIn_store_ctx rfl ctx_p rfl rfl rfl (R := swR R gB (pre ++ [x])) ((i1.be hBz).own) ?_
      refine wpListIn_abs (fun W4 => KeepsFrom w1.heap.size W W4 ∧ KeepsCtx bc R W W4 ∧ Ctx W4 (w.heap.size + 3) (swR R gB (pre ++ [x])) ∧ W4.cell? ⟨w.heap.size + 4, 0, none⟩ = some (.int .i64 ((swC R gB pre : Nat) : Int)) ∧ Own W4 (w.heap.size + 4) 1 ∧ W4.cell? ⟨w.heap.size + 1, 0, none⟩ = some (.func gf gc gd) ∧ Own W4 (w.heap.size + 2) 99 ∧ w1.heap.size ≤ W4.heap.size ∧ Below w.heap.size w W4) ?_ ?_
      · refine ⟨(keeps_below hBz).trans (keeps_setCells _ _ _), fun h => (h.be hBz).sc (by omega) _, ctx_store ((i1.be hBz).own) _, c_sc (show w.heap.size + 3 ≠ w.heap.size + 4 by omega) (c_be hBz i2), o_sc (o_be hBz i3), c_sc (show w.heap.size + 3 ≠ w.heap.size + 1 by omega) (c_be hBz i4), o_sc (o_be hBz i5), ?_, (i7.trans (hBz.mono i7.size)).trans (be_sc _ (by omega))⟩
        rw [setCells_size]
        exact Nat.le_trans i6 hBz.size
      clear hBz z yc y0 y1 y2 hsome
      rintro W4 ⟨k1, k2, k3, k4, k5, k6, k7, k8, k9⟩
      have kf := k5.free 0 (by omega)
      gi_wp2
      refine ⟨k1.trans ((KeepsOthers.setCell _ _ _).from _), fun h => (k2 h).set (by dsimp only; omega) _, ?_⟩
      dsimp only
      rw [HC2.out, show (((swC R gB pre + 1 : Nat)) : Int) = ((swC R gB pre : Nat) : Int) + 1 by omega]
      exact ⟨⟨k3.set (by dsimp only; omega) _, cell_same _ _ _ (by rw [k4]; rfl), o_set k5, c_set (by dsimp only; omega) k6, o_set k7, by rw [World.size_setCell]; exact k8⟩, k9.setCell (p := ⟨w.heap.size + 4, 0, none⟩) (show w.heap.size ≤ w.heap.size + 4 by omega) _⟩
  case done =>
    intro D ys W hD hS hi hK
    replace hS : ys = T := hS.trans hTT.symm
    subst hS
    obtain ⟨⟨i1, i2, i3, i4, i5, i6⟩, i7⟩ := hi
    clear hTT
    generalize swR R gB ys = S at *
    generalize swC R gB ys = U at *
    simp only [Exit.inBlock, Exit.then]
    go_wp2
    obtain ⟨d, hdu, hdr⟩ := ctx_row ctx_p
    have hO5 := o_d1 i5
    have hstw := storeAt_ctx ctx_p hO5 S
    refine region_two (a1 := { tmps := #[.agg cs, .func gf gc gd, .pointer (some ⟨w.heap.size, 0, none⟩), .pointer (some ⟨w.heap.size + 1, 0, none⟩), .pointer (some ⟨w.heap.size + 1 + 1, 0, none⟩), .int .i64 0, .pointer (some ⟨w.heap.size + 3, 0, none⟩), .pointer (some ⟨w.heap.size + 3 + 1, 0, none⟩), undef, undef, .agg (ctxA R), .agg (ctxA R), .func (.func 32) #[] #[.pointer (some ⟨bc, 0, none⟩)], undef, undef, undef, undef, undef, undef, undef, undef, undef, undef, undef, undef, undef, undef, .agg (ctxA S), undef], defers := [{ target := .collected D, args := #[] }] }) (a2 := { tmps := #[.agg cs, .func gf gc gd, .pointer (some ⟨w.heap.size, 0, none⟩), .pointer (some ⟨w.heap.size + 1, 0, none⟩), .pointer (some ⟨w.heap.size + 1 + 1, 0, none⟩), .int .i64 0, .pointer (some ⟨w.heap.size + 3, 0, none⟩), .pointer (some ⟨w.heap.size + 3 + 1, 0, none⟩), undef, undef, .agg (ctxA R), .agg (ctxA R), .func (.func 32) #[] #[.pointer (some ⟨bc, 0, none⟩)], undef, undef, undef, undef, undef, undef, undef, undef, undef, undef, undef, undef, undef, undef, .agg (ctxA S), .int .i64 (U : Int)], defers := [{ target := .collected D, args := #[] }] }) (v0 := .agg (ctxA S)) (v1 := .int .i64 (U : Int)) (v3 := .int .i64 (U : Int)) (fun W' => Ctx W' (w.heap.size + 3) S ∧ W'.cell? ⟨w.heap.size + 4, 0, none⟩ = some (.int .i64 (U : Int))) (by kernel_rfl) (by kernel_rfl) (by kernel_rfl) (by kernel_rfl) (by kernel_rfl) (by kernel_rfl) (by kernel_rfl) (by kernel_rfl) (by kernel_rfl) (by kernel_rfl) rfl ⟨i1.d1, c_d1 i2⟩ ?y0 rfl ?y1 rfl (exec_store_ctx ctx_p rfl rfl rfl hO5) rfl ⟨(i1.d1).sc (by omega) _, c_sc (show w.heap.size + 1 + 1 ≠ w.heap.size + 4 by omega) (c_d1 i2)⟩ ?y3 ?fin
    case y0 => exact yieldsIf_load_mid rfl 27 (.tmp 6) rfl (w.heap.size + 3) 0 rfl (ctxL S) d (fun _ h => h.1.all) hdu hdr (by rw [ctxL_length]; exact ctx_info ctx_p)
    case y1 =>
      refine .inl ⟨rfl, fun w' hw' => ?_⟩
      have hcu := hw'.2
      simp [execOp, go_sem, hcu]
    case y3 =>
      refine .inl ⟨rfl, fun w' hw' => ?_⟩
      simp [execOp, go_sem]
    case fin =>
      have hX6 := ctx_store (o_d1 i5) S
      have hK6 := (((KeepsOthers.drew W).from 0).trans (keeps_setCells (b := w.heap.size + 2) (ctxL S) 0 W.drew)).same D _ (Nat.zero_le _) hK rfl
      have hB6 : Below w.heap.size w (W.drew.setCells (w.heap.size + 2) 0 (ctxL S)) := i7.drew.trans (be_sc _ (by omega))
      clear hK hstw hO5 i1 i2 i3 i4 i5 i6 i7
      generalize World.setCells _ _ _ _ = W6 at hX6 hK6 hB6 ⊢
      simp only [Exit.then, Act.put, List.setIfInBounds_toArray, List.set_cons_succ, List.set_cons_zero]
      go_wp2
      refine ⟨by simp, .inl ⟨_, _, rfl, run_takeDeferred hK6, ?_⟩⟩
      exact ⟨_, results_ctx2 rfl ctx_p rfl (ctx_put_obj _ hX6 hK6 rfl), rfl, hB6.trans (belowK_b (w := w) (Nat.le_refl _) W6 D _ _ (by omega) hK6 rfl rfl)⟩
  case stop =>
    rintro D c pre W _ _ h _
    exact h.elim

set_option maxRecDepth 100000 in
set_option maxHeartbeats 4000000 in
theorem swept_n (R : Nat → C3) (hW : ∀ i, Wf3 (R i)) (gB : Nat → Bool) (w : World) (hT : Tab w) (hH : ∀ W, Below w.heap.size w W → ∀ b : Nat, Calls Tryd.prog 26 #[.nilFunc, .int .u64 (b : Int)] W (Makes (.bool (gB b)) W)) :
    Calls Tryd.prog 7 #[.agg (ctxA R), .nilFunc] w (Makes (.tuple #[.agg (ctxA (sweptR R gB)), .int .i64 ((sweptC R gB : Nat) : Int)]) w) := by
  have C1 := hide (fun W => tagged_any R W)
  obtain ⟨T, hTT⟩ : ∃ T, T = tagU R 33 := ⟨_, rfl⟩
  unfold sweptR sweptC
  rw [← hTT]
  obtain ⟨Z, hz, hZe⟩ := ctx_zero ctx_p
  have hZs := ctxA_size (fun _ => zC)
  rw [← hZe] at hZs
  clear hZe
  generalize hcs : ctxA R = cs
  have HC := hide hcs
  clear hcs
  refine (callsIn_wide (n := 4)).1 ?_
  refine callsIn_of_wp_marks Tryd.func7 rfl trivial ?_ rfl
  simp only [Tryd.ntmps7, List.size_toArray, List.length_cons, List.length_nil, Nat.reduceAdd, Nat.reduceSub, Array.replicate_succ, Array.replicate_zero, List.push_toArray, List.append_toArray, List.nil_append, List.cons_append]
  refine wpIn_wide.2 ?_
  go_upto_region 1 with fail
  refine wp_abs (fun W => Below w.heap.size w W ∧ Ctx W w.heap.size R ∧ W.cell? ⟨w.heap.size + 1, 0, none⟩ = some (.nilFunc) ∧ Own W (w.heap.size + 2) 99 ∧ W.heap.size = w.heap.size + 3) ?_ ?_
  · refine ⟨?_, ?_, ?_, ?_, ?_⟩
    · repeat (first | with_reducible assumption | with_reducible exact Below.refl _ _ | with_reducible refine Below.drew ?_ | with_reducible refine below_drewN ?_ _ | with_reducible refine bw_alloc ?_ _ | (with_reducible refine bw_set ?_ ?_ _; focus (dsimp only; omega)) | (with_reducible apply bw_behind; with_reducible assumption) | (with_reducible refine bw_sc _ ?_ ?_; focus omega))
    · repeat (first | with_reducible assumption | with_reducible refine Ctx.dr ?_ _ | with_reducible refine Ctx.d1 ?_ | with_reducible exact ctx_newE HC.out rfl | (with_reducible refine ctx_newE HC.out ?_; focus (simp [*]; done)) | with_reducible refine Ctx.al ?_ _ | (with_reducible refine x_set ?_ ?_; focus (dsimp only; omega)) | (with_reducible refine x_sc ?_ ?_; focus omega) | (with_reducible refine x_be (by with_reducible assumption) ?_))
    · simp [go_sem]
    · repeat (first | with_reducible assumption | with_reducible exact Ctx.own (by with_reducible assumption) | with_reducible refine o_dr _ ?_ | with_reducible refine o_d1 ?_ | with_reducible refine o_set ?_ | with_reducible refine o_sc ?_ | (with_reducible refine o_new ?_ ?_; (focus (first | (simp [*]; done) | (simp [*]; omega))); (focus (first | omega | (simp; done)))) | with_reducible refine o_al _ ?_ | (with_reducible apply o_be; with_reducible assumption))
    · simp
  clear HC
  rintro W0 ⟨hB0, hX0, hg0, hO0, hs0⟩
  go_upto_region 2 with (first | ((refine wpList_load_ctx rfl ctx_p rfl rfl hX0 ?_)) | (with_reducible refine holdS rfl ?_))
  refine hide ?_
  refine wpList_store_ctx rfl ctx_p rfl rfl rfl (R := R) ?_ ?_
  · repeat (first | with_reducible assumption | with_reducible exact Ctx.own (by with_reducible assumption) | with_reducible refine o_dr _ ?_ | with_reducible refine o_d1 ?_ | with_reducible refine o_set ?_ | with_reducible refine o_sc ?_ | (with_reducible refine o_new ?_ ?_; (focus (simp [hs0])); (focus (first | omega | (simp; done)))) | with_reducible refine o_al _ ?_ | (with_reducible apply o_be; with_reducible assumption))
  refine wpList_abs (fun W => Below w.heap.size w W ∧ Ctx W w.heap.size R ∧ W.cell? ⟨w.heap.size + 1, 0, none⟩ = some (.nilFunc) ∧ Own W (w.heap.size + 2) 99 ∧ W.heap.size = w.heap.size + 5 ∧ Ctx W (w.heap.size + 3) R ∧ Own W (w.heap.size + 4) 1) ?_ ?_
  · refine ⟨?_, ?_, ?_, ?_, ?_, ?_, ?_⟩
    · repeat (first | with_reducible assumption | with_reducible exact Below.refl _ _ | with_reducible refine Below.drew ?_ | with_reducible refine below_drewN ?_ _ | with_reducible refine bw_alloc ?_ _ | (with_reducible refine bw_set ?_ ?_ _; focus (dsimp only; omega)) | (with_reducible apply bw_behind; with_reducible assumption) | (with_reducible refine bw_sc _ ?_ ?_; focus omega))
    · repeat (first | with_reducible assumption | with_reducible refine Ctx.dr ?_ _ | with_reducible refine Ctx.d1 ?_ | with_reducible exact ctx_newE HC.out rfl | (with_reducible refine ctx_newE HC.out ?_; focus (simp [*]; done)) | with_reducible refine Ctx.al ?_ _ | (with_reducible refine x_set ?_ ?_; focus (dsimp only; omega)) | (with_reducible refine x_sc ?_ ?_; focus omega) | (with_reducible refine x_be (by with_reducible assumption) ?_))
    · (repeat (first | with_reducible assumption | with_reducible refine c_dr _ ?_ | with_reducible refine c_d1 ?_ | with_reducible refine c_al _ ?_ | (with_reducible refine c_set ?_ ?_; focus (dsimp only; omega)) | (with_reducible apply c_be; with_reducible assumption) | (with_reducible refine c_sc ?_ ?_; focus (dsimp only; omega))))
    · repeat (first | with_reducible assumption | with_reducible exact Ctx.own (by with_reducible assumption) | with_reducible refine o_dr _ ?_ | with_reducible refine o_d1 ?_ | with_reducible refine o_set ?_ | with_reducible refine o_sc ?_ | (with_reducible refine o_new ?_ ?_; (focus (simp [hs0])); (focus (first | omega | (simp; done)))) | with_reducible refine o_al _ ?_ | (with_reducible apply o_be; with_reducible assumption))
    · rw [setCells_size, size_al, size_al, hs0]
    · refine ctx_store ?_ _
      (repeat (first | with_reducible assumption | with_reducible exact Ctx.own (by with_reducible assumption) | with_reducible refine o_dr _ ?_ | with_reducible refine o_d1 ?_ | with_reducible refine o_set ?_ | with_reducible refine o_sc ?_ | (with_reducible refine o_new ?_ ?_; (focus (simp [hs0])); (focus (first | omega | (simp; done)))) | with_reducible refine o_al _ ?_ | (with_reducible apply o_be; with_reducible assumption)))
    · repeat (first | with_reducible assumption | with_reducible exact Ctx.own (by with_reducible assumption) | with_reducible refine o_dr _ ?_ | with_reducible refine o_d1 ?_ | with_reducible refine o_set ?_ | with_reducible refine o_sc ?_ | (with_reducible refine o_new ?_ ?_; (focus (simp [hs0])); (focus (first | omega | (simp; done)))) | with_reducible refine o_al _ ?_ | (with_reducible apply o_be; with_reducible assumption))
  rintro W1 ⟨hB1, hX1', hg1, hO1, hs1, hY1, hP1⟩
  obtain ⟨v1, hc1⟩ := hP1.val 0 (by omega)
  have hf1 := hP1.free 0 (by omega)
  go_upto_region 2 with fail
  refine wp_abs (fun W => Below w.heap.size w W ∧ Ctx W w.heap.size R ∧ W.cell? ⟨w.heap.size + 1, 0, none⟩ = some (.nilFunc) ∧ Own W (w.heap.size + 2) 99 ∧ W.heap.size = w.heap.size + 5 ∧ Ctx W (w.heap.size + 3) R ∧ Own W (w.heap.size + 4) 1 ∧ W.cell? ⟨w.heap.size + 4, 0, none⟩ = some (.int .i64 0)) ?_ ?_
  · refine ⟨?_, ?_, ?_, ?_, ?_, ?_, ?_, ?_⟩
    · repeat (first | with_reducible assumption | with_reducible exact Below.refl _ _ | with_reducible refine Below.drew ?_ | with_reducible refine below_drewN ?_ _ | with_reducible refine bw_alloc ?_ _ | (with_reducible refine bw_set ?_ ?_ _; focus (dsimp only; omega)) | (with_reducible apply bw_behind; with_reducible assumption) | (with_reducible refine bw_sc _ ?_ ?_; focus omega))
    · repeat (first | with_reducible assumption | with_reducible refine Ctx.dr ?_ _ | with_reducible refine Ctx.d1 ?_ | with_reducible exact ctx_newE HC.out rfl | (with_reducible refine ctx_newE HC.out ?_; focus (simp [*]; done)) | with_reducible refine Ctx.al ?_ _ | (with_reducible refine x_set ?_ ?_; focus (dsimp only; omega)) | (with_reducible refine x_sc ?_ ?_; focus omega) | (with_reducible refine x_be (by with_reducible assumption) ?_))
    · (repeat (first | with_reducible assumption | with_reducible refine c_dr _ ?_ | with_reducible refine c_d1 ?_ | with_reducible refine c_al _ ?_ | (with_reducible refine c_set ?_ ?_; focus (dsimp only; omega)) | (with_reducible apply c_be; with_reducible assumption) | (with_reducible refine c_sc ?_ ?_; focus (dsimp only; omega))))
    · repeat (first | with_reducible assumption | with_reducible exact Ctx.own (by with_reducible assumption) | with_reducible refine o_dr _ ?_ | with_reducible refine o_d1 ?_ | with_reducible refine o_set ?_ | with_reducible refine o_sc ?_ | (with_reducible refine o_new ?_ ?_; (focus (first | (simp [*]; done) | (simp [*]; omega))); (focus (first | omega | (simp; done)))) | with_reducible refine o_al _ ?_ | (with_reducible apply o_be; with_reducible assumption))
    · rw [World.size_setCell, hs1]
    · repeat (first | with_reducible assumption | with_reducible refine Ctx.dr ?_ _ | with_reducible refine Ctx.d1 ?_ | with_reducible exact ctx_newE HC.out rfl | (with_reducible refine ctx_newE HC.out ?_; focus (simp [*]; done)) | with_reducible refine Ctx.al ?_ _ | (with_reducible refine x_set ?_ ?_; focus (dsimp only; omega)) | (with_reducible refine x_sc ?_ ?_; focus omega) | (with_reducible refine x_be (by with_reducible assumption) ?_))
    · repeat (first | with_reducible assumption | with_reducible exact Ctx.own (by with_reducible assumption) | with_reducible refine o_dr _ ?_ | with_reducible refine o_d1 ?_ | with_reducible refine o_set ?_ | with_reducible refine o_sc ?_ | (with_reducible refine o_new ?_ ?_; (focus (first | (simp [*]; done) | (simp [*]; omega))); (focus (first | omega | (simp; done)))) | with_reducible refine o_al _ ?_ | (with_reducible apply o_be; with_reducible assumption))
    · exact cell_same _ _ _ (by rw [hc1]; rfl)
  clear hB1 hX1' hg1 hO1 hs1 hY1 hP1 hc1 hf1 hB0 hX0 hg0 hO0 hs0
  rintro W2 ⟨hB2, hX2, hg2, hO2, hs2, hY2, hP2, hc2⟩
  refine (wpIn_wide (n := 4)).1 ?_
  gi_wp2_with (first | ((refine wpListIn_load_ctx rfl ctx_p rfl rfl hX2 ?_)) | (refine ⟨trivial, ?_⟩; gi_at_call 17; (refine (callsIn_wide.2 (C1.out _)).mono ?_); rintro e w1 ⟨bc, rfl, hbc, hX1, hb1⟩))
  rw [hs2] at hbc hb1
  have hsw : w.heap.size + 5 ≤ w1.heap.size := by have := hb1.size; rw [hs2] at this; exact this
  refine (wpIn_wide (n := 4)).1 ?_
  refine wpIn_block ?_
  refine wpIn_rangeFunc_ownH rfl (by omega) (gf := 32) (lb := #[.pointer (some ⟨bc, 0, none⟩)]) rfl trivial (enters_of Tryd.func32 (by kernel_rfl) rfl)
    (tagged_stops (4 - 1) bc (by omega) R w1 hX1) (fun h k => keepsCtx_t h k) (fun W l o o' _ hl ho _ h => ctx_put_obj o' h hl ho) (Below.refl _ _) (fun _ => rfl)
    (fun pre W => (Ctx W (w.heap.size + 3) (swR R gB pre) ∧ W.cell? ⟨w.heap.size + 4, 0, none⟩ = some (.int .i64 ((swC R gB pre : Nat) : Int)) ∧ Own W (w.heap.size + 4) 1 ∧ W.cell? ⟨w.heap.size + 1, 0, none⟩ = some (.nilFunc) ∧ Own W (w.heap.size + 2) 99 ∧ w1.heap.size ≤ W.heap.size) ∧ Below w.heap.size w W)
    (fun _ _ _ => False)
    (OwnFrom.and (fun s A B row hs hg hr => ⟨ctx_kept hs.1 hg (fun r e => (hr r e).2), cell_kept hs.2.1 hg (fun r e => (hr r e).2), own_kept hs.2.2.1 hg (fun r e => (hr r e).2), cell_kept hs.2.2.2.1 hg (fun r e => (hr r e).2), own_kept hs.2.2.2.2.1 hg (fun r e => (hr r e).2), Nat.le_trans hs.2.2.2.2.2 hg.size⟩) (ownFrom_below (Nat.le_refl _) (by omega)))
    (fun _ _ _ _ _ hs _ _ => hs)
    ⟨⟨by rw [swR_nil]; exact hY2.bn hb1 (by omega), (hb1.cell (p := ⟨w.heap.size + 4, 0, none⟩) (show w.heap.size + 4 < w.heap.size + 5 by omega)).trans hc2, own_bn hb1 (by omega) hP2, (hb1.cell (p := ⟨w.heap.size + 1, 0, none⟩) (show w.heap.size + 1 < w.heap.size + 5 by omega)).trans hg2, own_bn hb1 (by omega) hO2, Nat.le_refl _⟩, hB2.trans (hb1.mono (by omega))⟩
    (fun x a' W => ∃ N, w1.heap.size ≤ N ∧ W.cell? ⟨N, 0, none⟩ = some (.bool (R x.1).1) ∧ W.cell? ⟨N, 1, none⟩ = some (.int .u64 ((R x.1).2.1 : Int)) ∧ W.cell? ⟨N, 2, none⟩ = some (.int .u64 ((R x.1).2.2 : Int)) ∧ a' = { tmps := #[.agg cs, .nilFunc, .pointer (some ⟨w.heap.size, 0, none⟩), .pointer (some ⟨w.heap.size + 1, 0, none⟩), .pointer (some ⟨w.heap.size + 1 + 1, 0, none⟩), .int .i64 0, .pointer (some ⟨w.heap.size + 3, 0, none⟩), .pointer (some ⟨w.heap.size + 3 + 1, 0, none⟩), .int .i64 (x.1 : Int), .pointer (some ⟨N, 0, none⟩), .agg (ctxA R), .agg (ctxA R), .func (.func 32) #[] #[.pointer (some ⟨bc, 0, none⟩)], .int .i64 (x.1 : Int), capV (R x.1), undef, undef, undef, undef, undef, undef, undef, undef, undef, undef, undef, undef, undef, undef], defers := [] })
    (fun x a' _ A B row hs hg hr => by
      obtain ⟨N, h1, h2, h3, h4, h5⟩ := hs
      exact ⟨N, h1, cell_kept h2 hg (fun r e => (hr r e).2), cell_kept h3 hg (fun r e => (hr r e).2), cell_kept h4 hg (fun r e => (hr r e).2), h5⟩) ?assign ?body ?done ?stop
  case assign =>
    intro l pre x W K hi hK
    simp only [regV, capV]
    gi_wp2
    refine hK _ _ ?_ ?_ ?_ ⟨W.heap.size, hi.1.2.2.2.2.2, ?_, ?_, ?_, rfl⟩
    · exact keeps_below (below_alloc (Below.refl _ _) (Nat.le_refl _) _)
    · exact fun h => h.al _
    · obtain ⟨⟨i1, i2, i3, i4, i5, i6⟩, i7⟩ := hi
      have hBW := below_alloc (Below.refl W.heap.size W) (Nat.le_refl _) (Obj.cells #[Value.bool (R x.val).fst, Value.int IntKind.u64 ((R x.val).snd.fst : Int), Value.int IntKind.u64 ((R x.val).snd.snd : Int)] 24)
      exact ⟨⟨i1.be hBW, c_be hBW i2, o_be hBW i3, c_be hBW i4, o_be hBW i5, Nat.le_trans i6 hBW.size⟩, i7.trans (hBW.mono (by omega))⟩
    all_goals (simp [go_sem])
  case body =>
    rintro l pre x a' W hl hrec ⟨⟨i1, i2, i3, i4, i5, i6⟩, i7⟩ ⟨N, hN, n0, n1, n2, rfl⟩ hlen
    have hTW := hT.behind i7
    obtain ⟨⟨t, m, a⟩, hc⟩ : ∃ c, R x.1 = c := ⟨_, rfl⟩
    have hwf := hW x.1
    rw [hc] at n0 n1 n2 hwf
    dsimp only at n0 n1 n2
    have CB : Hid (∀ W, Tab W → Calls Tryd.prog 27 #[.agg #[.bool t, .int .u64 (m : Int), .int .u64 (a : Int)]] W (Makes (.int .u64 ((basN (t, m, a) : Nat) : Int)) W)) := hide (fun W h => base_all (t, m, a) hwf W h)
    have yg := behind_cell0 i4
    have y0 := behind_cell0 n0
    have y1 := behind_cell0 n1
    have y2 := behind_cell0 n2
    have hsome := Behind.any W
    cases hV : gB (basN (t, m, a)) with
    | false =>
      have CH : Hid (∀ W, Below w.heap.size w W → Calls Tryd.prog 26 #[.nilFunc, .int .u64 ((basN (t, m, a) : Nat) : Int)] W (Makes (.bool false) W)) := hide (fun W hB => by rw [← hV]; exact hH W hB _)
      have HN := hide (swR_no R gB pre x (by rw [hc]; exact hV))
      have HC2 := hide (show swC R gB (pre ++ [x]) = swC R gB pre by rw [swC_app, hc, hV]; rfl)
      gi_wp2
      refine round_behind W (by kernel_rfl) (by kernel_rfl) (by kernel_rfl) (Below.refl _ _) ?_
      repeat (go_big_quiet_step (first | (go_at_call 27; with_reducible exact behind_tab CB.out hTW _) | (go_at_call 26; with_reducible exact behind_from CH.out i7 _)))
      refine wpQuiet_nil ?_
      rintro _ ⟨y, rfl⟩
      clear yg y0 y1 y2
      gi_wp2
      refine ⟨keeps_below y.below, fun h => h.be y.below, ?_⟩
      dsimp only
      rw [HN.out, HC2.out]
      exact ⟨⟨i1.be y.below, c_be y.below i2, o_be y.below i3, c_be y.below i4, o_be y.below i5, Nat.le_trans i6 y.below.size⟩, i7.trans (y.below.mono i7.size)⟩
    | true =>
      have CH : Hid (∀ W, Below w.heap.size w W → Calls Tryd.prog 26 #[.nilFunc, .int .u64 ((basN (t, m, a) : Nat) : Int)] W (Makes (.bool true) W)) := hide (fun W hB => by rw [← hV]; exact hH W hB _)
      have HN := hide (swR_yes R gB pre x (by rw [hc]; exact hV))
      have HC2 := hide (show swC R gB (pre ++ [x]) = swC R gB pre + 1 by rw [swC_app, hc, hV]; rfl)
      have hle := swC_le R gB pre
      have hwr : IntKind.i64.wrap (((swC R gB pre : Nat) : Int) + 1) = ((swC R gB pre + 1 : Nat) : Int) := by rw [IntKind.wrap_i64]; omega
      have CC : Hid (∀ W, Tab W → Calls Tryd.prog 22 #[.agg #[.bool t, .int .u64 (m : Int), .int .u64 (a : Int)]] W (Makes (.agg #[.bool false, .int .u64 (m : Int), .int .u64 (a : Int)]) W)) := hide (fun W h => clear_all (t, m, a) W h)
      have CR : Hid (∀ W, Calls Tryd.prog 28 #[.agg (ctxA (swR R gB pre)), .int .i64 (x.1 : Int), .agg #[.bool false, .int .u64 (m : Int), .int .u64 (a : Int)]] W (Makes (.agg (ctxA (swR R gB (pre ++ [x])))) W)) := hide (fun W => by
        rw [HN.out, hc]
        exact repl_all (swR R gB pre) x.1 x.2.1 x.2.2 (false, m, a) W)
      clear HN
      gi_wp2
      refine round_behind W (by kernel_rfl) (by kernel_rfl) (by kernel_rfl) (Below.refl _ _) ?_
      repeat (go_big_quiet_step (first | (go_at_call 27; with_reducible exact behind_tab CB.out hTW _) | (go_at_call 26; with_reducible exact behind_from CH.out i7 _)))
      refine wpQuiet_nil ?_
      rintro _ ⟨y, rfl⟩
      clear yg y0 y1 y2 hsome
      gi_wp2
      refine wpIn_abs (fun W3 => Below W.heap.size W W3) y.below ?_
      intro W3 hB3
      clear y
      have hT3 := hTW.behind hB3
      have j1 := i1.be hB3
      have yc := behind_c j1
      have y0 := behind_cell0 (c_be hB3 n0)
      have y1 := behind_cell0 (c_be hB3 n1)
      have y2 := behind_cell0 (c_be hB3 n2)
      have hsome := Behind.any W3
      refine round_tail (C := fun W => ∃ y : Behind W3.heap.size W3, W = y.world) 5 _ rfl (by kernel_rfl) (by kernel_rfl) (by kernel_rfl) (by kernel_rfl) ⟨⟨W3.drew, (Below.refl _ _).drew⟩, rfl⟩ ?_
      simp only [List.take_succ_cons, List.take_zero, List.cons_append, List.nil_append, mute]
      repeat (first | ((with_reducible refine quiet_load_ctx rfl ctx_p rfl rfl yc ?_); simp only [Act.put, List.setIfInBounds_toArray, List.set_cons_succ, List.set_cons_zero]) | go_big_quiet_step (first | (go_at_call 22; with_reducible exact behind_tab CC.out hT3 _) | (go_at_call 28; with_reducible exact Behind.call CR.out _)))
      refine wpQuiet_nil ?_
      rintro _ ⟨z, rfl⟩
      have hBz : Below W.heap.size W z.world := hB3.trans (z.below.mono hB3.size)
      refine wpListIn_store_ctx rfl ctx_p rfl rfl rfl (R := swR R gB (pre ++ [x])) ((i1.be hBz).own) ?_
      refine wpListIn_abs (fun W4 => KeepsFrom w1.heap.size W W4 ∧ KeepsCtx bc R W W4 ∧ Ctx W4 (w.heap.size + 3) (swR R gB (pre ++ [x])) ∧ W4.cell? ⟨w.heap.size + 4, 0, none⟩ = some (.int .i64 ((swC R gB pre : Nat) : Int)) ∧ Own W4 (w.heap.size + 4) 1 ∧ W4.cell? ⟨w.heap.size + 1, 0, none⟩ = some (.nilFunc) ∧ Own W4 (w.heap.size + 2) 99 ∧ w1.heap.size ≤ W4.heap.size ∧ Below w.heap.size w W4) ?_ ?_
      · refine ⟨(keeps_below hBz).trans (keeps_setCells _ _ _), fun h => (h.be hBz).sc (by omega) _, ctx_store ((i1.be hBz).own) _, c_sc (show w.heap.size + 3 ≠ w.heap.size + 4 by omega) (c_be hBz i2), o_sc (o_be hBz i3), c_sc (show w.heap.size + 3 ≠ w.heap.size + 1 by omega) (c_be hBz i4), o_sc (o_be hBz i5), ?_, (i7.trans (hBz.mono i7.size)).trans (be_sc _ (by omega))⟩
        rw [setCells_size]
        exact Nat.le_trans i6 hBz.size
      clear hBz z yc y0 y1 y2 hsome
      rintro W4 ⟨k1, k2, k3, k4, k5, k6, k7, k8, k9⟩
      have kf := k5.free 0 (by omega)
      gi_wp2
      refine ⟨k1.trans ((KeepsOthers.setCell _ _ _).from _), fun h => (k2 h).set (by dsimp only; omega) _, ?_⟩
      dsimp only
      rw [HC2.out, show (((swC R gB pre + 1 : Nat)) : Int) = ((swC R gB pre : Nat) : Int) + 1 by omega]
      exact ⟨⟨k3.set (by dsimp only; omega) _, cell_same _ _ _ (by rw [k4]; rfl), o_set k5, c_set (by dsimp only; omega) k6, o_set k7, by rw [World.size_setCell]; exact k8⟩, k9.setCell (p := ⟨w.heap.size + 4, 0, none⟩) (show w.heap.size ≤ w.heap.size + 4 by omega) _⟩
  case done =>
    intro D ys W hD hS hi hK
    replace hS : ys = T := hS.trans hTT.symm
    subst hS
    obtain ⟨⟨i1, i2, i3, i4, i5, i6⟩, i7⟩ := hi
    clear hTT
    generalize swR R gB ys = S at *
    generalize swC R gB ys = U at *
    simp only [Exit.inBlock, Exit.then]
    go_wp2
    obtain ⟨d, hdu, hdr⟩ := ctx_row ctx_p
    have hO5 := o_d1 i5
    have hstw := storeAt_ctx ctx_p hO5 S
    refine region_two (a1 := { tmps := #[.agg cs, .nilFunc, .pointer (some ⟨w.heap.size, 0, none⟩), .pointer (some ⟨w.heap.size + 1, 0, none⟩), .pointer (some ⟨w.heap.size + 1 + 1, 0, none⟩), .int .i64 0, .pointer (some ⟨w.heap.size + 3, 0, none⟩), .pointer (some ⟨w.heap.size + 3 + 1, 0, none⟩), undef, undef, .agg (ctxA R), .agg (ctxA R), .func (.func 32) #[] #[.pointer (some ⟨bc, 0, none⟩)], undef, undef, undef, undef, undef, undef, undef, undef, undef, undef, undef, undef, undef, undef, .agg (ctxA S), undef], defers := [{ target := .collected D, args := #[] }] }) (a2 := { tmps := #[.agg cs, .nilFunc, .pointer (some ⟨w.heap.size, 0, none⟩), .pointer (some ⟨w.heap.size + 1, 0, none⟩), .pointer (some ⟨w.heap.size + 1 + 1, 0, none⟩), .int .i64 0, .pointer (some ⟨w.heap.size + 3, 0, none⟩), .pointer (some ⟨w.heap.size + 3 + 1, 0, none⟩), undef, undef, .agg (ctxA R), .agg (ctxA R), .func (.func 32) #[] #[.pointer (some ⟨bc, 0, none⟩)], undef, undef, undef, undef, undef, undef, undef, undef, undef, undef, undef, undef, undef, undef, .agg (ctxA S), .int .i64 (U : Int)], defers := [{ target := .collected D, args := #[] }] }) (v0 := .agg (ctxA S)) (v1 := .int .i64 (U : Int)) (v3 := .int .i64 (U : Int)) (fun W' => Ctx W' (w.heap.size + 3) S ∧ W'.cell? ⟨w.heap.size + 4, 0, none⟩ = some (.int .i64 (U : Int))) (by kernel_rfl) (by kernel_rfl) (by kernel_rfl) (by kernel_rfl) (by kernel_rfl) (by kernel_rfl) (by kernel_rfl) (by kernel_rfl) (by kernel_rfl) (by kernel_rfl) rfl ⟨i1.d1, c_d1 i2⟩ ?y0 rfl ?y1 rfl (exec_store_ctx ctx_p rfl rfl rfl hO5) rfl ⟨(i1.d1).sc (by omega) _, c_sc (show w.heap.size + 1 + 1 ≠ w.heap.size + 4 by omega) (c_d1 i2)⟩ ?y3 ?fin
    case y0 => exact yieldsIf_load_mid rfl 27 (.tmp 6) rfl (w.heap.size + 3) 0 rfl (ctxL S) d (fun _ h => h.1.all) hdu hdr (by rw [ctxL_length]; exact ctx_info ctx_p)
    case y1 =>
      refine .inl ⟨rfl, fun w' hw' => ?_⟩
      have hcu := hw'.2
      simp [execOp, go_sem, hcu]
    case y3 =>
      refine .inl ⟨rfl, fun w' hw' => ?_⟩
      simp [execOp, go_sem]
    case fin =>
      have hX6 := ctx_store (o_d1 i5) S
      have hK6 := (((KeepsOthers.drew W).from 0).trans (keeps_setCells (b := w.heap.size + 2) (ctxL S) 0 W.drew)).same D _ (Nat.zero_le _) hK rfl
      have hB6 : Below w.heap.size w (W.drew.setCells (w.heap.size + 2) 0 (ctxL S)) := i7.drew.trans (be_sc _ (by omega))
      clear hK hstw hO5 i1 i2 i3 i4 i5 i6 i7
      generalize World.setCells _ _ _ _ = W6 at hX6 hK6 hB6 ⊢
      simp only [Exit.then, Act.put, List.setIfInBounds_toArray, List.set_cons_succ, List.set_cons_zero]
      go_wp2
      refine ⟨by simp, .inl ⟨_, _, rfl, run_takeDeferred hK6, ?_⟩⟩
      exact ⟨_, results_ctx2 rfl ctx_p rfl (ctx_put_obj _ hX6 hK6 rfl), rfl, hB6.trans (belowK_b (w := w) (Nat.le_refl _) W6 D _ _ (by omega) hK6 rfl rfl)⟩
  case stop =>
    rintro D c pre W _ _ h _
    exact h.elim

end Go.Proofs.YtnbfjaocakghkaaDoor
