/-
  The functions that the statements hand to Swept, held by holds; and what the statements' one answers.
-/
import Derived.Test.YtnbfjaocakghkaaDoorRegRef
import Derived.Test.YtnbfjaocakghkaaDoorRegEq
import Derived.Test.YtnbfjaocakghkaaDoorReg3
namespace Go.Proofs.YtnbfjaocakghkaaDoor
open Go.RowKit

set_option maxHeartbeats 1000000 in
theorem clos_h (F G b : Nat) (p : Nat) (w : World) (c1 : w.cell? ⟨p, 1, none⟩ = some (.int .u64 (F : Int))) (c2 : w.cell? ⟨p, 2, none⟩ = some (.int .u64 (G : Int))) : Calls Tryd.prog 8 #[.int .u64 (b : Int), .pointer (some ⟨p, 0, none⟩)] w (Quiet (.bool (betw F G b)) w) := by
  unfold betw
  by_cases h1 : F ≤ b
  · have g1 : (F : Int) ≤ (b : Int) := by omega
    by_cases h2 : b < G
    · have g2 : (b : Int) < (G : Int) := by omega
      rw [decide_eq_true h1, decide_eq_true h2]
      go_enter Tryd.func8, Tryd.ntmps8
      go_wp2
      go_ret
      exact ⟨ret_bool (by simp), 0, rfl⟩
    · have g2 : ¬ (b : Int) < (G : Int) := by omega
      rw [decide_eq_true h1, decide_eq_false h2]
      go_enter Tryd.func8, Tryd.ntmps8
      go_wp2
      go_ret
      exact ⟨ret_bool (by simp), 0, rfl⟩
  · have g1 : ¬ (F : Int) ≤ (b : Int) := by omega
    rw [decide_eq_false h1, Bool.false_and]
    go_enter Tryd.func8, Tryd.ntmps8
    go_wp2
    go_ret
    exact ⟨ret_bool (by simp), 0, rfl⟩

set_option maxHeartbeats 1000000 in
theorem clos_a (F G b : Nat) (p : Nat) (w : World) (c1 : w.cell? ⟨p, 0, none⟩ = some (.int .u64 (F : Int))) (c2 : w.cell? ⟨p, 1, none⟩ = some (.int .u64 (G : Int))) : Calls Tryd.prog 23 #[.int .u64 (b : Int), .pointer (some ⟨p, 0, none⟩)] w (Quiet (.bool (betw F G b)) w) := by
  unfold betw
  by_cases h1 : F ≤ b
  · have g1 : (F : Int) ≤ (b : Int) := by omega
    by_cases h2 : b < G
    · have g2 : (b : Int) < (G : Int) := by omega
      rw [decide_eq_true h1, decide_eq_true h2]
      go_enter Tryd.func23, Tryd.ntmps23
      go_wp2
      go_ret
      exact ⟨ret_bool (by simp), 0, rfl⟩
    · have g2 : ¬ (b : Int) < (G : Int) := by omega
      rw [decide_eq_true h1, decide_eq_false h2]
      go_enter Tryd.func23, Tryd.ntmps23
      go_wp2
      go_ret
      exact ⟨ret_bool (by simp), 0, rfl⟩
  · have g1 : ¬ (F : Int) ≤ (b : Int) := by omega
    rw [decide_eq_false h1, Bool.false_and]
    go_enter Tryd.func23, Tryd.ntmps23
    go_wp2
    go_ret
    exact ⟨ret_bool (by simp), 0, rfl⟩

set_option maxHeartbeats 1000000 in
theorem clos_b (F G b : Nat) (p : Nat) (w : World) (c1 : w.cell? ⟨p, 2, none⟩ = some (.int .u64 (F : Int))) (c2 : w.cell? ⟨p, 3, none⟩ = some (.int .u64 (G : Int))) : Calls Tryd.prog 24 #[.int .u64 (b : Int), .pointer (some ⟨p, 0, none⟩)] w (Quiet (.bool (betw F G b)) w) := by
  unfold betw
  by_cases h1 : F ≤ b
  · have g1 : (F : Int) ≤ (b : Int) := by omega
    by_cases h2 : b < G
    · have g2 : (b : Int) < (G : Int) := by omega
      rw [decide_eq_true h1, decide_eq_true h2]
      go_enter Tryd.func24, Tryd.ntmps24
      go_wp2
      go_ret
      exact ⟨ret_bool (by simp), 0, rfl⟩
    · have g2 : ¬ (b : Int) < (G : Int) := by omega
      rw [decide_eq_true h1, decide_eq_false h2]
      go_enter Tryd.func24, Tryd.ntmps24
      go_wp2
      go_ret
      exact ⟨ret_bool (by simp), 0, rfl⟩
  · have g1 : ¬ (F : Int) ≤ (b : Int) := by omega
    rw [decide_eq_false h1, Bool.false_and]
    go_enter Tryd.func24, Tryd.ntmps24
    go_wp2
    go_ret
    exact ⟨ret_bool (by simp), 0, rfl⟩

set_option maxHeartbeats 1000000 in
theorem clos_t (b : Nat) (w : World) : Calls Tryd.prog 20 #[.int .u64 (b : Int)] w (Quiet (.bool true) w) := by
  go_enter Tryd.func20, Tryd.ntmps20
  go_wp2
  go_ret
  exact ⟨rfl, 0, rfl⟩

set_option maxHeartbeats 1000000 in
theorem clos_c (F G F2 G2 b : Nat) (p q r : Nat) (w : World) (a1 : w.cell? ⟨q, 0, none⟩ = some (.func (.func 23) #[] #[.pointer (some ⟨p, 0, none⟩)])) (a2 : w.cell? ⟨r, 0, none⟩ = some (.func (.func 24) #[] #[.pointer (some ⟨p, 0, none⟩)])) (c1 : w.cell? ⟨p, 0, none⟩ = some (.int .u64 (F : Int))) (c2 : w.cell? ⟨p, 1, none⟩ = some (.int .u64 (G : Int))) (c3 : w.cell? ⟨p, 2, none⟩ = some (.int .u64 (F2 : Int))) (c4 : w.cell? ⟨p, 3, none⟩ = some (.int .u64 (G2 : Int))) :
    Calls Tryd.prog 25 #[.int .u64 (b : Int), .pointer (some ⟨q, 0, none⟩), .pointer (some ⟨r, 0, none⟩)] w (Quiet (.bool (betw F G b || betw F2 G2 b)) w) := by
  have C1 := hide (fun W => clos_a F G b p W)
  have C2 := hide (fun W => clos_b F2 G2 b p W)
  cases h1 : betw F G b with
  | true =>
    rw [h1] at C1
    go_enter Tryd.func25, Tryd.ntmps25
    go_wp2_with (first | (go_at_call 23; refine (C1.out _ ?_ ?_).mono ?_; (focus (with_reducible assumption)); (focus (with_reducible assumption)); rintro e w' ⟨rfl, n1, rfl⟩))
    go_ret
    exact ⟨ret_bool (by simp), _, rfl⟩
  | false =>
    rw [h1] at C1
    cases h2 : betw F2 G2 b with
    | true =>
      rw [h2] at C2
      go_enter Tryd.func25, Tryd.ntmps25
      go_wp2_with (first | (go_at_call 23; refine (C1.out _ ?_ ?_).mono ?_; (focus (with_reducible assumption)); (focus (with_reducible assumption)); rintro e w' ⟨rfl, n1, rfl⟩) | (go_at_call 24; refine (C2.out _ ?_ ?_).mono ?_; (focus (exact c_dr _ (by with_reducible assumption))); (focus (exact c_dr _ (by with_reducible assumption))); rintro e w' ⟨rfl, n2, rfl⟩))
      go_ret
      exact ⟨ret_bool (by simp), _, rfl⟩
    | false =>
      rw [h2] at C2
      go_enter Tryd.func25, Tryd.ntmps25
      go_wp2_with (first | (go_at_call 23; refine (C1.out _ ?_ ?_).mono ?_; (focus (with_reducible assumption)); (focus (with_reducible assumption)); rintro e w' ⟨rfl, n1, rfl⟩) | (go_at_call 24; refine (C2.out _ ?_ ?_).mono ?_; (focus (exact c_dr _ (by with_reducible assumption))); (focus (exact c_dr _ (by with_reducible assumption))); rintro e w' ⟨rfl, n2, rfl⟩))
      go_ret
      exact ⟨ret_bool (by simp), _, rfl⟩

theorem quiet_load_ctxG {ops : Array Oper} {C : World → Prop} {Q : Act → Prop} {rest : List Oper} {op : Oper} {a : Act} (hw : Region.wanted op (yielded ops a.tmps) = true) {ty : TypeId} (hT : IsCtxT ty) {x : Operand} (ho : op.op = .load ty x)
    {b : Nat} (hx : a.eval x = .pointer (some ⟨b, 0, none⟩)) {R : Nat → C3} (hc : ∀ w, C w → Ctx w b R) (h : wpQuiet Tryd.prog ops C Q rest (a.put op.dst (.agg (ctxA R)))) : wpQuiet Tryd.prog ops C Q (op :: rest) a := by
  unfold wpQuiet
  rw [if_pos hw]
  refine ⟨.agg (ctxA R), fun w hw => ?_, h⟩
  unfold Oper.quietAt execOp
  simp only [ho, hx, Instr.loadAt, Instr.sureAddr, Sem.run_bind, Sem.run_pure, Result.andThen_ok, loadVar_ctx hT (hc w hw)]
  exact ⟨rfl, rfl⟩
theorem wpList_load_ctxG {ops : Array Oper} {rest : List Oper} {op : Oper} {a : Act} {w : World} {Q : Exit → Act → World → Prop} (hw : Region.wanted op (yielded ops a.tmps) = true) {ty : TypeId} (hT : IsCtxT ty) {x : Operand} (ho : op.op = .load ty x)
    {b : Nat} (hx : a.eval x = .pointer (some ⟨b, 0, none⟩)) {R : Nat → C3} (hc : Ctx w b R) (h : wpList Tryd.prog ops Q rest (a.put op.dst (.agg (ctxA R))) w) : wpList Tryd.prog ops Q (op :: rest) a w := by
  obtain ⟨d, hu, hd⟩ := ctx_row hT
  unfold wpList
  rw [if_pos hw]
  exact .inl (wp_load_mid ty x ho b 0 hx (ctxL R) d hc.all hu hd (by rw [ctxL_length]; exact ctx_info hT) h)
def oneR : Nat → C3 := updC (updC (fun _ => zC) 32 (false, 0, 4)) 5 (false, 0, 7)

set_option maxRecDepth 100000 in
set_option maxHeartbeats 1000000 in
theorem one_any (w : World) : Calls Tryd.prog 16 #[] w (Makes (.bool true) w) := by
  have N4 := hide (fun W => null_any 4 W)
  have N7 := hide (fun W => null_any 7 W)
  have N9 := hide (fun W => null_any 9 W)
  have CZ : Hid (∀ W, Calls Tryd.prog 15 #[.agg #[.bool false, .int .u64 0, .int .u64 4]] W (Makes (.agg (ctxA (updC (fun _ => zC) 32 (false, 0, 4)))) W)) := hide (fun W => zero_let false 0 4 _ rfl W)
  have CW : Hid (∀ W, Calls Tryd.prog 12 #[.agg (ctxA (updC (fun _ => zC) 32 (false, 0, 4))), .int .i64 5, .agg #[.bool false, .int .u64 0, .int .u64 7]] W (Makes (.agg (ctxA oneR)) W)) := hide (fun W => with_yes _ 5 false 0 7 (by omega) (by omega) W)
  have CV : Hid (∀ W, Calls Tryd.prog 12 #[.agg (ctxA oneR), .int .i64 0, .agg #[.bool false, .int .u64 0, .int .u64 9]] W (Makes (.agg (ctxA oneR)) W)) := hide (fun W => with_no oneR 0 false 0 9 (by omega) W)
  have G0 : Hid (∀ W, Calls Tryd.prog 10 #[.agg (ctxA oneR), .int .i64 0] W (Makes (.agg #[.bool false, .int .u64 0, .int .u64 0]) W)) := hide (fun W => get_no oneR 0 (by omega) W)
  have G5 : Hid (∀ W, Calls Tryd.prog 10 #[.agg (ctxA oneR), .int .i64 5] W (Makes (.agg #[.bool false, .int .u64 0, .int .u64 7]) W)) := hide (fun W => get_yes oneR 5 (by omega) (by omega) W)
  obtain ⟨Z, hz, hZe⟩ := ctx_zero ctx_p
  have hZs := ctxA_size (fun _ => zC)
  rw [← hZe] at hZs
  clear hZe
  have h98 : ((oneR 32).2.2 : Int) = 4 := rfl
  generalize hA : updC (fun _ => zC) 32 (false, 0, 4) = A0 at CZ CW
  clear hA
  generalize oneR = O at *
  go_enter Tryd.func16, Tryd.ntmps16
  go_wp2_with (first | (go_at_call 31; (with_reducible first | refine (N4.out _).mono ?_ | refine (N7.out _).mono ?_); rintro e w1 ⟨rfl, hb1⟩; have hs1 := hb1.size) | (go_at_call 15; (with_reducible refine (CZ.out _).mono ?_); rintro e w2 ⟨rfl, hb2⟩; have hs2 := hb2.size) | (go_at_call 12; (with_reducible refine (CW.out _).mono ?_); rintro e w3 ⟨rfl, hb3⟩; have hs3 := hb3.size) | (with_reducible refine holdS rfl ?_))
  refine hide ?_
  refine wpList_store_ctx rfl ctx_p rfl rfl rfl (R := O) ?_ ?_
  · repeat (first | with_reducible assumption | with_reducible exact Ctx.own (by with_reducible assumption) | with_reducible refine o_dr _ ?_ | with_reducible refine o_d1 ?_ | with_reducible refine o_set ?_ | with_reducible refine o_sc ?_ | (with_reducible refine o_new ?_ ?_; (focus (first | (simp [*]; done) | (simp [*]; omega))); (focus (first | omega | (simp; done)))) | with_reducible refine o_al _ ?_ | (with_reducible apply o_be; with_reducible assumption))
  refine wpList_abs (fun W => Below w.heap.size w W ∧ Ctx W w3.heap.size O) ⟨?_, ctx_store ?_ _⟩ ?_
  · repeat (first | with_reducible assumption | with_reducible exact Below.refl _ _ | with_reducible refine Below.drew ?_ | with_reducible refine below_drewN ?_ _ | with_reducible refine bw_alloc ?_ _ | (with_reducible refine bw_set ?_ ?_ _; focus (dsimp only; omega)) | (with_reducible apply bw_behind; with_reducible assumption) | (with_reducible refine bw_sc _ ?_ ?_; focus omega))
  · repeat (first | with_reducible assumption | with_reducible exact Ctx.own (by with_reducible assumption) | with_reducible refine o_dr _ ?_ | with_reducible refine o_d1 ?_ | with_reducible refine o_set ?_ | with_reducible refine o_sc ?_ | (with_reducible refine o_new ?_ ?_; (focus (first | (simp [*]; done) | (simp [*]; omega))); (focus (first | omega | (simp; done)))) | with_reducible refine o_al _ ?_ | (with_reducible apply o_be; with_reducible assumption))
  rintro W4 ⟨hB4, hX4⟩
  generalize w3.heap.size = N at *
  go_upto_region 2 with fail
  have yc := behind_c hX4
  have y98 := behind_cell0 (show W4.cell? ⟨N, 98, none⟩ = some (.int .u64 4) from by rw [← h98]; exact hX4.c2 (i := 32) (by omega))
  have hsome := Behind.any W4
  refine wp_region_behind W4 (by kernel_rfl) (by kernel_rfl) (Below.refl _ _) ?_
  refine quiet_load_ctx rfl ctx_p rfl rfl yc ?_
  simp only [Act.put, List.setIfInBounds_toArray, List.set_cons_succ, List.set_cons_zero]
  iterate 6 (go_big_quiet_step (first | (go_at_call 31; with_reducible exact Behind.call N9.out _) | (go_at_call 12; with_reducible exact Behind.call CV.out _) | (go_at_call 10; with_reducible exact Behind.call G0.out _)))
  refine quiet_load_ctxG (by kernel_rfl) ctx_p rfl rfl yc ?_
  simp only [Act.put, List.setIfInBounds_toArray, List.set_cons_succ, List.set_cons_zero]
  iterate 2 (go_big_quiet_step (first | (go_at_call 31; with_reducible exact Behind.call N7.out _) | (go_at_call 12; with_reducible exact Behind.call CV.out _) | (go_at_call 10; with_reducible exact Behind.call G5.out _)))
  iterate 3 (go_big_quiet_step (fail))
  iterate 2 (go_big_quiet_step (fail))
  repeat (go_big_quiet_step (fail))
  refine wpQuiet_nil ?_
  rintro _ ⟨y, rfl⟩
  go_wp2
  go_ret
  exact ⟨rfl, hB4.trans (y.below.mono hB4.size)⟩

end Go.Proofs.YtnbfjaocakghkaaDoor
