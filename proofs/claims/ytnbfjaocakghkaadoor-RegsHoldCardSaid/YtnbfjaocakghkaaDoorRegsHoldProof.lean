/-
  RegsHold: any context has the document's registers, with another one in any place, and swept of what begins in any span. For every context, every capability and every three numbers.
-/
import Derived.Test.YtnbfjaocakghkaaDoorRegOne
import Derived.Test.YtnbfjaocakghkaaDoorRegOwn
import Derived.Test.YtnbfjaocakghkaaDoorRegTwice
import Derived.Test.YtnbfjaocakghkaaDoorRegLaid
namespace Go.Proofs.YtnbfjaocakghkaaDoor.RegsHold
open Go.RowKit

theorem swept_nil (R : Nat → C3) : ctxA (rsR R (fun _ => false) 33) = ctxA R := ctxA_congr fun i _ => by unfold rsR hitB; simp
theorem swept_nil_c (R : Nat → C3) : ∀ k, rsC R (fun _ => false) k = 0
  | 0 => rfl
  | k + 1 => by rw [rsC, swept_nil_c R k]; unfold hitB; simp


def regionNo (k : Nat) : Code → Option Code
  | .region i ops d => if i = k then some (.region i ops d) else none
  | .seq a b => match regionNo k a with
    | some c => some c
    | none => regionNo k b
  | .block _ c => regionNo k c
  | .scope c => regionNo k c
  | .cond _ a b => match regionNo k a with
    | some c => some c
    | none => regionNo k b
  | _ => none
noncomputable def reg7 : Code := ((Tryd.f3.body.bind (regionNo 7)).getD .skip)

set_option maxRecDepth 100000 in
set_option maxHeartbeats 4000000 in
theorem last (R SS : Nat → C3) (CN : Nat) (n : Int) (t : Bool) (m a : BitVec 64) (Z : Array Value) (hz : ∀ W, (zeroValue 27).run Tryd.prog W = .ok (.agg Z) W) (hZs : Z.size = 99) (hZV : ctxA (updC (fun _ => zC) 32 (t, m.toNat, a.toNat)) = (((Z.setIfInBounds 96 (.bool t)).setIfInBounds 97 (.int .u64 (m.toNat : Int))).setIfInBounds 98 (.int .u64 (a.toNat : Int)))) (b0 b1 b8 b9 b11 b13 b14 : Nat) (s0 s1 s2 s3 s16 s17 s18 s19 s20 s21 s22 s23 s24 s25 s26 s27 s28 s29 s30 s31 s32 s33 s34 s35 s36 s37 s38 s39 s40 s41 : Value) (W6 : World) (hX1_6 : Ctx W6 b0 R) (hX2_6 : Ctx W6 b8 R) (hX3_6 : Ctx W6 b9 SS) (hX4_6 : Ctx W6 b11 SS) (hX6 : Ctx W6 b14 R)
    (v0_6 : W6.cell? ⟨b1, 0, none⟩ = some (.bool t)) (v1_6 : W6.cell? ⟨b1, 1, none⟩ = some (.int .u64 (m.toNat : Int))) (v2_6 : W6.cell? ⟨b1, 2, none⟩ = some (.int .u64 (a.toNat : Int))) (x0_6 : W6.cell? ⟨b13, 0, none⟩ = some (.bool t)) (x1_6 : W6.cell? ⟨b13, 1, none⟩ = some (.int .u64 (m.toNat : Int))) (x2_6 : W6.cell? ⟨b13, 2, none⟩ = some (.int .u64 (a.toNat : Int)))
    (K : Act → World → Prop) (Q' : Exit → Act → World → Prop) (hK : ∀ a' w', a'.tmps.getD 6 undef = .bool true → a'.defers = [] → Below W6.heap.size W6 w' → K a' w') : Code.wp Tryd.prog reg7 (Exit.then K Q') { tmps := #[s0, s1, s2, .pointer (some ⟨b0, 0, none⟩), .pointer (some ⟨b1, 0, none⟩), s3, .bool false, .int .i64 n, .pointer (some ⟨b8, 0, none⟩), .pointer (some ⟨b9, 0, none⟩), .int .i64 (CN : Int), .pointer (some ⟨b11, 0, none⟩), .int .i64 (CN : Int), .pointer (some ⟨b13, 0, none⟩), .pointer (some ⟨b14, 0, none⟩), .int .i64 0, s16, s17, s18, s19, s20, s21, s22, s23, s24, s25, s26, s27, s28, s29, s30, s31, s32, s33, s34, s35, s36, s37, s38, s39, s40, s41, undef, undef, undef, undef, undef, undef, undef, undef, undef, undef, undef, undef, undef, undef, undef, undef, undef, undef, undef, undef, undef, undef, undef, undef, undef, undef, undef, undef, undef, undef, undef, undef, undef, undef, undef, undef, undef, undef, undef, undef, undef, undef, undef, undef, undef, undef, undef, undef, undef, undef, undef, undef, undef, undef, undef, undef, undef, undef, undef, undef, undef, undef, undef, undef], defers := [] } W6 := by
  have CG := fun W => get_all R n W
  have CRG := fun W => rget_all R n W
  obtain ⟨⟨tg, mg, ag⟩, hg⟩ : ∃ c, getR R n = c := ⟨_, rfl⟩
  rw [hg] at CG CRG
  unfold capV at CG CRG
  dsimp only at CG CRG
  clear hg
  have CW : ∀ W, Calls Tryd.prog 12 #[.agg (ctxA R), .int .i64 n, .agg #[.bool t, .int .u64 (m.toNat : Int), .int .u64 (a.toNat : Int)]] W (Makes (.agg (ctxA (withR R n (t, m.toNat, a.toNat)))) W) := fun W => with_all R n (t, m.toNat, a.toNat) W
  have CRW : ∀ W, Calls Tryd.prog 13 #[.agg (ctxA R), .int .i64 n, .agg #[.bool t, .int .u64 (m.toNat : Int), .int .u64 (a.toNat : Int)]] W (Makes (.agg (ctxA (withR R n (t, m.toNat, a.toNat)))) W) := fun W => rwith_all R n (t, m.toNat, a.toNat) W
  have CS : ∀ W, Calls Tryd.prog 14 #[.agg (ctxA R), .int .i64 n, .int .u64 (a.toNat : Int)] W (Makes (.agg (ctxA (withR R n (false, 0, a.toNat)))) W) := fun W => set_all R n a.toNat W
  have CRS : ∀ W, Calls Tryd.prog 13 #[.agg (ctxA R), .int .i64 n, .agg #[.bool false, .int .u64 0, .int .u64 (a.toNat : Int)]] W (Makes (.agg (ctxA (withR R n (false, 0, a.toNat)))) W) := fun W => rwith_all R n (false, 0, a.toNat) W
  generalize withR R n (t, m.toNat, a.toNat) = A1 at CW CRW
  generalize withR R n (false, 0, a.toNat) = A2 at CS CRS
  have CZ : ∀ W, Calls Tryd.prog 15 #[.agg #[.bool t, .int .u64 (m.toNat : Int), .int .u64 (a.toNat : Int)]] W (Makes (.agg (ctxA (updC (fun _ => zC) 32 (t, m.toNat, a.toNat)))) W) := fun W => zero_let t m.toNat a.toNat _ rfl W
  generalize updC (fun _ => zC) 32 (t, m.toNat, a.toNat) = ZV at CZ hZV
  have C1 := hide (fun W => own_all A1 W)
  have C2 := hide (fun W => own_all A2 W)
  have C3 := hide (fun W => own_all SS W)
  have CO := hide one_any
  have G1 := hide CG
  have G2 := hide CRG
  have H1 := hide CW
  have H2 := hide CRW
  have H3 := hide CS
  have H4 := hide CRS
  have H5 := hide CZ
  clear CG CRG CW CRW CS CRS CZ
  have E1 := fun W => eqi_same ctx_d A1 W
  have E2 := fun W => eqi_same ctx_d A2 W
  have E3 := fun W => eqi_same ctx_d SS W
  have E4 := fun W => eqi_same ctx_p R W
  have E5 := fun W => eqi_same ctx_p ZV W
  rw [hZV] at E5
  rw [hZV] at H5
  have yR := behind_c hX1_6
  have yO := behind_c hX2_6
  have yS := behind_c hX3_6
  have yT := behind_c hX4_6
  have yN := behind_c hX6
  have w0 := behind_cell0 v0_6
  have w1 := behind_cell0 v1_6
  have w2 := behind_cell0 v2_6
  have w3 := behind_cell0 x0_6
  have w4 := behind_cell0 x1_6
  have w5 := behind_cell0 x2_6
  have hsome := Behind.any W6
  clear hX1_6 hX2_6 hX3_6 hX4_6 hX6
  conv => arg 2; whnf
  refine wp_region_behind W6 (by kernel_rfl) (by kernel_rfl) (Below.refl _ _) ?_
  dsimp only [List.append]
  refine quiet_load_ctx rfl ctx_p rfl rfl yR ?_
  simp only [Act.put, List.setIfInBounds_toArray, List.set_cons_succ, List.set_cons_zero]
  iterate 2 (go_big_quiet_step (first | (go_at_call 10; with_reducible exact Behind.call G1.out _)))
  refine quiet_load_ctx rfl ctx_d rfl rfl yO ?_
  simp only [Act.put, List.setIfInBounds_toArray, List.set_cons_succ, List.set_cons_zero]
  iterate 4 (go_big_quiet_step (first | (go_at_call 11; with_reducible exact Behind.call G2.out _)))
  refine quiet_load_ctxG (by kernel_rfl) ctx_p rfl rfl yR ?_
  simp only [Act.put, List.setIfInBounds_toArray, List.set_cons_succ, List.set_cons_zero]
  iterate 4 (go_big_quiet_step (first | (go_at_call 12; with_reducible exact Behind.call H1.out _) | (go_at_call 6; with_reducible exact Behind.call C1.out _)))
  refine quiet_load_ctxG (by kernel_rfl) ctx_d rfl rfl yO ?_
  simp only [Act.put, List.setIfInBounds_toArray, List.set_cons_succ, List.set_cons_zero]
  iterate 6 (go_big_quiet_step (first | (go_at_call 13; with_reducible exact Behind.call H2.out _)))
  refine quiet_load_ctxG (by kernel_rfl) ctx_p rfl rfl yR ?_
  simp only [Act.put, List.setIfInBounds_toArray, List.set_cons_succ, List.set_cons_zero]
  iterate 5 (go_big_quiet_step (first | (go_at_call 14; with_reducible exact Behind.call H3.out _) | (go_at_call 6; with_reducible exact Behind.call C2.out _)))
  refine quiet_load_ctxG (by kernel_rfl) ctx_d rfl rfl yO ?_
  simp only [Act.put, List.setIfInBounds_toArray, List.set_cons_succ, List.set_cons_zero]
  iterate 8 (go_big_quiet_step (first | (go_at_call 13; with_reducible exact Behind.call H4.out _)))
  refine quiet_load_ctxG (by kernel_rfl) ctx_p rfl rfl yS ?_
  simp only [Act.put, List.setIfInBounds_toArray, List.set_cons_succ, List.set_cons_zero]
  iterate 1 (go_big_quiet_step (first | (go_at_call 6; with_reducible exact Behind.call C3.out _)))
  refine quiet_load_ctxG (by kernel_rfl) ctx_d rfl rfl yT ?_
  simp only [Act.put, List.setIfInBounds_toArray, List.set_cons_succ, List.set_cons_zero]
  iterate 8 (go_big_quiet_step (fail))
  refine quiet_load_ctxG (by kernel_rfl) ctx_p rfl rfl yN ?_
  simp only [Act.put, List.setIfInBounds_toArray, List.set_cons_succ, List.set_cons_zero]
  refine quiet_load_ctxG (by kernel_rfl) ctx_p rfl rfl yR ?_
  simp only [Act.put, List.setIfInBounds_toArray, List.set_cons_succ, List.set_cons_zero]
  iterate 17 (go_big_quiet_step (first | (go_at_call 15; with_reducible exact Behind.call H5.out _) | (go_at_call 16; with_reducible exact Behind.call CO.out _)))
  refine wpQuiet_nil ?_
  rintro _ ⟨y, rfl⟩
  exact hK _ _ rfl rfl y.below


set_option maxRecDepth 100000 in
set_option maxHeartbeats 4000000 in
theorem walk (R : Nat → C3) (hW : ∀ i, Wf3 (R i)) (t : Bool) (m a z0 z1 z2 : BitVec 64) (w : World) (hT : Tab w) :
    Calls Tryd.prog 3 #[.agg (ctxA R), .agg #[.bool t, .int .u64 (m.toNat : Int), .int .u64 (a.toNat : Int)], .agg #[.int .u64 (z0.toNat : Int), .int .u64 (z1.toNat : Int), .int .u64 (z2.toNat : Int)]] w fun e w' => e = .returned (.bool true) ∧ Below w.heap.size w w' := by
  have hmf : ∀ (fn : Fn) (first cap : Array Value) (w : World), (Instr.makeFunc fn first cap).run Tryd.prog w = .ok (.func fn first cap) w := fun _ _ _ _ => rfl
  obtain ⟨Z, hz, hZe⟩ := ctx_zero ctx_p
  obtain ⟨Y, hy, hYe⟩ := ctx_zero ctx_d
  have hZs := ctxA_size (fun _ => zC)
  have hYs := hZs
  rw [← hZe] at hZs
  rw [← hYe] at hYs
  have hZV : ctxA (updC (fun _ => zC) 32 (t, m.toNat, a.toNat)) = (((Z.setIfInBounds 96 (.bool t)).setIfInBounds 97 (.int .u64 (m.toNat : Int))).setIfInBounds 98 (.int .u64 (a.toNat : Int))) := by rw [hZe]; exact zero_cells t m.toNat a.toNat
  clear hZe hYe
  generalize hcs : ctxA R = cs
  have HC := hide hcs
  clear hcs
  go_enter Tryd.func3, Tryd.ntmps3
  go_upto_region 2 with fail
  refine wp_abs (fun W => Below w.heap.size w W ∧ Ctx W w.heap.size R ∧ W.cell? ⟨w.heap.size + 2, 1, none⟩ = some (.int .u64 (z1.toNat : Int)) ∧ W.cell? ⟨w.heap.size + 2, 2, none⟩ = some (.int .u64 (z2.toNat : Int)) ∧ W.cell? ⟨w.heap.size + 1, 0, none⟩ = some (.bool t) ∧ W.cell? ⟨w.heap.size + 1, 1, none⟩ = some (.int .u64 (m.toNat : Int)) ∧ W.cell? ⟨w.heap.size + 1, 2, none⟩ = some (.int .u64 (a.toNat : Int))) ?_ ?_
  · refine ⟨?_, ?_, ?_, ?_, ?_, ?_, ?_⟩
    · repeat (first | with_reducible assumption | with_reducible exact Below.refl _ _ | with_reducible refine Below.drew ?_ | with_reducible refine below_drewN ?_ _ | with_reducible refine bw_alloc ?_ _ | (with_reducible refine bw_set ?_ ?_ _; focus (dsimp only; omega)) | (with_reducible apply bw_behind; with_reducible assumption) | (with_reducible refine bw_sc _ ?_ ?_; focus omega))
    · repeat (first | with_reducible assumption | with_reducible refine Ctx.dr ?_ _ | with_reducible refine Ctx.d1 ?_ | with_reducible exact ctx_newE HC.out rfl | (with_reducible refine ctx_newE HC.out ?_; focus (simp [*]; done)) | with_reducible refine Ctx.al ?_ _ | (with_reducible refine x_set ?_ ?_; focus (dsimp only; omega)) | (with_reducible refine x_sc ?_ ?_; focus omega) | (with_reducible refine x_be (by with_reducible assumption) ?_))
    all_goals (simp [go_sem])
  clear HC
  rintro W1 ⟨hBW1, hX1, q1_1, q2_1, v0_1, v1_1, v2_1⟩

  have K2 := own_all R W1
  go_upto_region 3 with (first | (refine wpList_load_ctx rfl ctx_p rfl rfl hX1 ?_) | (go_at_call 6; refine K2.mono ?_; rintro e u2 ⟨rfl, hb2⟩; have hs2 := hb2.size) | (with_reducible refine holdS rfl ?_))
  refine hide ?_
  refine wpList_store_ctx rfl ctx_d rfl rfl rfl (R := R) ?_ ?_
  · repeat (first | with_reducible assumption | with_reducible exact Ctx.own (by with_reducible assumption) | with_reducible refine o_dr _ ?_ | with_reducible refine o_d1 ?_ | with_reducible refine o_set ?_ | with_reducible refine o_sc ?_ | (with_reducible refine o_new ?_ ?_; (focus (first | (simp [*]; done) | (simp [*]; omega))); (focus (first | omega | (simp; done)))) | with_reducible refine o_al _ ?_ | (with_reducible apply o_be; with_reducible assumption))
  refine wpList_abs (fun W => Below W1.heap.size W1 W ∧ Ctx W u2.heap.size (R)) ⟨?_, ctx_store ?_ _⟩ ?_
  · repeat (first | with_reducible assumption | with_reducible exact Below.refl _ _ | with_reducible refine Below.drew ?_ | with_reducible refine below_drewN ?_ _ | with_reducible refine bw_alloc ?_ _ | (with_reducible refine bw_set ?_ ?_ _; focus (dsimp only; omega)) | (with_reducible apply bw_behind; with_reducible assumption) | (with_reducible refine bw_sc _ ?_ ?_; focus omega))
  · repeat (first | with_reducible assumption | with_reducible exact Ctx.own (by with_reducible assumption) | with_reducible refine o_dr _ ?_ | with_reducible refine o_d1 ?_ | with_reducible refine o_set ?_ | with_reducible refine o_sc ?_ | (with_reducible refine o_new ?_ ?_; (focus (first | (simp [*]; done) | (simp [*]; omega))); (focus (first | omega | (simp; done)))) | with_reducible refine o_al _ ?_ | (with_reducible apply o_be; with_reducible assumption))
  rintro W2 ⟨hG2, hX2⟩
  have hBW2 := hBW1.trans (hG2.mono hBW1.size)
  clear hb2 hs2
  go_upto_region 3 with fail
  have hX1_2 := hX1.be hG2
  have q1_2 := c_be hG2 q1_1
  have q2_2 := c_be hG2 q2_1
  have v0_2 := c_be hG2 v0_1
  have v1_2 := c_be hG2 v1_1
  have v2_2 := c_be hG2 v2_1

  have K3 := swept_f R hW (.func 8) #[] #[.pointer (some ⟨w.heap.size + 2, 0, none⟩)] (betw z1.toNat z2.toNat) W2 (hT.behind hBW2) (fun W hB b => (hold_h (b : Int) (w.heap.size + 2) W (betw z1.toNat z2.toNat b) (clos_h z1.toNat z2.toNat b _ W (c_be hB q1_2) (c_be hB q2_2))).mono (fun _ _ h => quiet_makes h))
  rw [swept_rs, swept_rc] at K3
  go_upto_region 4 with (first | (refine wpList_load_ctx rfl ctx_p rfl rfl hX1_2 ?_) | (go_at_call 7; refine K3.mono ?_; rintro e u3 ⟨rfl, hb3⟩; have hs3 := hb3.size) | (with_reducible refine holdS rfl ?_))
  refine hide ?_
  refine wpList_store_ctx rfl ctx_p rfl rfl rfl (R := (rsR R (betw z1.toNat z2.toNat) 33)) ?_ ?_
  · repeat (first | with_reducible assumption | with_reducible exact Ctx.own (by with_reducible assumption) | with_reducible refine o_dr _ ?_ | with_reducible refine o_d1 ?_ | with_reducible refine o_set ?_ | with_reducible refine o_sc ?_ | (with_reducible refine o_new ?_ ?_; (focus (first | (simp [*]; done) | (simp [*]; omega))); (focus (first | omega | (simp; done)))) | with_reducible refine o_al _ ?_ | (with_reducible apply o_be; with_reducible assumption))
  refine wpList_abs (fun W => Below W2.heap.size W2 W ∧ Ctx W u3.heap.size ((rsR R (betw z1.toNat z2.toNat) 33))) ⟨?_, ctx_store ?_ _⟩ ?_
  · repeat (first | with_reducible assumption | with_reducible exact Below.refl _ _ | with_reducible refine Below.drew ?_ | with_reducible refine below_drewN ?_ _ | with_reducible refine bw_alloc ?_ _ | (with_reducible refine bw_set ?_ ?_ _; focus (dsimp only; omega)) | (with_reducible apply bw_behind; with_reducible assumption) | (with_reducible refine bw_sc _ ?_ ?_; focus omega))
  · repeat (first | with_reducible assumption | with_reducible exact Ctx.own (by with_reducible assumption) | with_reducible refine o_dr _ ?_ | with_reducible refine o_d1 ?_ | with_reducible refine o_set ?_ | with_reducible refine o_sc ?_ | (with_reducible refine o_new ?_ ?_; (focus (first | (simp [*]; done) | (simp [*]; omega))); (focus (first | omega | (simp; done)))) | with_reducible refine o_al _ ?_ | (with_reducible apply o_be; with_reducible assumption))
  rintro W3 ⟨hG3, hX3⟩
  have hBW3 := hBW2.trans (hG3.mono hBW2.size)
  clear hb3 hs3
  go_upto_region 4 with fail
  have hX1_3 := hX1_2.be hG3
  have hX2_3 := hX2.be hG3
  have q1_3 := c_be hG3 q1_2
  have q2_3 := c_be hG3 q2_2
  have v0_3 := c_be hG3 v0_2
  have v1_3 := c_be hG3 v1_2
  have v2_3 := c_be hG3 v2_2

  have K4 := rswept_all R z1.toNat z2.toNat W3
  go_upto_region 5 with (first | (refine wpList_load_ctx rfl ctx_d rfl rfl hX2_3 ?_) | (go_at_call 9; refine K4.mono ?_; rintro e u4 ⟨rfl, hb4⟩; have hs4 := hb4.size) | (with_reducible refine holdS rfl ?_))
  refine hide ?_
  refine wpList_store_ctx rfl ctx_d rfl rfl rfl (R := (rsR R (betw z1.toNat z2.toNat) 33)) ?_ ?_
  · repeat (first | with_reducible assumption | with_reducible exact Ctx.own (by with_reducible assumption) | with_reducible refine o_dr _ ?_ | with_reducible refine o_d1 ?_ | with_reducible refine o_set ?_ | with_reducible refine o_sc ?_ | (with_reducible refine o_new ?_ ?_; (focus (first | (simp [*]; done) | (simp [*]; omega))); (focus (first | omega | (simp; done)))) | with_reducible refine o_al _ ?_ | (with_reducible apply o_be; with_reducible assumption))
  refine wpList_abs (fun W => Below W3.heap.size W3 W ∧ Ctx W u4.heap.size ((rsR R (betw z1.toNat z2.toNat) 33))) ⟨?_, ctx_store ?_ _⟩ ?_
  · repeat (first | with_reducible assumption | with_reducible exact Below.refl _ _ | with_reducible refine Below.drew ?_ | with_reducible refine below_drewN ?_ _ | with_reducible refine bw_alloc ?_ _ | (with_reducible refine bw_set ?_ ?_ _; focus (dsimp only; omega)) | (with_reducible apply bw_behind; with_reducible assumption) | (with_reducible refine bw_sc _ ?_ ?_; focus omega))
  · repeat (first | with_reducible assumption | with_reducible exact Ctx.own (by with_reducible assumption) | with_reducible refine o_dr _ ?_ | with_reducible refine o_d1 ?_ | with_reducible refine o_set ?_ | with_reducible refine o_sc ?_ | (with_reducible refine o_new ?_ ?_; (focus (first | (simp [*]; done) | (simp [*]; omega))); (focus (first | omega | (simp; done)))) | with_reducible refine o_al _ ?_ | (with_reducible apply o_be; with_reducible assumption))
  rintro W4 ⟨hG4, hX4⟩
  have hBW4 := hBW3.trans (hG4.mono hBW3.size)
  clear hb4 hs4
  go_upto_region 5 with fail
  have hX1_4 := hX1_3.be hG4
  have hX2_4 := hX2_3.be hG4
  have hX3_4 := hX3.be hG4
  have q1_4 := c_be hG4 q1_3
  have q2_4 := c_be hG4 q2_3
  have v0_4 := c_be hG4 v0_3
  have v1_4 := c_be hG4 v1_3
  have v2_4 := c_be hG4 v2_3

  go_upto_region 6 with fail
  refine wp_abs (fun W => Below W4.heap.size W4 W ∧ W.cell? ⟨W4.heap.size, 0, none⟩ = some (.bool t) ∧ W.cell? ⟨W4.heap.size, 1, none⟩ = some (.int .u64 (m.toNat : Int)) ∧ W.cell? ⟨W4.heap.size, 2, none⟩ = some (.int .u64 (a.toNat : Int))) ?_ ?_
  · refine ⟨?_, ?_, ?_, ?_⟩
    · repeat (first | with_reducible assumption | with_reducible exact Below.refl _ _ | with_reducible refine Below.drew ?_ | with_reducible refine below_drewN ?_ _ | with_reducible refine bw_alloc ?_ _ | (with_reducible refine bw_set ?_ ?_ _; focus (dsimp only; omega)) | (with_reducible apply bw_behind; with_reducible assumption) | (with_reducible refine bw_sc _ ?_ ?_; focus omega))
    all_goals (simp [go_sem])
  rintro W5 ⟨hG5, x0_5, x1_5, x2_5⟩
  have hBW5 := hBW4.trans (hG5.mono hBW4.size)
  have hX1_5 := hX1_4.be hG5
  have hX2_5 := hX2_4.be hG5
  have hX3_5 := hX3_4.be hG5
  have hX4_5 := hX4.be hG5
  have q1_5 := c_be hG5 q1_4
  have q2_5 := c_be hG5 q2_4
  have v0_5 := c_be hG5 v0_4
  have v1_5 := c_be hG5 v1_4
  have v2_5 := c_be hG5 v2_4

  have K6 := swept_n R hW (fun _ => false) W5 (hT.behind hBW5) (fun W hB b => (hold_nil (b : Int) W).mono (fun _ _ h => quiet_makes h))
  rw [swept_rs, swept_rc, swept_nil, swept_nil_c] at K6
  go_upto_region 7 with (first | (refine wpList_load_ctx rfl ctx_p rfl rfl hX1_5 ?_) | (go_at_call 7; refine K6.mono ?_; rintro e u6 ⟨rfl, hb6⟩; have hs6 := hb6.size) | (with_reducible refine holdS rfl ?_))
  refine hide ?_
  refine wpList_store_ctx rfl ctx_p rfl rfl rfl (R := R) ?_ ?_
  · repeat (first | with_reducible assumption | with_reducible exact Ctx.own (by with_reducible assumption) | with_reducible refine o_dr _ ?_ | with_reducible refine o_d1 ?_ | with_reducible refine o_set ?_ | with_reducible refine o_sc ?_ | (with_reducible refine o_new ?_ ?_; (focus (first | (simp [*]; done) | (simp [*]; omega))); (focus (first | omega | (simp; done)))) | with_reducible refine o_al _ ?_ | (with_reducible apply o_be; with_reducible assumption))
  refine wpList_abs (fun W => Below W5.heap.size W5 W ∧ Ctx W u6.heap.size (R)) ⟨?_, ctx_store ?_ _⟩ ?_
  · repeat (first | with_reducible assumption | with_reducible exact Below.refl _ _ | with_reducible refine Below.drew ?_ | with_reducible refine below_drewN ?_ _ | with_reducible refine bw_alloc ?_ _ | (with_reducible refine bw_set ?_ ?_ _; focus (dsimp only; omega)) | (with_reducible apply bw_behind; with_reducible assumption) | (with_reducible refine bw_sc _ ?_ ?_; focus omega))
  · repeat (first | with_reducible assumption | with_reducible exact Ctx.own (by with_reducible assumption) | with_reducible refine o_dr _ ?_ | with_reducible refine o_d1 ?_ | with_reducible refine o_set ?_ | with_reducible refine o_sc ?_ | (with_reducible refine o_new ?_ ?_; (focus (first | (simp [*]; done) | (simp [*]; omega))); (focus (first | omega | (simp; done)))) | with_reducible refine o_al _ ?_ | (with_reducible apply o_be; with_reducible assumption))
  rintro W6 ⟨hG6, hX6⟩
  have hBW6 := hBW5.trans (hG6.mono hBW5.size)
  clear hb6 hs6
  go_upto_region 7 with fail
  have hX1_6 := hX1_5.be hG6
  have hX2_6 := hX2_5.be hG6
  have hX3_6 := hX3_5.be hG6
  have hX4_6 := hX4_5.be hG6
  have x0_6 := c_be hG6 x0_5
  have x1_6 := c_be hG6 x1_5
  have x2_6 := c_be hG6 x2_5
  have q1_6 := c_be hG6 q1_5
  have q2_6 := c_be hG6 q2_5
  have v0_6 := c_be hG6 v0_5
  have v1_6 := c_be hG6 v1_5
  have v2_6 := c_be hG6 v2_5

  rename_i K hK
  refine last R _ _ _ t m a Z hz hZs hZV _ _ _ _ _ _ _ _ _ _ _ _ _ _ _ _ _ _ _ _ _ _ _ _ _ _ _ _ _ _ _ _ _ _ _ _ _ W6 hX1_6 hX2_6 hX3_6 hX4_6 hX6 v0_6 v1_6 v2_6 x0_6 x1_6 x2_6 K _ ?_
  intro a' w' h6 hd hb
  refine hK _ _ (wp_ret ?_)
  refine bodyPost_ret (v := .bool true) ?_ hd ⟨rfl, hBW6.trans (hb.mono hBW6.size)⟩
  rw [← h6]
  exact results_tmp rfl _ _ _


open Go.ChangeShapes Go.WideShapes Go.ChangeAt
set_option maxRecDepth 100000 in
theorem walks : Frame.WalksLaid [("mintmark/bounds.places", Rows.laid_mintmark_bounds_places)] 3 Tryd.f3 := by
  intro H enc W base args ds ps hL hval hA
  rw [Tryd.params3] at hA hval
  obtain ⟨v0, v1, v2, d0, d1, d2, p0, p1, p2, hargs, rfl, rfl, h0, h1, h2⟩ := trodAll_three hA
  obtain rfl : args = #[v0, v1, v2] := by cases args; simp_all
  obtain ⟨cs0, rfl, hf0⟩ := Frame.open_struct (F := 8) (ks := ksF 33) Tryd.underlying27 (by kernel_rfl) (hval 0 27 v0 rfl rfl) h0
  obtain ⟨R0, hw0, e0⟩ := open_ctxA hf0
  rw [e0]
  clear e0 hf0
  obtain ⟨cs1, rfl, hf1⟩ := Frame.open_struct (F := 4) (ks := [.inr false, .inl .u64, .inl .u64]) Tryd.underlying24 (by kernel_rfl) (hval 1 24 v1 rfl rfl) h1
  match cs1, hf1 with
  | [_, _, _], ⟨⟨z1_0, rfl⟩, ⟨z1_1, rfl, wz1_1⟩, ⟨z1_2, rfl, wz1_2⟩, _⟩ =>
  obtain ⟨Z1_1, rfl⟩ := Frame.wf_u64 wz1_1
  obtain ⟨Z1_2, rfl⟩ := Frame.wf_u64 wz1_2
  obtain ⟨zs2, rfl, hl2, hz2⟩ := Frame.open_arr Tryd.underlying28 Tryd.underlying22 (by kernel_rfl) (by kernel_rfl) (hval 2 28 v2 rfl rfl) h2
  obtain ⟨z2_0, z2_1, z2_2, rfl⟩ := Frame.arr3 hl2
  obtain ⟨Z2_0, rfl⟩ := Frame.wf_u64 (hz2 z2_0 (by simp))
  obtain ⟨Z2_1, rfl⟩ := Frame.wf_u64 (hz2 z2_1 (by simp))
  obtain ⟨Z2_2, rfl⟩ := Frame.wf_u64 (hz2 z2_2 (by simp))
  exact walk R0 hw0 z1_0 Z1_1 Z1_2 Z2_0 Z2_1 Z2_2 W (tab_of_laid hL)
set_option maxRecDepth 100000 in
theorem said : Rows.RegsHoldSaid :=
  OpenClaim.holds_of_wide 3 Tryd.f3 rfl rfl rfl rfl rfl rfl rfl ⟨rfl, rfl, rfl, rfl, rfl⟩ rfl rfl rfl rfl rfl (by kernel_rfl) Tryd.func3 (by kernel_rfl)
    (of_decide_eq_true (by kernel_rfl)) (by unfold Func.isWrapper; first | (rw [if_pos (by decide +kernel)]; kernel_rfl) | (rw [if_neg (by decide +kernel)]; exact ⟨rfl, rfl⟩))
    (fun os started H enc _ => Frame.liftLaid [("mintmark/bounds.places", Rows.laid_mintmark_bounds_places)] os started H enc _ _ Rows.regsHoldSpec 4 (by kernel_rfl) Tryd.func3 Tryd.underlying4 (by kernel_rfl) rfl (by kernel_rfl)
      (fun ds h => by match ds, h with | [_, _, _], _ => exact ⟨rfl, rfl, rfl⟩)
      (ChangeSpec.witness_shaped (enc := enc) (C := Tryd.checked) (os := os) (X := fun w _ => laidMetH Tryd.prog [("mintmark/bounds.places", Rows.laid_mintmark_bounds_places)] w) false (World.doorLaid Tryd.prog 400 os) #[.agg #[.bool false, .int .u64 0, .int .u64 0, .bool false, .int .u64 0, .int .u64 0, .bool false, .int .u64 0, .int .u64 0, .bool false, .int .u64 0, .int .u64 0, .bool false, .int .u64 0, .int .u64 0, .bool false, .int .u64 0, .int .u64 0, .bool false, .int .u64 0, .int .u64 0, .bool false, .int .u64 0, .int .u64 0, .bool false, .int .u64 0, .int .u64 0, .bool false, .int .u64 0, .int .u64 0, .bool false, .int .u64 0, .int .u64 0, .bool false, .int .u64 0, .int .u64 0, .bool false, .int .u64 0, .int .u64 0, .bool false, .int .u64 0, .int .u64 0, .bool false, .int .u64 0, .int .u64 0, .bool false, .int .u64 0, .int .u64 0, .bool false, .int .u64 0, .int .u64 0, .bool false, .int .u64 0, .int .u64 0, .bool false, .int .u64 0, .int .u64 0, .bool false, .int .u64 0, .int .u64 0, .bool false, .int .u64 0, .int .u64 0, .bool false, .int .u64 0, .int .u64 0, .bool false, .int .u64 0, .int .u64 0, .bool false, .int .u64 0, .int .u64 0, .bool false, .int .u64 0, .int .u64 0, .bool false, .int .u64 0, .int .u64 0, .bool false, .int .u64 0, .int .u64 0, .bool false, .int .u64 0, .int .u64 0, .bool false, .int .u64 0, .int .u64 0, .bool false, .int .u64 0, .int .u64 0, .bool false, .int .u64 0, .int .u64 0, .bool false, .int .u64 0, .int .u64 0, .bool false, .int .u64 0, .int .u64 0], .agg #[.bool false, .int .u64 0, .int .u64 0], .agg #[.int .u64 0, .int .u64 0, .int .u64 0]] 8 rfl (World.shaped_of_RefB (by kernel_rfl) (by kernel_rfl)) (by kernel_rfl) (by kernel_rfl) (by kernel_rfl) (door_met os _)) walks)
set_option maxRecDepth 100000 in
theorem proved : Rows.RegsHoldCardSaid :=
  Claim7.holds_tied_plain_at .later [] [.data] true _ false said (fun _ h => by cases h) (by kernel_rfl) (fun _ h => by cases h) regsHold_row_tie rfl ⟨rfl, rfl⟩ (by kernel_rfl) rfl
    (fun f fn hf hfn => by
      obtain rfl : f = 3 := Option.some.inj ((show Tryd.prog.funcNamed "mintmark/mintmarklaw16.RegsHold" = some 3 by kernel_rfl).symm.trans hf) |>.symm
      obtain rfl : fn = Tryd.f3 := (Option.some.inj (Tryd.func3.symm.trans hfn)).symm
      exact ⟨by kernel_rfl, fun j t ht => by
        rw [Tryd.params3] at ht
        have hm : t ∈ [27, 24, 28] := by have := Array.mem_of_getElem? ht; simp at this; simp; first | omega | grind
        have hall : ([27, 24, 28].all fun u => !Tryd.prog.wantsStandIn u) = true := by kernel_rfl
        exact (show Tryd.prog.wantsStandIn t = false by simpa using List.all_eq_true.1 hall t hm)⟩)
    (by kernel_rfl)
end Go.Proofs.YtnbfjaocakghkaaDoor.RegsHold
