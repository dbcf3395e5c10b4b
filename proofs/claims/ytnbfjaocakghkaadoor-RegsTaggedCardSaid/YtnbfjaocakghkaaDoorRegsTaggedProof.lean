/-
  RegsTagged: the capabilities that have a tag are told, each once, by rising registers, and no others; whoever goes over them may end; and behind a sweep of all none is told. For every context and every int.
-/
import Derived.Test.YtnbfjaocakghkaaDoorRegOne
import Derived.Test.YtnbfjaocakghkaaDoorRegCount
import Derived.Test.YtnbfjaocakghkaaDoorRegLaid
namespace Go.Proofs.YtnbfjaocakghkaaDoor.RegsTagged
open Go.RowKit


def regionNo (k : Nat) : Code → Option Code
  | .region i ops d => if i = k then some (.region i ops d) else none
  | .seq a b => match regionNo k a with
    | some c => some c
    | none => regionNo k b
  | .block _ c => regionNo k c
  | .scope c => regionNo k c
  | .loop c => regionNo k c
  | .cond _ a b => match regionNo k a with
    | some c => some c
    | none => regionNo k b
  | _ => none
noncomputable def reg23 : Code := ((Tryd.f4.body.bind (regionNo 23)).getD .skip)

set_option maxRecDepth 100000 in
set_option maxHeartbeats 4000000 in
theorem last (R SS : Nat → C3) (t : Bool) (m a : Nat) (hp : R 32 = (t, m, a)) (hs : SS 32 = (false, m, a)) (M0 want FW : Int) (hFW : FW = if bits .and .i64 M0 31 + 1 < want then bits .and .i64 M0 31 + 1 else want) (b0 b1 b8 b10 b11 b12 b14 : Nat) (s0 s5 s7 s9 s15 s16 s17 s18 s19 s20 s21 s22 s23 s24 s25 s26 s27 s28 s29 s30 s31 s32 s33 s34 s35 s36 s37 s38 s39 s40 s41 s42 s43 s44 s45 s46 s47 s48 s49 s50 s51 s52 s53 s54 s55 s56 : Value) (W6 : World) (hT : Tab W6) (hX0 : Ctx W6 b0 R) (hX12 : Ctx W6 b12 SS)
    (c8 : W6.cell? ⟨b8, 0, none⟩ = some (.int .i64 want)) (c10 : W6.cell? ⟨b10, 0, none⟩ = some (.bool true)) (c11 : W6.cell? ⟨b11, 0, none⟩ = some (.int .i64 FW)) (c14 : W6.cell? ⟨b14, 0, none⟩ = some (.int .i64 0)) (c1 : W6.cell? ⟨b1, 0, none⟩ = some (.int .i64 M0))
    (K : Act → World → Prop) (Q' : Exit → Act → World → Prop) (hK : ∀ a' w', a'.tmps.getD 4 undef = .bool true → a'.defers = [] → Below W6.heap.size W6 w' → K a' w') : Code.wp Tryd.prog reg23 (Exit.then K Q') { tmps := #[s0, .int .i64 M0, .pointer (some ⟨b0, 0, none⟩), .pointer (some ⟨b1, 0, none⟩), .bool false, s5, .int .i64 want, s7, .pointer (some ⟨b8, 0, none⟩), s9, .pointer (some ⟨b10, 0, none⟩), .pointer (some ⟨b11, 0, none⟩), .pointer (some ⟨b12, 0, none⟩), .int .i64 want, .pointer (some ⟨b14, 0, none⟩), s15, s16, s17, s18, s19, s20, s21, s22, s23, s24, s25, s26, s27, s28, s29, s30, s31, s32, s33, s34, s35, s36, s37, s38, s39, s40, s41, s42, s43, s44, s45, s46, s47, s48, s49, s50, s51, s52, s53, s54, s55, s56, undef, undef, undef, undef, undef, undef, undef, undef, undef, undef, undef, undef, undef, undef, undef, undef, undef, undef, undef, undef, undef, undef, undef, undef, undef, undef, undef, undef, undef, undef, undef, undef, undef, undef, undef], defers := [] } W6 := by
  have hlow := low31 M0
  have q0 := hX0.c0 (i := 32) (by omega)
  have q1 := hX0.c1 (i := 32) (by omega)
  have q2 := hX0.c2 (i := 32) (by omega)
  have r0 := hX12.c0 (i := 32) (by omega)
  have r1 := hX12.c1 (i := 32) (by omega)
  have r2 := hX12.c2 (i := 32) (by omega)
  rw [hp] at q0 q1 q2
  rw [hs] at r0 r1 r2
  have CO := hide one_any
  have CC : Hid (∀ W, Tab W → Calls Tryd.prog 22 #[.agg #[.bool t, .int .u64 (m : Int), .int .u64 (a : Int)]] W (Makes (.agg #[.bool false, .int .u64 (m : Int), .int .u64 (a : Int)]) W)) := hide (fun W h => clear_all (t, m, a) W h)
  generalize hmm : bits .and .i64 M0 31 = mm at *
  have hwr : IntKind.i64.wrap (mm + 1) = mm + 1 := by rw [IntKind.wrap_i64]; omega
  have y0 := behind_cell0 q0
  have y1 := behind_cell0 q1
  have y2 := behind_cell0 q2
  have y3 := behind_cell0 r0
  have y4 := behind_cell0 r1
  have y5 := behind_cell0 r2
  have y6 := behind_cell0 c8
  have y7 := behind_cell0 c10
  have y8 := behind_cell0 c11
  have y9 := behind_cell0 c14
  have y10 := behind_cell0 c1
  have hsome := Behind.any W6
  clear hX0 hX12 q0 q1 q2 r0 r1 r2 c8 c10 c11 c14 c1
  by_cases hc : mm + 1 < want
  · rw [if_pos hc] at hFW
    subst hFW
    conv => arg 2; whnf
    refine wp_region_behind W6 (by kernel_rfl) (by kernel_rfl) (Below.refl _ _) ?_
    dsimp only [List.append]
    repeat (go_big_quiet_step (first | (go_at_call 22; with_reducible exact behind_tab CC.out hT _) | (go_at_call 16; with_reducible exact Behind.call CO.out _)))
    refine wpQuiet_nil ?_
    rintro _ ⟨y, rfl⟩
    exact hK _ _ rfl rfl y.below
  · rw [if_neg hc] at hFW
    subst hFW
    conv => arg 2; whnf
    refine wp_region_behind W6 (by kernel_rfl) (by kernel_rfl) (Below.refl _ _) ?_
    dsimp only [List.append]
    repeat (go_big_quiet_step (first | (go_at_call 22; with_reducible exact behind_tab CC.out hT _) | (go_at_call 16; with_reducible exact Behind.call CO.out _)))
    refine wpQuiet_nil ?_
    rintro _ ⟨y, rfl⟩
    exact hK _ _ rfl rfl y.below


set_option maxRecDepth 100000 in
set_option maxHeartbeats 4000000 in
theorem walk (R : Nat → C3) (hW : ∀ i, Wf3 (R i)) (M0 : Int) (w : World) (hT : Tab w) :
    Calls Tryd.prog 4 #[.agg (ctxA R), .int .i64 M0] w fun e w' => e = .returned (.bool true) ∧ Below w.heap.size w w' := by
  have hmf : ∀ (fn : Fn) (first cap : Array Value) (w : World), (Instr.makeFunc fn first cap).run Tryd.prog w = .ok (.func fn first cap) w := fun _ _ _ _ => rfl
  have hsq := eql_seq
  obtain ⟨R0, hR0⟩ : ∃ R0, R0 = updC R 0 zC := ⟨_, rfl⟩
  have hW0 : ∀ i, Wf3 (R0 i) := fun i => by
    rw [hR0]
    unfold updC
    split
    · exact ⟨by decide, by decide⟩
    · exact hW i
  have h00 : (R0 0).1 = false := by rw [hR0]; rfl
  have C1 := hide (fun W => tagged_any R0 W)
  obtain ⟨Z, hz, hZe⟩ := ctx_zero ctx_p
  have hZs := ctxA_size (fun _ => zC)
  rw [← hZe] at hZs
  clear hZe
  generalize hcs : ctxA R = cs
  have HC := hide hcs
  clear hcs
  go_enter Tryd.func4, Tryd.ntmps4
  go_upto_region 2 with (first | ((refine wpList_store_cap rfl cap_p rfl zC (0) rfl rfl (by omega) (by omega) (R := R) ?_ ?_); (focus ((repeat (first | with_reducible assumption | with_reducible refine Ctx.dr ?_ _ | with_reducible refine Ctx.d1 ?_ | with_reducible exact ctx_newE HC.out rfl | (with_reducible refine ctx_newE HC.out ?_; focus (simp [*]; done)) | with_reducible refine Ctx.al ?_ _ | (with_reducible refine x_set ?_ ?_; focus (dsimp only; omega)) | (with_reducible refine x_sc ?_ ?_; focus omega) | (with_reducible refine x_be (by with_reducible assumption) ?_))); done))))
  refine wp_abs (fun W => Below w.heap.size w W ∧ Ctx W w.heap.size R0 ∧ W.cell? ⟨w.heap.size + 1, 0, none⟩ = some (.int .i64 M0)) ?_ ?_
  · refine ⟨?_, ?_, ?_⟩
    · repeat (first | with_reducible assumption | with_reducible exact Below.refl _ _ | with_reducible refine Below.drew ?_ | with_reducible refine below_drewN ?_ _ | with_reducible refine bw_alloc ?_ _ | (with_reducible refine bw_set ?_ ?_ _; focus (dsimp only; omega)) | (with_reducible apply bw_behind; with_reducible assumption) | (with_reducible refine bw_sc _ ?_ ?_; focus omega))
    · rw [hR0]
      refine ctx_put ?_ (by omega) _
      repeat (first | with_reducible assumption | with_reducible refine Ctx.dr ?_ _ | with_reducible refine Ctx.d1 ?_ | with_reducible exact ctx_newE HC.out rfl | (with_reducible refine ctx_newE HC.out ?_; focus (simp [*]; done)) | with_reducible refine Ctx.al ?_ _ | (with_reducible refine x_set ?_ ?_; focus (dsimp only; omega)) | (with_reducible refine x_sc ?_ ?_; focus omega) | (with_reducible refine x_be (by with_reducible assumption) ?_))
    · exact c_sc (show w.heap.size ≠ w.heap.size + 1 by omega) (by simp [go_sem])
  clear HC hR0
  rintro W1 ⟨hB1, hX1, hm1⟩
  go_wp2_with (first | (refine wpList_load_ctx rfl ctx_p rfl rfl hX1 ?_) | (go_at_call 17; (with_reducible refine (C1.out _).mono ?_); rintro e w2 ⟨bc, rfl, hbc, hXb2, hb2⟩))
  have hp1 := World.block_lt_of_cell? W1 _ hm1
  dsimp only at hp1
  have hXa := hX1.be hb2
  have hma := c_be hb2 hm1
  have hBa := hB1.trans (hb2.mono hB1.size)
  clear hX1 hm1 hB1 C1
  go_loopw [6, 7] (fun n i wr => ∃ k : Nat, k ≤ 32 ∧ i = .int .i64 (k : Int) ∧ n = .int .i64 ((tagU R0 k).length : Int) ∧ Ctx wr w.heap.size R0 ∧ Ctx wr bc R0 ∧ wr.cell? ⟨w.heap.size + 1, 0, none⟩ = some (.int .i64 M0) ∧ Below w.heap.size w wr ∧ w.heap.size + 1 < bc) (fun _ i _ => 32 - (intOf i).toNat)
  case atStart => exact ⟨0, by omega, rfl, rfl, hXa, hXb2, hma, hBa, by omega⟩
  case round =>
    obtain ⟨k, hk, rfl, rfl, hX, hXb, hm, hB, hbc1⟩ := hrel
    clear hXa hXb2 hma hBa hb2 hbc hp1
    have hpw := hXb.pos
    have hlen := tagU_len R0 k
    have hsucc := tag_len R0 h00 k hk
    have c0 := hX.c0 (i := k) (by omega)
    have hwr : IntKind.i64.wrap (((tagU R0 k).length : Int) + 1) = (((tagU R0 k).length : Nat) : Int) + 1 := by rw [IntKind.wrap_i64]; omega
    by_cases hlt : k < 32
    · have e1 : (k : Int) < 32 := by omega
      have e2 : (0 : Int) ≤ (k : Int) := by omega
      rw [Nat.mul_comm] at c0
      have HS := hide hsucc
      clear hsucc hlen
      cases ht : (R0 k).1 with
      | false =>
        rw [ht] at c0 HS
        go_wp2
        go_roundw
        case rel => exact ⟨k + 1, by omega, by go_num, by rw [HS.out]; rfl, hX, hXb, hm, hB, hbc1⟩
        case measure => simp [intOf]; omega
      | true =>
        rw [ht] at c0 HS
        go_wp2
        go_roundw
        case rel => exact ⟨k + 1, by omega, by go_num, by rw [HS.out]; exact congrArg _ (by simp), hX, hXb, hm, hB, hbc1⟩
        case measure => simp [intOf]; omega
    · obtain rfl : k = 32 := by omega
      rw [show 3 * 32 = 96 from rfl] at c0
      clear hlt
      have hcase : ((R0 32).1 = false ∧ ((tagU R0 32).length : Int) = ((tagU R0 33).length : Int)) ∨ ((R0 32).1 = true ∧ ((tagU R0 32).length : Int) + 1 = ((tagU R0 33).length : Int)) := by
        rw [hsucc]
        cases (R0 32).1
        · exact .inl ⟨rfl, by simp⟩
        · exact .inr ⟨rfl, by simp⟩
      clear hsucc
      rcases hcase with ⟨ht, hw1⟩ | ⟨ht, hw1⟩
      all_goals
        rw [ht] at c0
        have HW := hide hw1
        clear hw1
        go_upto_region 14 with fail
        refine wp_abs (fun W => Below wr.heap.size wr W ∧ JK R0 wr w.heap.size wr.heap.size (wr.heap.size + 1) (wr.heap.size + 1 + 1) [] W) ?_ ?_
        · refine ⟨?_, ⟨?_, ?_, ?_, ?_, ?_, ?_, ?_, ?_⟩⟩
          · repeat (first | with_reducible assumption | with_reducible exact Below.refl _ _ | with_reducible refine Below.drew ?_ | with_reducible refine below_drewN ?_ _ | with_reducible refine bw_alloc ?_ _ | (with_reducible refine bw_set ?_ ?_ _; focus (dsimp only; omega)) | (with_reducible apply bw_behind; with_reducible assumption) | (with_reducible refine bw_sc _ ?_ ?_; focus omega))
          · repeat (first | with_reducible assumption | with_reducible refine Ctx.dr ?_ _ | with_reducible refine Ctx.d1 ?_ | with_reducible refine Ctx.al ?_ _ | (with_reducible refine x_set ?_ ?_; focus (dsimp only; omega)) | (with_reducible refine x_sc ?_ ?_; focus omega) | (with_reducible refine x_be (by with_reducible assumption) ?_))
          · simp [go_sem]
          · repeat (first | with_reducible assumption | with_reducible exact Ctx.own (by with_reducible assumption) | with_reducible refine o_dr _ ?_ | with_reducible refine o_d1 ?_ | with_reducible refine o_set ?_ | with_reducible refine o_sc ?_ | (with_reducible refine o_new ?_ ?_; (focus (first | (simp [*]; done) | (simp [*]; omega))); (focus (first | omega | (simp; done)))) | with_reducible refine o_al _ ?_ | (with_reducible apply o_be; with_reducible assumption))
          · simp [go_sem, fineF]
          · repeat (first | with_reducible assumption | with_reducible exact Ctx.own (by with_reducible assumption) | with_reducible refine o_dr _ ?_ | with_reducible refine o_d1 ?_ | with_reducible refine o_set ?_ | with_reducible refine o_sc ?_ | (with_reducible refine o_new ?_ ?_; (focus (first | (simp [*]; done) | (simp [*]; omega))); (focus (first | omega | (simp; done)))) | with_reducible refine o_al _ ?_ | (with_reducible apply o_be; with_reducible assumption))
          · simp [go_sem, fineF]
          · repeat (first | with_reducible assumption | with_reducible exact Ctx.own (by with_reducible assumption) | with_reducible refine o_dr _ ?_ | with_reducible refine o_d1 ?_ | with_reducible refine o_set ?_ | with_reducible refine o_sc ?_ | (with_reducible refine o_new ?_ ?_; (focus (first | (simp [*]; done) | (simp [*]; omega))); (focus (first | omega | (simp; done)))) | with_reducible refine o_al _ ?_ | (with_reducible apply o_be; with_reducible assumption))
          · repeat (first | with_reducible assumption | with_reducible exact Below.refl _ _ | with_reducible refine Below.drew ?_ | with_reducible refine below_drewN ?_ _ | with_reducible refine bw_alloc ?_ _ | (with_reducible refine bw_set ?_ ?_ _; focus (dsimp only; omega)) | (with_reducible apply bw_behind; with_reducible assumption) | (with_reducible refine bw_sc _ ?_ ?_; focus omega))
        rintro W3 ⟨hG3, hJ3⟩
        have K3 := tagged_k w.heap.size (wr.heap.size + 1 + 1) (wr.heap.size + 1) wr.heap.size bc R0 (JK R0 wr w.heap.size wr.heap.size (wr.heap.size + 1) (wr.heap.size + 1 + 1)) never (jk_stays _ _ _ _ _ _) (fun pre x W hJ hl => clk_any R0 wr w.heap.size wr.heap.size (wr.heap.size + 1) (wr.heap.size + 1 + 1) bc (by omega) (by omega) (by omega) (by omega) (by omega) pre x W hJ hl) W3 (hXb.be hG3) hJ3
        go_upto_region 15 with (first | (go_at_call 32; refine K3.mono ?_; rintro e u3 ⟨⟨v3, rfl⟩, h3⟩; obtain ⟨ys3, hys3, hJ4⟩ := h3.resolve_right (fun ⟨_, _, hf⟩ => hf)))
        clear K3 h3
        rw [hys3] at hJ4
        have hB4 := hJ4.below
        have hX4 := hJ4.ctx
        have n4 := hJ4.n
        have f4 := hJ4.fine
        rw [(fineF_tag R0 33).1] at f4
        have hm4 := c_be hB4 hm
        have hXb4 := hXb.be hB4
        have hz4 := hB4.size
        have p4 := World.block_lt_of_cell? u3 _ f4
        dsimp only at p4
        go_upto_region 16 with fail
        refine wp_abs (fun W => Below u3.heap.size u3 W ∧ JM u3 u3.heap.size (w.heap.size + 1) M0 [] W) ?_ ?_
        · refine ⟨?_, ⟨?_, ?_, ?_, ?_, ?_⟩⟩
          · repeat (first | with_reducible assumption | with_reducible exact Below.refl _ _ | with_reducible refine Below.drew ?_ | with_reducible refine below_drewN ?_ _ | with_reducible refine bw_alloc ?_ _ | (with_reducible refine bw_set ?_ ?_ _; focus (dsimp only; omega)) | (with_reducible apply bw_behind; with_reducible assumption) | (with_reducible refine bw_sc _ ?_ ?_; focus omega))
          · simp [go_sem]
          · repeat (first | with_reducible assumption | with_reducible exact Ctx.own (by with_reducible assumption) | with_reducible refine o_dr _ ?_ | with_reducible refine o_d1 ?_ | with_reducible refine o_set ?_ | with_reducible refine o_sc ?_ | (with_reducible refine o_new ?_ ?_; (focus (first | (simp [*]; done) | (simp [*]; omega))); (focus (first | omega | (simp; done)))) | with_reducible refine o_al _ ?_ | (with_reducible apply o_be; with_reducible assumption))
          · repeat (first | with_reducible assumption | with_reducible refine c_dr _ ?_ | with_reducible refine c_d1 ?_ | with_reducible refine c_al _ ?_ | (with_reducible refine c_set ?_ ?_; focus (dsimp only; omega)) | (with_reducible apply c_be; with_reducible assumption) | (with_reducible refine c_sc ?_ ?_; focus (dsimp only; omega)))
          · exact (low31 M0).1
          · repeat (first | with_reducible assumption | with_reducible exact Below.refl _ _ | with_reducible refine Below.drew ?_ | with_reducible refine below_drewN ?_ _ | with_reducible refine bw_alloc ?_ _ | (with_reducible refine bw_set ?_ ?_ _; focus (dsimp only; omega)) | (with_reducible apply bw_behind; with_reducible assumption) | (with_reducible refine bw_sc _ ?_ ?_; focus omega))
        rintro W5 ⟨hG5, hJ5⟩
        have K5 := tagged_m u3.heap.size (w.heap.size + 1) bc R0 (JM u3 u3.heap.size (w.heap.size + 1) M0) (JMx u3 u3.heap.size M0) (jm_stays _ _ _ _) (fun pre x W hJ hl => clm_any R0 u3 u3.heap.size (w.heap.size + 1) bc M0 (by omega) (by omega) (by omega) pre x W hJ hl) W5 (hXb4.be hG5) hJ5
        go_upto_region 17 with (first | (go_at_call 32; refine K5.mono ?_; rintro e u5 ⟨⟨v5, rfl⟩, h5⟩))
        clear K5
        obtain ⟨FW, hFW, c11, hB6⟩ : ∃ FW : Int, FW = (if bits .and .i64 M0 31 + 1 < ((tagU R0 33).length : Int) then bits .and .i64 M0 31 + 1 else ((tagU R0 33).length : Int)) ∧ u5.cell? ⟨u3.heap.size, 0, none⟩ = some (.int .i64 FW) ∧ Below u3.heap.size u3 u5 := by
          rcases h5 with ⟨ys, hys, hj⟩ | ⟨pre, hpre, hj⟩
          · rw [hys] at hj
            exact ⟨_, (if_neg (by have := hj.le; omega)).symm, hj.n, hj.below⟩
          · have := pre_len hpre
            have h6 := hj.eq
            rcases Int.lt_or_le (bits .and .i64 M0 31 + 1) ((tagU R0 33).length : Int) with hlt | hge
            · exact ⟨_, by rw [if_pos hlt, h6], hj.n, hj.below⟩
            · exact ⟨_, by rw [if_neg (by omega)]; omega, hj.n, hj.below⟩
        clear h5 hJ5 hJ4 hJ3
        have hX6 := hX4.be hB6
        have n6 := c_be hB6 n4
        have f6 := c_be hB6 f4
        have hm6 := c_be hB6 hm4
        have hBu5 := (hB.trans (hB4.mono hB.size)).trans (hB6.mono (Nat.le_trans hB.size hz4))
        have K7 := swept_f R0 hW0 (.func 20) #[] #[] (fun _ => true) u5 (hT.behind hBu5) (fun W _ b => (hold_t (b : Int) W true (clos_t b W)).mono (fun _ _ h => quiet_makes h))
        rw [swept_rs, swept_rc, rc_tag R0 33 (by omega)] at K7
        go_upto_region 18 with (first | (refine wpList_load_ctx rfl ctx_p rfl rfl hX6 ?_) | (go_at_call 7; refine K7.mono ?_; rintro e u7 ⟨rfl, hb7⟩; have hs7 := hb7.size) | (with_reducible refine holdS rfl ?_))
        clear K7
        refine hide ?_
        refine wpList_store_ctx rfl ctx_p rfl rfl rfl (R := rsR R0 (fun _ => true) 33) ?_ ?_
        · repeat (first | with_reducible assumption | with_reducible exact Ctx.own (by with_reducible assumption) | with_reducible refine o_dr _ ?_ | with_reducible refine o_d1 ?_ | with_reducible refine o_set ?_ | with_reducible refine o_sc ?_ | (with_reducible refine o_new ?_ ?_; (focus (first | (simp [*]; done) | (simp [*]; omega))); (focus (first | omega | (simp; done)))) | with_reducible refine o_al _ ?_ | (with_reducible apply o_be; with_reducible assumption))
        refine wpList_abs (fun W => Below u5.heap.size u5 W ∧ Ctx W u7.heap.size (rsR R0 (fun _ => true) 33)) ⟨?_, ctx_store ?_ _⟩ ?_
        · repeat (first | with_reducible assumption | with_reducible exact Below.refl _ _ | with_reducible refine Below.drew ?_ | with_reducible refine below_drewN ?_ _ | with_reducible refine bw_alloc ?_ _ | (with_reducible refine bw_set ?_ ?_ _; focus (dsimp only; omega)) | (with_reducible apply bw_behind; with_reducible assumption) | (with_reducible refine bw_sc _ ?_ ?_; focus omega))
        · repeat (first | with_reducible assumption | with_reducible exact Ctx.own (by with_reducible assumption) | with_reducible refine o_dr _ ?_ | with_reducible refine o_d1 ?_ | with_reducible refine o_set ?_ | with_reducible refine o_sc ?_ | (with_reducible refine o_new ?_ ?_; (focus (first | (simp [*]; done) | (simp [*]; omega))); (focus (first | omega | (simp; done)))) | with_reducible refine o_al _ ?_ | (with_reducible apply o_be; with_reducible assumption))
        rintro W7 ⟨hG7, hX7⟩
        have p7 := hX7.pos
        clear hb7
        go_upto_region 19 with fail
        refine wp_abs (fun W => Below W7.heap.size W7 W ∧ JL W7 W7.heap.size [] W) ?_ ?_
        · refine ⟨?_, ⟨?_, ?_, ?_⟩⟩
          · repeat (first | with_reducible assumption | with_reducible exact Below.refl _ _ | with_reducible refine Below.drew ?_ | with_reducible refine below_drewN ?_ _ | with_reducible refine bw_alloc ?_ _ | (with_reducible refine bw_set ?_ ?_ _; focus (dsimp only; omega)) | (with_reducible apply bw_behind; with_reducible assumption) | (with_reducible refine bw_sc _ ?_ ?_; focus omega))
          · simp [go_sem]
          · repeat (first | with_reducible assumption | with_reducible exact Ctx.own (by with_reducible assumption) | with_reducible refine o_dr _ ?_ | with_reducible refine o_d1 ?_ | with_reducible refine o_set ?_ | with_reducible refine o_sc ?_ | (with_reducible refine o_new ?_ ?_; (focus (first | (simp [*]; done) | (simp [*]; omega))); (focus (first | omega | (simp; done)))) | with_reducible refine o_al _ ?_ | (with_reducible apply o_be; with_reducible assumption))
          · repeat (first | with_reducible assumption | with_reducible exact Below.refl _ _ | with_reducible refine Below.drew ?_ | with_reducible refine below_drewN ?_ _ | with_reducible refine bw_alloc ?_ _ | (with_reducible refine bw_set ?_ ?_ _; focus (dsimp only; omega)) | (with_reducible apply bw_behind; with_reducible assumption) | (with_reducible refine bw_sc _ ?_ ?_; focus omega))
        rintro W8 ⟨hG8, hJ8⟩
        have hX8 := hX7.be hG8
        have p8 := World.block_lt_of_cell? W8 _ hJ8.n
        dsimp only at p8
        have C9 := hide (fun W => tagged_any (rsR R0 (fun _ => true) 33) W)
        go_upto_region 22 with (first | (refine wpList_load_ctx rfl ctx_p rfl rfl hX8 ?_) | (go_at_call 17; (with_reducible refine (C9.out _).mono ?_); rintro e u9 ⟨bc2, rfl, hbc2, hXb9, hb9⟩))
        have hJ9 := jl_stays _ _ _ _ _ hJ8 hb9
        have K9 := tagged_l W7.heap.size bc2 (rsR R0 (fun _ => true) 33) (JL W7 W7.heap.size) never (jl_stays _ _) (fun pre x W hJ hl => cll_any _ W7 W7.heap.size bc2 (by omega) (by omega) pre x W hJ hl) u9 hXb9 hJ9
        go_upto_region 23 with (first | (go_at_call 32; refine K9.mono ?_; rintro e u10 ⟨⟨v10, rfl⟩, h10⟩; obtain ⟨ys10, hys10, hJ10⟩ := h10.resolve_right (fun ⟨_, _, hf⟩ => hf)))
        rw [hys10, tag_none _ 33 (fun i h1 h2 => by rw [swept_tag R0 i h1 h2])] at hJ10
        have hBL := hJ10.below
        have l10 := hJ10.n
        have hX10 := hX7.be hBL
        have g7 := fun (b i : Nat) (v : Value) (h : u5.cell? ⟨b, i, none⟩ = some v) => c_be hBL (c_be hG7 h)
        have n10 := g7 _ _ _ n6
        have f10 := g7 _ _ _ f6
        have m10 := g7 _ _ _ hm6
        have c10 := g7 _ _ _ c11
        have hX0 := (hX6.be hG7).be hBL
        have hBW := (hBu5.trans (hG7.mono hBu5.size)).trans (hBL.mono (Nat.le_trans hBu5.size hG7.size))
        rw [HW.out]
        rename_i K hK
        refine last R0 (rsR R0 (fun _ => true) 33) (R0 32).1 (R0 32).2.1 (R0 32).2.2 rfl (swept_tag R0 32 (by omega) (by omega)) M0 ((tagU R0 33).length : Int) FW hFW w.heap.size (w.heap.size + 1) wr.heap.size (wr.heap.size + 1 + 1) u3.heap.size u7.heap.size W7.heap.size _ _ _ _ _ _ _ _ _ _ _ _ _ _ _ _ _ _ _ _ _ _ _ _ _ _ _ _ _ _ _ _ _ _ _ _ _ _ _ _ _ _ _ _ _ _ u10 (hT.behind hBW) hX0 hX10 n10 f10 c10 l10 m10 K _ ?_
        intro a' w' h4 hd hb
        refine hK _ _ (wp_ret ?_)
        refine bodyPost_ret (v := .bool true) ?_ hd ⟨rfl, hBW.trans (hb.mono hBW.size)⟩
        rw [← h4]
        exact results_tmp rfl _ _ _


open Go.ChangeShapes Go.WideShapes Go.ChangeAt
set_option maxRecDepth 100000 in
theorem walks : Frame.WalksLaid [("mintmark/bounds.places", Rows.laid_mintmark_bounds_places)] 4 Tryd.f4 := by
  intro H enc W base args ds ps hL hval hA
  rw [Tryd.params4] at hA hval
  obtain ⟨v0, v1, d0, d1, p0, p1, hargs, rfl, rfl, h0, h1⟩ := trodAll_two hA
  obtain rfl : args = #[v0, v1] := by cases args; simp_all
  obtain ⟨cs0, rfl, hf0⟩ := Frame.open_struct (F := 8) (ks := ksF 33) Tryd.underlying27 (by kernel_rfl) (hval 0 27 v0 rfl rfl) h0
  obtain ⟨R0, hw0, e0⟩ := open_ctxA hf0
  rw [e0]
  clear e0 hf0
  obtain ⟨x1, rfl, rfl, rfl, w1⟩ := open_int Tryd.underlying3 (hval 1 3 v1 rfl rfl) h1
  exact walk R0 hw0 x1 W (tab_of_laid hL)
set_option maxRecDepth 100000 in
theorem said : Rows.RegsTaggedSaid :=
  OpenClaim.holds_of_wide 4 Tryd.f4 rfl rfl rfl rfl rfl rfl rfl ⟨rfl, rfl, rfl, rfl, rfl⟩ rfl rfl rfl rfl rfl (by kernel_rfl) Tryd.func4 (by kernel_rfl)
    (of_decide_eq_true (by kernel_rfl)) (by unfold Func.isWrapper; first | (rw [if_pos (by decide +kernel)]; kernel_rfl) | (rw [if_neg (by decide +kernel)]; exact ⟨rfl, rfl⟩))
    (fun os started H enc _ => Frame.liftLaid [("mintmark/bounds.places", Rows.laid_mintmark_bounds_places)] os started H enc _ _ Rows.regsTaggedSpec 4 (by kernel_rfl) Tryd.func4 Tryd.underlying4 (by kernel_rfl) rfl (by kernel_rfl)
      (fun ds h => by match ds, h with | [_, _], _ => exact ⟨rfl, rfl, rfl⟩)
      (ChangeSpec.witness_shaped (enc := enc) (C := Tryd.checked) (os := os) (X := fun w _ => laidMetH Tryd.prog [("mintmark/bounds.places", Rows.laid_mintmark_bounds_places)] w) false (World.doorLaid Tryd.prog 400 os) #[.agg #[.bool false, .int .u64 0, .int .u64 0, .bool false, .int .u64 0, .int .u64 0, .bool false, .int .u64 0, .int .u64 0, .bool false, .int .u64 0, .int .u64 0, .bool false, .int .u64 0, .int .u64 0, .bool false, .int .u64 0, .int .u64 0, .bool false, .int .u64 0, .int .u64 0, .bool false, .int .u64 0, .int .u64 0, .bool false, .int .u64 0, .int .u64 0, .bool false, .int .u64 0, .int .u64 0, .bool false, .int .u64 0, .int .u64 0, .bool false, .int .u64 0, .int .u64 0, .bool false, .int .u64 0, .int .u64 0, .bool false, .int .u64 0, .int .u64 0, .bool false, .int .u64 0, .int .u64 0, .bool false, .int .u64 0, .int .u64 0, .bool false, .int .u64 0, .int .u64 0, .bool false, .int .u64 0, .int .u64 0, .bool false, .int .u64 0, .int .u64 0, .bool false, .int .u64 0, .int .u64 0, .bool false, .int .u64 0, .int .u64 0, .bool false, .int .u64 0, .int .u64 0, .bool false, .int .u64 0, .int .u64 0, .bool false, .int .u64 0, .int .u64 0, .bool false, .int .u64 0, .int .u64 0, .bool false, .int .u64 0, .int .u64 0, .bool false, .int .u64 0, .int .u64 0, .bool false, .int .u64 0, .int .u64 0, .bool false, .int .u64 0, .int .u64 0, .bool false, .int .u64 0, .int .u64 0, .bool false, .int .u64 0, .int .u64 0, .bool false, .int .u64 0, .int .u64 0, .bool false, .int .u64 0, .int .u64 0], .int .i64 0] 8 rfl (World.shaped_of_RefB (by kernel_rfl) (by kernel_rfl)) (by kernel_rfl) (by kernel_rfl) (by kernel_rfl) (door_met os _)) walks)
set_option maxRecDepth 100000 in
theorem proved : Rows.RegsTaggedCardSaid :=
  Claim7.holds_tied_plain_at .later [] [.data] true _ false said (fun _ h => by cases h) (by kernel_rfl) (fun _ h => by cases h) regsTagged_row_tie rfl ⟨rfl, rfl⟩ (by kernel_rfl) rfl
    (fun f fn hf hfn => by
      obtain rfl : f = 4 := Option.some.inj ((show Tryd.prog.funcNamed "mintmark/mintmarklaw16.RegsTagged" = some 4 by kernel_rfl).symm.trans hf) |>.symm
      obtain rfl : fn = Tryd.f4 := (Option.some.inj (Tryd.func4.symm.trans hfn)).symm
      exact ⟨by kernel_rfl, fun j t ht => by
        rw [Tryd.params4] at ht
        have hm : t ∈ [27, 3] := by have := Array.mem_of_getElem? ht; simp at this; simp; first | omega | grind
        have hall : ([27, 3].all fun u => !Tryd.prog.wantsStandIn u) = true := by kernel_rfl
        exact (show Tryd.prog.wantsStandIn t = false by simpa using List.all_eq_true.1 hall t hm)⟩)
    (by kernel_rfl)
end Go.Proofs.YtnbfjaocakghkaaDoor.RegsTagged
