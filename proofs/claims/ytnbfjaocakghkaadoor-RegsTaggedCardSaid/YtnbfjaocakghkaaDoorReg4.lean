/-
  Tagged, and which capabilities its iterator tells, in which order.
-/
import Derived.Test.YtnbfjaocakghkaaDoorReg2
import Derived.RangeFuncNested
import Derived.RangeFuncBound
import Derived.RangeFuncCalls
import Derived.RangeFuncLeaves
import Derived.Shelf.Abstract
import Derived.WalkKit
import Derived.OwnWalkIn
import Derived.TacticsInMore
import Derived.LoopNIn
import Derived.LoopIn
namespace Go.Proofs.YtnbfjaocakghkaaDoor
open Go.RowKit

/-- The number of a capability that the iterator may tell. -/
abbrev Reg := { k : Nat // 1 ≤ k ∧ k ≤ 32 }
def regV (R : Nat → C3) (x : Reg) : Array Value := #[.int .i64 (x.1 : Int), capV (R x.1)]
/-- What is told by the first k numbers. -/
def tagU (R : Nat → C3) : Nat → List Reg
  | 0 => []
  | k + 1 => tagU R k ++ (if h : (1 ≤ k ∧ k ≤ 32) ∧ (R k).1 = true then [⟨k, h.1⟩] else [])
theorem tagU_len (R : Nat → C3) : ∀ k, (tagU R k).length ≤ k
  | 0 => Nat.le_refl _
  | k + 1 => by
    have := tagU_len R k
    rw [tagU, List.length_append]
    split
    · rw [List.length_singleton]; omega
    · rw [List.length_nil]; omega
theorem tagU_hit (R : Nat → C3) (k : Nat) (h : 1 ≤ k ∧ k ≤ 32) (ht : (R k).1 = true) : tagU R (k + 1) = tagU R k ++ [⟨k, h⟩] := by rw [tagU, dif_pos ⟨h, ht⟩]
theorem tagU_miss (R : Nat → C3) (k : Nat) (h : ¬ ((1 ≤ k ∧ k ≤ 32) ∧ (R k).1 = true)) : tagU R (k + 1) = tagU R k := by rw [tagU, dif_neg h, List.append_nil]
theorem tagU_pre (R : Nat → C3) {k m : Nat} (h : k ≤ m) : tagU R k <+: tagU R m := by
  induction m with
  | zero => obtain rfl : k = 0 := by omega
            exact List.prefix_refl _
  | succ m ih =>
    rcases Nat.lt_or_ge k (m + 1) with h1 | h1
    · exact (ih (by omega)).trans ⟨_, rfl⟩
    · obtain rfl : k = m + 1 := by omega
      exact List.prefix_refl _
theorem getR_hit {R : Nat → C3} {k : Nat} {m a : Nat} (hk : k < 32) (h : getR R (k : Int) = (true, m, a)) : (1 ≤ k ∧ k ≤ 32) ∧ R k = (true, m, a) := by
  unfold getR at h
  by_cases h1 : 1 ≤ (k : Int) ∧ (k : Int) < 32
  · rw [if_pos h1, Int.toNat_natCast] at h
    exact ⟨by omega, h⟩
  · rw [if_neg h1] at h
    cases h
theorem getR_miss {R : Nat → C3} {k : Nat} {m a : Nat} (hk : k < 32) (h : getR R (k : Int) = (false, m, a)) : ¬ ((1 ≤ k ∧ k ≤ 32) ∧ (R k).1 = true) := fun ⟨h1, h2⟩ => by
  unfold getR at h
  rw [if_pos (by omega), Int.toNat_natCast] at h
  rw [h] at h2
  cases h2
/-- It stays so behind whatever keeps what was there. -/
def Stays {β : Type} (J : β → World → Prop) : Prop := ∀ s A B, J s A → Below A.heap.size A B → J s B
theorem stays_of {β : Type} {B0 : Nat} {J : β → World → Prop} (h : AbidesFrom B0 J) : Stays J := fun s A B hs hb =>
  h s A B none hs ⟨hb.os, hb.tape, hb.output, hb.size, fun k hk _ => hb.block k hk⟩ (fun r e => by cases e)
def KeepsCtx (b : Nat) (R : Nat → C3) (W W' : World) : Prop := Ctx W b R → Ctx W' b R
theorem eql_seq (f : Fn) (c d : Array Value) (W : World) : Sem.run Tryd.prog (binOp .eql 48 (.func f c d) .nilFunc) W = .ok (.bool false) W := by kernel_rfl

set_option maxHeartbeats 1000000 in
theorem tagged_any (R : Nat → C3) (w : World) : Calls Tryd.prog 17 #[.agg (ctxA R)] w fun e w' => ∃ bc : Nat, e = .returned (.func (.func 32) #[] #[.pointer (some ⟨bc, 0, none⟩)]) ∧ w.heap.size ≤ bc ∧ Ctx w' bc R ∧ Below w.heap.size w w' := by
  have hmf : ∀ (fn : Fn) (first cap : Array Value) (w : World), (Instr.makeFunc fn first cap).run Tryd.prog w = .ok (.func fn first cap) w := fun _ _ _ _ => rfl
  generalize hcs : ctxA R = cs
  have HC := hide hcs
  clear hcs
  go_enter Tryd.func17, Tryd.ntmps17
  go_wp2
  go_ret
  refine ⟨_, rfl, Nat.le_refl _, ?_, ?_⟩
  · repeat (first | with_reducible assumption | with_reducible refine Ctx.dr ?_ _ | with_reducible refine Ctx.d1 ?_ | with_reducible exact ctx_newE HC.out rfl | (with_reducible refine ctx_newE HC.out ?_; focus (simp [*]; done)) | with_reducible refine Ctx.al ?_ _ | (with_reducible refine x_set ?_ ?_; focus (dsimp only; omega)) | (with_reducible refine x_sc ?_ ?_; focus omega) | (with_reducible refine x_be (by with_reducible assumption) ?_))
  · repeat (first | with_reducible assumption | with_reducible exact Below.refl _ _ | with_reducible refine Below.drew ?_ | with_reducible refine below_drewN ?_ _ | with_reducible refine bw_alloc ?_ _ | (with_reducible refine bw_set ?_ ?_ _; focus (dsimp only; omega)) | (with_reducible apply bw_behind; with_reducible assumption) | (with_reducible refine bw_sc _ ?_ ?_; focus omega))

set_option maxRecDepth 100000 in
set_option maxHeartbeats 2000000 in
theorem tagged_y (n l Bc : Nat) (hn : 1 ≤ n) (R : Nat → C3) (J Jx : List Reg → World → Prop) (hJ : Stays J) (hY : ∀ pre x W, J pre W → pre.length < 33 → YieldAt Fence.wide (n - 1) Tryd.prog l (regV R x) W fun e W' => (e = .returned (.bool true) ∧ J (pre ++ [x]) W' ∧ (Ctx W Bc R → Ctx W' Bc R)) ∨ (e = .returned (.bool false) ∧ Jx (pre ++ [x]) W'))
    (W : World) (hX0 : Ctx W Bc R) (h0 : J [] W) : Calls Tryd.prog 32 #[.func (.yield l) #[] #[], .pointer (some ⟨Bc, 0, none⟩)] W fun e W' => (∃ v, e = .returned v) ∧ ((∃ ys, ys = tagU R 33 ∧ J ys W') ∨ (∃ pre, pre <+: tagU R 33 ∧ Jx pre W')) := by
  go_enter Tryd.func32, Tryd.ntmps32
  go_wp2
  go_loopw [5] (fun i wr => ∃ k : Nat, k ≤ 32 ∧ i = .int .i64 (k : Int) ∧ Ctx wr Bc R ∧ J (tagU R k) wr) (fun i _ => 32 - (intOf i).toNat)
  case atStart => exact ⟨0, by omega, rfl, hX0, h0⟩
  case round =>
    obtain ⟨k, hk, rfl, hX, hJs⟩ := hrel
    by_cases hlt : k < 32
    · have e1 : (k : Int) < 32 := by omega
      have C1 := hide (fun W => get_all R (k : Int) W)
      obtain ⟨⟨t, m, a⟩, hg⟩ : ∃ c, getR R (k : Int) = c := ⟨_, rfl⟩
      rw [hg] at C1
      unfold capV at C1
      dsimp only at C1
      have HG := hide hg
      clear hg
      go_upto_region 4 with (first | ((refine wpList_load_ctx rfl ctx_p rfl rfl hX ?_)) | (go_at_call 10; (with_reducible refine (C1.out _).mono ?_); rintro e w1 ⟨rfl, hb1⟩))
      have hs1 := hb1.size
      refine wp_abs (fun W2 => Below wr.heap.size wr W2 ∧ W2.cell? ⟨w1.heap.size, 0, none⟩ = some (.bool t) ∧ W2.cell? ⟨w1.heap.size, 1, none⟩ = some (.int .u64 (m : Int)) ∧ W2.cell? ⟨w1.heap.size, 2, none⟩ = some (.int .u64 (a : Int))) ?_ ?_
      · refine ⟨?_, ?_, ?_, ?_⟩
        · repeat (first | with_reducible assumption | with_reducible exact Below.refl _ _ | with_reducible refine Below.drew ?_ | with_reducible refine below_drewN ?_ _ | with_reducible refine bw_alloc ?_ _ | (with_reducible refine bw_set ?_ ?_ _; focus (dsimp only; omega)) | (with_reducible apply bw_behind; with_reducible assumption) | (with_reducible refine bw_sc _ ?_ ?_; focus omega))
        all_goals (simp [go_sem])
      generalize w1.heap.size = N
      clear hb1 hs1
      rintro W2 ⟨hB2, c0, c1, c2⟩
      clear C1
      have hX2 := hX.be hB2
      have hJ2 := hJ _ _ _ hJs hB2
      cases t with
      | false =>
        have hm := tagU_miss R k (getR_miss hlt HG.out)
        have HM := hide hm
        clear hm
        go_wp2
        go_roundw
        case rel => exact ⟨k + 1, by omega, by go_num, hX2, by rw [HM.out]; exact hJ2⟩
        case measure => simp [intOf]; omega
      | true =>
        obtain ⟨hk1, hRk⟩ := getR_hit hlt HG.out
        have HH := hide (tagU_hit R k hk1 (by rw [hRk]))
        obtain ⟨fn, tmps, assign, body, hy, hR⟩ := hY (tagU R k) ⟨k, hk1⟩ W2 hJ2 (by have := tagU_len R k; omega)
        dsimp only [regV, capV] at hy
        rw [hRk] at hy
        dsimp only at hy
        refine (wpIn_wide (n := n)).1 ?_
        gi_wp2
        refine hR.mono ?_
        rintro e W3 (⟨rfl, hJ3, hk3⟩ | ⟨rfl, hJx3⟩)
        · have hX3 := hk3 hX2
          gi_wp2
          go_wp2
          go_roundw
          case rel => exact ⟨k + 1, by omega, by go_num, hX3, by rw [HH.out]; exact hJ3⟩
          case measure => simp [intOf]; omega
        · gi_wp2
          go_wp2
          refine bodyPost_ret (results_none rfl _ _ _) rfl ?_
          exact ⟨⟨_, rfl⟩, .inr ⟨_, by rw [← HH.out]; exact tagU_pre R (by omega), hJx3⟩⟩
    · obtain rfl : k = 32 := by omega
      have c0 := hX.c0 (i := 32) (by omega)
      have c1 := hX.c1 (i := 32) (by omega)
      have c2 := hX.c2 (i := 32) (by omega)
      have hHIT := fun h => tagU_hit R 32 (by omega) h
      have hMIS := fun h => tagU_miss R 32 h
      obtain ⟨⟨t, m, a⟩, hg⟩ : ∃ c, R 32 = c := ⟨_, rfl⟩
      rw [hg] at c0 c1 c2 hHIT hMIS
      dsimp only at c0 c1 c2
      have hJ2 := hJs
      cases t with
      | false =>
        have HM := hide (hMIS (fun h => by cases h.2))
        clear hHIT hMIS
        go_wp2
        go_end0
        exact ⟨⟨_, rfl⟩, .inl ⟨_, rfl, by rw [HM.out]; exact hJ2⟩⟩
      | true =>
        have HH := hide (hHIT rfl)
        clear hHIT hMIS
        go_upto_region 7 with fail
        obtain ⟨fn, tmps, assign, body, hy, hR⟩ := hY (tagU R 32) ⟨32, by omega⟩ wr hJ2 (by have := tagU_len R 32; omega)
        dsimp only [regV, capV] at hy
        rw [hg] at hy
        dsimp only at hy
        simp only [show ((32 : Nat) : Int) = 32 from rfl] at hy
        refine (wpIn_wide (n := n)).1 ?_
        gi_wp2
        refine hR.mono ?_
        rintro e W3 (⟨rfl, hJ3, hk3⟩ | ⟨rfl, hJx3⟩)
        · gi_wp2
          go_wp2
          go_end0
          exact ⟨⟨_, rfl⟩, .inl ⟨_, rfl, by rw [HH.out]; exact hJ3⟩⟩
        · gi_wp2
          go_wp2
          go_end0
          exact ⟨⟨_, rfl⟩, .inr ⟨_, by rw [← HH.out]; exact List.prefix_refl _, hJx3⟩⟩

/-- What Tagged hands back is an iterator over just these; or over a part of them, where a round has said 'no more'. -/
theorem tagged_stops (n Bc : Nat) (hn : 1 ≤ n) (R : Nat → C3) (w : World) (hX : Ctx w Bc R) :
    SeqStopsK Fence.wide n Tryd.prog 32 #[.pointer (some ⟨Bc, 0, none⟩)] (regV R) (KeepsCtx Bc R) (fun ys => ys = tagU R 33) (fun pre => pre <+: tagU R 33) 33 w := fun l J Jx W hW hJ _ hY h0 =>
  callsIn_wide.2 (tagged_y n l Bc hn R J Jx (stays_of hJ) hY W (hX.be hW) h0)

end Go.Proofs.YtnbfjaocakghkaaDoor
