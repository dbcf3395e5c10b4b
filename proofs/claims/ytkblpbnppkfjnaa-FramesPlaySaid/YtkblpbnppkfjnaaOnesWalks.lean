/-
  scale.Ones and what ranges over it: Ones hands back an iterator over the indices of the bits that are 1 (its contract: SeqStopsK); Log and Zeros range over it; nothing that was there turns.
-/
import Derived.RangeFuncBox
import Derived.RangeFuncNested
import Derived.RangeFuncBound
import Derived.RangeFuncCalls
import Derived.RangeFuncLeaves
import Derived.Shelf.Abstract
import Derived.OwnWalkIn
import Derived.TacticsInMore
import Derived.LoopNIn
import Derived.LoopIn
import Derived.Maps.AppendAt
import Derived.Test.YtkblpbnppkfjnaaRef02Walks
namespace Go.Proofs.Ytkblpbnppkfjnaa
open Go.RowKit Go.Shelf Words ScaleMath

attribute [local go_sem] Oper.semAt_some

/-- What a round must keep for an iterator that reads one captured variable: that variable's box. -/
def KeepsBox (B : Nat) (t : TypeId) (v : Value) (W W' : World) : Prop := Boxed W B t v → Boxed W' B t v
theorem keepsBox_t {B : Nat} {t : TypeId} {v : Value} {X Y Z : World} (h : KeepsBox B t v X Y) (k : KeepsBox B t v Y Z) : KeepsBox B t v X Z := fun h1 => k (h h1)
theorem keepsBox_b {B : Nat} {t : TypeId} {v : Value} {w : World} (W : World) (l : Nat) (o o' : Obj) (_ : w.heap.size ≤ l) (h : W.heap[l]? = some o) (hc : o.isCells = false) (_ : o.isWalk = false) : KeepsBox B t v W (W.putObj l o') := fun hb =>
  hb.kept (grownBy_putObj' W l o') (fun e => by
    obtain rfl : B = l := by simpa using e
    rw [show W.heap[B]? = _ from hb] at h
    cases h; cases hc)
theorem keepsBox_set {B B' : Nat} {t : TypeId} {v u : Value} {W : World} (hne : B ≠ B') : KeepsBox B t v W (W.setCell ⟨B', 0, none⟩ u) := fun hb => hb.other hne u
theorem keepsBox_refl {B : Nat} {t : TypeId} {v : Value} {W : World} : KeepsBox B t v W W := fun h => h
theorem boxed_below {B : Nat} {t : TypeId} {v : Value} {n : Nat} {W W' : World} (h : Boxed W B t v) (hb : Below n W W') (hlt : B < n) : Boxed W' B t v := (hb.block B hlt).trans h

/-- The iterator's body, for every loop body that keeps the captured variable. -/
theorem ones1_in (F : Fence) (n : Nat) (hF : F.fn 24) (hro : F.round = none) (hn : 1 ≤ n) (l Bn : Nat) (x : BitVec 64) (J Jx : List Int → World → Prop)
    (hY : ∀ pre y W, J pre W → pre.length < (onesL x).length → YieldAt F (n - 1) Try.prog l #[.int .i64 y] W fun e W' =>
      (e = .returned (.bool true) ∧ J (pre ++ [y]) W' ∧ KeepsBox Bn 40 (.int .u64 (x.toNat : Int)) W W') ∨ (e = .returned (.bool false) ∧ Jx (pre ++ [y]) W'))
    (W : World) (hBn : Boxed W Bn 40 (.int .u64 (x.toNat : Int))) (h0 : J [] W) :
    CallsIn F n Try.prog 24 #[.func (.yield l) #[] #[], .pointer (some ⟨Bn, 0, none⟩)] W fun e W' => (∃ v, e = .returned v) ∧
      ((∃ ys, ys = onesL x ∧ J ys W') ∨ (∃ pre, pre <+: onesL x ∧ Jx pre W')) := by
  refine callsIn_of_wp Try.func24 rfl hF ?_ hro
  simp only [Try.ntmps24, List.size_toArray, List.length_cons, List.length_nil, Nat.reduceAdd, Nat.reduceSub, Array.replicate_succ, Array.replicate_zero, List.push_toArray, List.append_toArray, List.nil_append, List.cons_append]
  gi_wp2
  gi_loopw [4] (fun i wr => ∃ k : Nat, k ≤ 64 ∧ i = .int .i64 k ∧ Boxed wr Bn 40 (.int .u64 (x.toNat : Int)) ∧ J (onesTo x k) wr) (fun i _ => 64 - (intOf i).toNat)
  case atStart => exact ⟨0, by omega, rfl, hBn, h0⟩
  case round =>
    obtain ⟨k, hk, rfl, hbx, hJs⟩ := hrel
    have hc := hbx.cell
    by_cases h2 : k < 64
    · cases hb : x.getLsbD k with
      | true =>
        have hhit := onesTo_hit x k hb
        have hpre := onesTo_prefix x (k + 1) 64 (by omega)
        obtain ⟨fn, tmps, assign, body, hy, hR⟩ := hY (onesTo x k) (k : Int) wr hJs (onesTo_lt x k h2 hb)
        rw [hhit] at hpre
        have hbit := bit_yes x k hb
        have HH := hide hhit
        have HP := hide hpre
        clear hhit hpre hb
        gi_wp2
        refine hR.mono ?_
        rintro e W3 (⟨rfl, hJ3, hk3⟩ | ⟨rfl, hJx3⟩)
        · have hc3 := hk3 hbx
          gi_wp2
          go_roundw
          case rel => exact ⟨k + 1, by omega, by go_num, hc3, by rw [HH.out]; exact hJ3⟩
          case measure => simp [intOf]; omega
        · gi_wp2
          refine bodyPost_ret (results_none rfl _ _ _) rfl ?_
          exact ⟨⟨_, rfl⟩, .inr ⟨_, HP.out, hJx3⟩⟩
      | false =>
        have hmiss := onesTo_miss x k hb
        have hbit := bit_no x k hb
        have HH := hide hmiss
        clear hmiss hb
        gi_wp2
        refine ⟨fun _ h => (by cases h), ?_⟩
        gi_wp2
        go_roundw
        case rel => exact ⟨k + 1, by omega, by go_num, hbx, by rw [HH.out]; exact hJs⟩
        case measure => simp [intOf]; omega
    · obtain rfl : k = 64 := by omega
      gi_wp2
      go_end0
      exact ⟨⟨_, rfl⟩, .inl ⟨_, rfl, hJs⟩⟩

/-- Ones: the number is boxed; the function value captures the box. -/
theorem ones_in (F : Fence) (n : Nat) (hF : F.fn 23) (hro : F.round = none) (x : Int) (w : World) :
    CallsIn F n Try.prog 23 #[.int .u64 x] w fun e w' => e = .returned (.func (.func 24) #[] #[.pointer (some ⟨w.heap.size, 0, none⟩)]) ∧ w' = w.alloc (.cells #[.int .u64 x] 40) := by
  refine callsIn_of_wp Try.func23 rfl hF ?_ hro
  simp only [Try.ntmps23, List.size_toArray, List.length_cons, List.length_nil, Nat.reduceAdd, Nat.reduceSub, Array.replicate_succ, Array.replicate_zero, List.push_toArray, List.append_toArray, List.nil_append, List.cons_append]
  gi_wp2
  go_ret
  exact ⟨rfl, rfl⟩

/-- What Ones hands back is an iterator over just these indices, in this order; or over a prefix of them, where a round has said 'no more'. -/
theorem ones_stops (F : Fence) (n : Nat) (hF : F.fn 24) (hro : F.round = none) (hn : 1 ≤ n) (Bn : Nat) (x : BitVec 64) (w : World) (hc : Boxed w Bn 40 (.int .u64 (x.toNat : Int))) :
    SeqStopsK F n Try.prog 24 #[.pointer (some ⟨Bn, 0, none⟩)] (fun y : Int => #[Value.int .i64 y]) (KeepsBox Bn 40 (.int .u64 (x.toNat : Int))) (fun ys => ys = onesL x) (fun pre => pre <+: onesL x) (onesL x).length w := fun l J Jx W hW _ _ hY h0 =>
  ones1_in F n hF hro hn l Bn x J Jx hY W (boxed_below hc hW hc.lt) h0

theorem last_snoc (l : List Int) (y d : Int) : (l ++ [y]).getLast?.getD d = y := by simp

end Go.Proofs.Ytkblpbnppkfjnaa