/-
  scale.Ones and what ranges over it: Ones hands back an iterator over the indices of the bits that are 1 (its contract: SeqStopsK); Log and Zeros range over it; nothing that was there turns.
-/
import Derived.RangeFuncBox
import Derived.RangeFuncNested
import Derived.RangeFuncBound
import Derived.RangeFuncCalls
import Derived.RangeFuncLeaves
import Derived.Shelf.Abstract
import Derived.OwnWalkIn
import Derived.TacticsInMore
import Derived.LoopNIn
import Derived.LoopIn
import Derived.Maps.AppendAt
import Derived.Test.YtjoaomncffdgbaaRef02Walks
namespace Go.Proofs.Ytjoaomncffdgbaa
open Go.RowKit Go.Shelf Words ScaleMath

attribute [local go_sem] Oper.semAt_some

/-- What a round must keep for an iterator that reads one captured variable: that variable's box. -/
def KeepsBox (B : Nat) (t : TypeId) (v : Value) (W W' : World) : Prop := Boxed W B t v → Boxed W' B t v
theorem keepsBox_t {B : Nat} {t : TypeId} {v : Value} {X Y Z : World} (h : KeepsBox B t v X Y) (k : KeepsBox B t v Y Z) : KeepsBox B t v X Z := fun h1 => k (h h1)
theorem keepsBox_b {B : Nat} {t : TypeId} {v : Value} {w : World} (W : World) (l : Nat) (o o' : Obj) (_ : w.heap.size ≤ l) (h : W.heap[l]? = some o) (hc : o.isCells = false) (_ : o.isWalk = false) : KeepsBox B t v W (W.putObj l o') := fun hb =>
  hb.kept (grownBy_putObj' W l o') (fun e => by
    obtain rfl : B = l := by simpa using e
    rw [show W.heap[B]? = _ from hb] at h
    cases h; cases hc)
theorem keepsBox_set {B B' : Nat} {t : TypeId} {v u : Value} {W : World} (hne : B ≠ B') : KeepsBox B t v W (W.setCell ⟨B', 0, none⟩ u) := fun hb => hb.other hne u
theorem keepsBox_refl {B : Nat} {t : TypeId} {v : Value} {W : World} : KeepsBox B t v W W := fun h => h
theorem boxed_below {B : Nat} {t : TypeId} {v : Value} {n : Nat} {W W' : World} (h : Boxed W B t v) (hb : Below n W W') (hlt : B < n) : Boxed W' B t v := (hb.block B hlt).trans h

/-- The iterator's body, for every loop body that keeps the captured variable. -/
theorem ones1_in (F : Fence) (n : Nat) (hF : F.fn 23) (hro : F.round = none) (hn : 1 ≤ n) (l Bn : Nat) (x : BitVec 64) (J Jx : List Int → World → Prop)
    (hY : ∀ pre y W, J pre W → pre.length < (onesL x).length → YieldAt F (n - 1) Try.prog l #[.int .i64 y] W fun e W' =>
      (e = .returned (.bool true) ∧ J (pre ++ [y]) W' ∧ KeepsBox Bn 22 (.int .u64 (x.toNat : Int)) W W') ∨ (e = .returned (.bool false) ∧ Jx (pre ++ [y]) W'))
    (W : World) (hBn : Boxed W Bn 22 (.int .u64 (x.toNat : Int))) (h0 : J [] W) :
    CallsIn F n Try.prog 23 #[.func (.yield l) #[] #[], .pointer (some ⟨Bn, 0, none⟩)] W fun e W' => (∃ v, e = .returned v) ∧
      ((∃ ys, ys = onesL x ∧ J ys W') ∨ (∃ pre, pre <+: onesL x ∧ Jx pre W')) := by
  refine callsIn_of_wp Try.func23 rfl hF ?_ hro
  simp only [Try.ntmps23, List.size_toArray, List.length_cons, List.length_nil, Nat.reduceAdd, Nat.reduceSub, Array.replicate_succ, Array.replicate_zero, List.push_toArray, List.append_toArray, List.nil_append, List.cons_append]
  gi_wp2
  gi_loopw [4] (fun i wr => ∃ k : Nat, k ≤ 64 ∧ i = .int .i64 k ∧ Boxed wr Bn 22 (.int .u64 (x.toNat : Int)) ∧ J (onesTo x k) wr) (fun i _ => 64 - (intOf i).toNat)
  case atStart => exact ⟨0, by omega, rfl, hBn, h0⟩
  case round =>
    obtain ⟨k, hk, rfl, hbx, hJs⟩ := hrel
    have hc := hbx.cell
    by_cases h2 : k < 64
    · cases hb : x.getLsbD k with
      | true =>
        have hhit := onesTo_hit x k hb
        have hpre := onesTo_prefix x (k + 1) 64 (by omega)
        obtain ⟨fn, tmps, assign, body, hy, hR⟩ := hY (onesTo x k) (k : Int) wr hJs (onesTo_lt x k h2 hb)
        rw [hhit] at hpre
        have hbit := bit_yes x k hb
        have HH := hide hhit
        have HP := hide hpre
        clear hhit hpre hb
        gi_wp2
        refine hR.mono ?_
        rintro e W3 (⟨rfl, hJ3, hk3⟩ | ⟨rfl, hJx3⟩)
        · have hc3 := hk3 hbx
          gi_wp2
          go_roundw
          case rel => exact ⟨k + 1, by omega, by go_num, hc3, by rw [HH.out]; exact hJ3⟩
          case measure => simp [intOf]; omega
        · gi_wp2
          refine bodyPost_ret (results_none rfl _ _ _) rfl ?_
          exact ⟨⟨_, rfl⟩, .inr ⟨_, HP.out, hJx3⟩⟩
      | false =>
        have hmiss := onesTo_miss x k hb
        have hbit := bit_no x k hb
        have HH := hide hmiss
        clear hmiss hb
        gi_wp2
        refine ⟨fun _ h => (by cases h), ?_⟩
        gi_wp2
        go_roundw
        case rel => exact ⟨k + 1, by omega, by go_num, hbx, by rw [HH.out]; exact hJs⟩
        case measure => simp [intOf]; omega
    · obtain rfl : k = 64 := by omega
      gi_wp2
      go_end0
      exact ⟨⟨_, rfl⟩, .inl ⟨_, rfl, hJs⟩⟩

/-- Ones: the number is boxed; the function value captures the box. -/
theorem ones_in (F : Fence) (n : Nat) (hF : F.fn 19) (hro : F.round = none) (x : Int) (w : World) :
    CallsIn F n Try.prog 19 #[.int .u64 x] w fun e w' => e = .returned (.func (.func 23) #[] #[.pointer (some ⟨w.heap.size, 0, none⟩)]) ∧ w' = w.alloc (.cells #[.int .u64 x] 22) := by
  refine callsIn_of_wp Try.func19 rfl hF ?_ hro
  simp only [Try.ntmps19, List.size_toArray, List.length_cons, List.length_nil, Nat.reduceAdd, Nat.reduceSub, Array.replicate_succ, Array.replicate_zero, List.push_toArray, List.append_toArray, List.nil_append, List.cons_append]
  gi_wp2
  go_ret
  exact ⟨rfl, rfl⟩

/-- What Ones hands back is an iterator over just these indices, in this order; or over a prefix of them, where a round has said 'no more'. -/
theorem ones_stops (F : Fence) (n : Nat) (hF : F.fn 23) (hro : F.round = none) (hn : 1 ≤ n) (Bn : Nat) (x : BitVec 64) (w : World) (hc : Boxed w Bn 22 (.int .u64 (x.toNat : Int))) :
    SeqStopsK F n Try.prog 23 #[.pointer (some ⟨Bn, 0, none⟩)] (fun y : Int => #[Value.int .i64 y]) (KeepsBox Bn 22 (.int .u64 (x.toNat : Int))) (fun ys => ys = onesL x) (fun pre => pre <+: onesL x) (onesL x).length w := fun l J Jx W hW _ _ hY h0 =>
  ones1_in F n hF hro hn l Bn x J Jx hY W (boxed_below hc hW hc.lt) h0

theorem last_snoc (l : List Int) (y d : Int) : (l ++ [y]).getLast?.getD d = y := by simp

set_option maxRecDepth 100000 in
set_option maxHeartbeats 2000000 in
theorem slog_in (F : Fence) (n : Nat) (h3 : F.fn 10) (h4 : F.fn 19) (h5 : F.fn 23) (hro : F.round = none) (hn : 3 ≤ n) (x : BitVec 64) (w : World) :
    CallsIn F n Try.prog 10 #[.int .u64 (x.toNat : Int)] w fun e W' => e = .returned (.int .i64 (logI x)) ∧ Below w.heap.size w W' := by
  have h1 : 1 ≤ n := by omega
  refine callsIn_of_wp_marks Try.func10 rfl h3 ?_ hro
  simp only [Try.ntmps10, List.size_toArray, List.length_cons, List.length_nil, Nat.reduceAdd, Nat.reduceSub, Array.replicate_succ, Array.replicate_zero, List.push_toArray, List.append_toArray, List.nil_append, List.cons_append]
  gi_wp2_with (gi_at_call 19; refine (ones_in F (n - 1) h4 hro _ _).mono ?_; rintro e w' ⟨rfl, rfl⟩)
  have bH := Boxed.new w 3 (.int .i64 (-1))
  have bX := Boxed.new (w.alloc (.cells #[.int .i64 (-1)] 3)) 22 (.int .u64 (x.toNat : Int))
  rw [World.size_alloc] at bX
  have hB0 : Below w.heap.size w ((w.alloc (.cells #[.int .i64 (-1)] 3)).alloc (.cells #[.int .u64 (x.toNat : Int)] 22)) := ((Below.refl _ w).alloc (Nat.le_refl _) _).alloc (by simp) _
  refine wpIn_rangeFunc_ownF hro h1 (gf := 23) (lb := #[.pointer (some ⟨w.heap.size + 1, 0, none⟩)]) rfl h5 (enters_of Try.func23 (by kernel_rfl) rfl)
    (ones_stops F (n - 1) h5 hro (by omega) (w.heap.size + 1) x _ bX) keepsBox_t keepsBox_b (Below.refl _ _) (fun _ => rfl)
    (fun pre W => Boxed W w.heap.size 3 (.int .i64 (pre.getLast?.getD (-1))) ∧ Below w.heap.size w W)
    (fun _ _ _ => False)
    (OwnFrom.and (Own.from (boxed_own _ _ _) _) (ownFrom_below (Nat.le_refl _) (by simp; omega)))
    (fun _ _ _ _ _ hs _ _ => hs)
    ⟨bH.alloc _, hB0⟩
    (fun y => { tmps := #[.int .u64 (x.toNat : Int), undef, .int .i64 0, .pointer (some ⟨w.heap.size, 0, none⟩), .int .i64 y, .int .u64 (x.toNat : Int), .func (.func 23) #[] #[.pointer (some ⟨w.heap.size + 1, 0, none⟩)], .int .i64 y, undef, undef], defers := [] }) ?assign ?body ?done ?stop
  case assign =>
    intro l y W K hK
    gi_wp2
    exact hK
  case body =>
    rintro l pre y W ⟨hb, hB⟩ _
    have hc := hb.cell
    have hf := hb.frozen
    gi_wp2
    exact ⟨KeepsOthers.setCell _ _ _, keepsBox_set (by omega), by rw [last_snoc]; exact hb.set _, hB.setCell (p := ⟨w.heap.size, 0, none⟩) (Nat.le_refl _) _⟩
  case done =>
    rintro D ys W hD rfl ⟨hb, hB⟩ hK
    have hc := hb.cell
    gi_wp2
    refine ⟨by simp, .inl ⟨_, _, rfl, run_takeDeferred hK, ?_⟩⟩
    exact ⟨_, results_tmp rfl _ _ _, rfl, hB.trans (belowK_b (w := w) (Nat.le_refl _) W D _ _ (by simp at hD; omega) hK rfl rfl)⟩
  case stop =>
    rintro D c pre W _ _ h _
    exact h.elim

set_option maxRecDepth 100000 in
set_option maxHeartbeats 2000000 in
theorem szeros_in (F : Fence) (n : Nat) (h3 : F.fn 12) (h4 : F.fn 19) (h5 : F.fn 23) (hro : F.round = none) (hn : 3 ≤ n) (x : BitVec 64) (w : World) :
    CallsIn F n Try.prog 12 #[.int .u64 (x.toNat : Int)] w fun e W' => e = .returned (.int .i64 (zerosI x)) ∧ Below w.heap.size w W' := by
  have h1 : 1 ≤ n := by omega
  refine callsIn_of_wp_marks Try.func12 rfl h3 ?_ hro
  simp only [Try.ntmps12, List.size_toArray, List.length_cons, List.length_nil, Nat.reduceAdd, Nat.reduceSub, Array.replicate_succ, Array.replicate_zero, List.push_toArray, List.append_toArray, List.nil_append, List.cons_append]
  gi_wp2_with (gi_at_call 19; refine (ones_in F (n - 1) h4 hro _ _).mono ?_; rintro e w' ⟨rfl, rfl⟩)
  have bH := Boxed.new w 3 (.int .i64 0)
  have bX := Boxed.new (w.alloc (.cells #[.int .i64 0] 3)) 22 (.int .u64 (x.toNat : Int))
  rw [World.size_alloc] at bX
  have hB0 : Below w.heap.size w ((w.alloc (.cells #[.int .i64 0] 3)).alloc (.cells #[.int .u64 (x.toNat : Int)] 22)) := ((Below.refl _ w).alloc (Nat.le_refl _) _).alloc (by simp) _
  refine wpIn_rangeFunc_ownF hro h1 (gf := 23) (lb := #[.pointer (some ⟨w.heap.size + 1, 0, none⟩)]) rfl h5 (enters_of Try.func23 (by kernel_rfl) rfl)
    (ones_stops F (n - 1) h5 hro (by omega) (w.heap.size + 1) x _ bX) keepsBox_t keepsBox_b (Below.refl _ _) (fun _ => rfl)
    (fun pre W => (pre = [] ∧ Boxed W w.heap.size 3 (.int .i64 0)) ∧ Below w.heap.size w W)
    (fun c pre W => (c = .ret ∧ (∃ y, pre = [y]) ∧ Boxed W w.heap.size 3 (.int .i64 (pre.head?.getD 64))) ∧ Below w.heap.size w W)
    (OwnFrom.and (Own.from (fun s X Y row hs hg hr => ⟨hs.1, boxed_own (β := Unit) _ _ (fun _ => _) () X Y row hs.2 hg hr⟩) _) (ownFrom_below (Nat.le_refl _) (by simp; omega)))
    (fun c => OwnFrom.and (Own.from (fun s X Y row hs hg hr => ⟨hs.1, hs.2.1, boxed_own (β := Unit) _ _ (fun _ => _) () X Y row hs.2.2 hg hr⟩) _) (ownFrom_below (Nat.le_refl _) (by simp; omega)))
    ⟨⟨rfl, bH.alloc _⟩, hB0⟩
    (fun y => { tmps := #[.int .u64 (x.toNat : Int), undef, .pointer (some ⟨w.heap.size, 0, none⟩), .int .i64 y, .int .u64 (x.toNat : Int), .func (.func 23) #[] #[.pointer (some ⟨w.heap.size + 1, 0, none⟩)], .int .i64 y, undef], defers := [] }) ?assign ?body ?done ?stop
  case assign =>
    intro l y W K hK
    gi_wp2
    exact hK
  case body =>
    rintro l pre y W ⟨⟨rfl, hb⟩, hB⟩ _
    have hc := hb.cell
    have hf := hb.frozen
    gi_wp2
    exact ⟨KeepsOthers.setCell _ _ _, ⟨rfl, ⟨y, rfl⟩, hb.set _⟩, hB.setCell (p := ⟨w.heap.size, 0, none⟩) (Nat.le_refl _) _⟩
  case done =>
    rintro D ys W hD rfl ⟨⟨hnil, hb⟩, hB⟩ hK
    have hc := hb.cell
    have hf := hb.frozen
    have hz := zeros_none x hnil
    gi_wp2
    have hK' := (KeepsOthers.setCell W ⟨w.heap.size, 0, none⟩ (.int .i64 64)).same D _ hK rfl
    refine ⟨by simp, .inl ⟨_, _, rfl, run_takeDeferred hK', ?_⟩⟩
    have hc5 := ((hb.set (.int .i64 64)).kept (grownBy_putObj' _ D (.deferred none)) (fun e => by cases e; rw [show W.heap[w.heap.size]? = _ from hb] at hK; cases hK)).cell
    refine ⟨.int .i64 64, ?_, by rw [hz], (hB.setCell (p := ⟨w.heap.size, 0, none⟩) (Nat.le_refl _) _).trans (belowK_b (w := w) (Nat.le_refl _) _ D _ _ (by simp at hD; omega) hK' rfl rfl)⟩
    simp [results, Try.f12, go_sem, hc5]
  case stop =>
    rintro D c pre W hD hpre ⟨⟨rfl, ⟨y, rfl⟩, hb⟩, hB⟩ hK
    gi_wp2
    refine ⟨by simp, .inl ⟨_, _, rfl, run_takeDeferred hK, ?_⟩⟩
    have hc5 := (hb.kept (grownBy_putObj' _ D (.deferred none)) (fun e => by cases e; rw [show W.heap[w.heap.size]? = _ from hb] at hK; cases hK)).cell
    have hz : zerosI x = y := by
      obtain ⟨l, hl⟩ := hpre
      unfold zerosI; rw [← hl]; rfl
    refine ⟨.int .i64 y, ?_, by rw [hz], hB.trans (belowK_b (w := w) (Nat.le_refl _) W D _ _ (by simp at hD; omega) hK rfl rfl)⟩
    simp at hc5
    simp [results, Try.f12, go_sem, hc5]

/-- Log and Zeros, called from anywhere. -/
theorem slog_any (x : BitVec 64) (w : World) : Calls Try.prog 10 #[.int .u64 (x.toNat : Int)] w fun e W' => e = .returned (.int .i64 (logI x)) ∧ Below w.heap.size w W' :=
  callsIn_wide.1 (slog_in Fence.wide 3 trivial trivial trivial rfl (Nat.le_refl _) x w)
theorem szeros_any (x : BitVec 64) (w : World) : Calls Try.prog 12 #[.int .u64 (x.toNat : Int)] w fun e W' => e = .returned (.int .i64 (zerosI x)) ∧ Below w.heap.size w W' :=
  callsIn_wide.1 (szeros_in Fence.wide 3 trivial trivial trivial rfl (Nat.le_refl _) x w)
end Go.Proofs.Ytjoaomncffdgbaa
