/-
  What is appended to the document's buffer, append as a step of a walk; what Look of the document's answers.
-/
import Derived.Test.YtikdoknfcikfgaaTlbRef
import Derived.Test.YtikdoknfcikfgaaTlb7
import Derived.Laws.AppendOwnNone
import Derived.Deep.AppendLies
import Derived.Deep.RegionHeld3
import Derived.Deep.DeepCutAuto
namespace Go.Proofs.Ytikdoknfcikfgaa
open Go.RowKit

/-- A value from which the lines L can be appended: it lies below block B. -/
def Src (W : World) (B : Nat) (u : Value) (m : Nat) (L : List Ln) : Prop :=
  m = L.length ∧ ((u = .slice none 0 0 ∧ L = []) ∨ ∃ g o c, u = .slice (some ⟨g, o, none⟩) m c ∧ g < B ∧ ∀ j v, (refF L)[j]? = some v → W.cell? ⟨g, o + j, none⟩ = some v)
theorem src_bn {W W' : World} {B m : Nat} {u : Value} {L : List Ln} (hb : Below B W W') (h : Src W B u m L) : Src W' B u m L := by
  refine ⟨h.1, ?_⟩
  rcases h.2 with h | ⟨g, o, c, h1, h2, h3⟩
  · exact .inl h
  · exact .inr ⟨g, o, c, h1, h2, fun j v hv => (hb.cell (p := ⟨g, o + j, none⟩) h2).trans (h3 j v hv)⟩
theorem src_more {W : World} {B B' m : Nat} {u : Value} {L : List Ln} (hb : B ≤ B') (h : Src W B u m L) : Src W B' u m L := by
  refine ⟨h.1, ?_⟩
  rcases h.2 with h | ⟨g, o, c, h1, h2, h3⟩
  · exact .inl h
  · exact .inr ⟨g, o, c, h1, by omega, h3⟩
theorem refL_one (l : Ln) : ∀ v ∈ refL l, v.oneCell' = true := by
  intro v hv
  simp only [refL, List.mem_cons, List.not_mem_nil, or_false] at hv
  rcases hv with rfl | rfl | rfl <;> rfl
theorem refF_one (L : List Ln) : ∀ v ∈ refF L, v.oneCell' = true := by
  intro v hv
  obtain ⟨c, hc, hv⟩ := List.mem_flatten.1 hv
  obtain ⟨l, _, rfl⟩ := List.mem_map.1 hc
  exact refL_one l v hv
theorem refF_take (L : List Ln) (k j : Nat) (v : Value) (h : (refF (L.take k))[j]? = some v) : (refF L)[j]? = some v := by
  have e : refF L = refF (L.take k) ++ refF (L.drop k) := by rw [← refF_append, List.take_append_drop]
  rw [e, List.getElem?_append_left (List.getElem?_eq_some_iff.1 h).1]
  exact h
theorem refF_drop (L : List Ln) (k j : Nat) (v : Value) (hk : k ≤ L.length) (h : (refF (L.drop k))[j]? = some v) : (refF L)[k * 3 + j]? = some v := by
  have e : refF L = refF (L.take k) ++ refF (L.drop k) := by rw [← refF_append, List.take_append_drop]
  have hl : (refF (L.take k)).length = k * 3 := by rw [refF_length, List.length_take]; congr 1; omega
  rw [e, List.getElem?_append_right (by omega), hl, show k * 3 + j - k * 3 = j by omega]
  exact h
/-- The first lines of a row. -/
theorem src_take {W : World} {g B cap : Nat} {L : List Ln} (hr : Row W g (refF L)) (hg : g < B) (k : Nat) (hk : k ≤ L.length) : Src W B (.slice (some ⟨g, 0, none⟩) k cap) k (L.take k) :=
  ⟨by rw [List.length_take]; omega, .inr ⟨g, 0, cap, rfl, hg, fun j v hv => by rw [Nat.zero_add]; exact hr j v (refF_take L k j v hv)⟩⟩
/-- The lines behind them, as the walk cuts them out. -/
theorem src_drop {W : World} {g B cap c : Nat} {L : List Ln} (hr : Row W g (refF L)) (hg : g < B) (k n : Nat) (hn : n = L.length) (hk : k ≤ n) (hc : n ≤ cap) : Src W B (.slice (if cap = k then some ⟨g, 0, none⟩ else some ⟨g, k * 3, none⟩) (n - k) c) (n - k) (L.drop k) := by
  subst hn
  refine ⟨by rw [List.length_drop], .inr ⟨g, if cap = k then 0 else k * 3, c, by split <;> rfl, hg, fun j v hv => ?_⟩⟩
  have hj : j < (refF (L.drop k)).length := (List.getElem?_eq_some_iff.1 hv).1
  rw [refF_length, List.length_drop] at hj
  rw [if_neg (by omega)]
  exact hr _ _ (refF_drop L k j v hk hv)
theorem src_one {W : World} {g B c : Nat} {l : Ln} (hr : Row W g (refL l)) (hg : g < B) : Src W B (.slice (some ⟨g, 0, none⟩) 1 c) 1 [l] :=
  ⟨rfl, .inr ⟨g, 0, c, rfl, hg, fun j v hv => by rw [Nat.zero_add]; exact hr j v (by simpa [refF] using hv)⟩⟩
theorem own_al {W : World} {base n : Nat} {v : Value} {xs : List Value} (ob : Obj) (h : W.ownsRow base 43 3 v n xs) : (W.alloc ob).ownsRow base 43 3 v n xs := h.alloc ob
theorem own_dr {W : World} {base n : Nat} {v : Value} {xs : List Value} (k : Nat) (h : W.ownsRow base 43 3 v n xs) : (W.drewN k).ownsRow base 43 3 v n xs := h
theorem own_d1 {W : World} {base n : Nat} {v : Value} {xs : List Value} (h : W.ownsRow base 43 3 v n xs) : W.drew.ownsRow base 43 3 v n xs := h
theorem own_new {W : World} {base b : Nat} (hb : b = W.heap.size) (hn : base ≤ W.heap.size) : (W.alloc (.cells #[] 43)).ownsRow base 43 3 (.slice (some ⟨b, 0, none⟩) 0 0) 0 (refF []) := by
  subst hb
  exact World.ownsRow_made W #[] 0 hn (by unfold maxLen; omega) rfl

/-- append, whatever there is to append. -/
theorem run_append_src (W : World) (ty : TypeId) (base n B m : Nat) (v u : Value) (K L : List Ln) (ho : W.ownsRow base 43 3 v n (refF K)) (hs : Src W B u m L) (h1 : n ≤ 1000) (h2 : m ≤ 1000) (hb : base ≤ W.heap.size) :
    ∃ v' W', (Builtin.append_ #[36, 36] ty #[v, u]).run Try.prog W = .ok v' W' ∧ W'.ownsRow base 43 3 v' (n + m) (refF (K ++ L)) ∧ Below base W W' ∧ (∀ b, b < W.heap.size → v.ownBlock ≠ some b → W'.heap[b]? = W.heap[b]?) := by
  obtain ⟨iL, hiL, hiL0, hiL1, hiL2⟩ := info_parts info_ref
  obtain ⟨hm, hs⟩ := hs
  rcases hs with ⟨rfl, rfl⟩ | ⟨g, off, c, rfl, hg, hc⟩
  · subst hm
    exact ⟨v, W, run_append_owned_none (P := Try.prog) (w := W) base 36 ty 43 iL 3 Try.underlying36 hiL v n _ ho, by simpa using ho, Below.refl _ _, fun _ _ _ => rfl⟩
  · obtain ⟨v', W', hr, h3, h4, _⟩ := run_append_own (P := Try.prog) W base 36 ty 43 iL (.agg #[.int .u64 0, .int .u64 0, .int .u64 0]) 3 24 Try.underlying36 hiL hiL0 hiL1 hiL2 rfl (by decide) v n _ ho ⟨g, off, none⟩ m c (refF L) (by rw [refF_length, hm])
      (fun j x hx => by rw [show (⟨g, off, none⟩ : Addr).add j = ⟨g, off + j, none⟩ by unfold Addr.add; split <;> simp_all]; exact hc j x hx) (refF_one L) (by unfold maxLen; omega) (by omega) hb
    refine ⟨v', W', hr, by rw [refF_append]; exact h3, ?_⟩
    exact ⟨⟨h4.os, h4.tape, h4.output, h4.size, fun k hk => h4.block k (by omega) (fun e => by have := (ho.lt k e.symm).1; omega)⟩, fun b hb hne => h4.block b hb (fun e => hne e.symm)⟩
theorem wp_append_src {op : Oper} {a : Act} {w : World} {K' : Act → World → Prop} {Q : Exit → Act → World → Prop} (s x : Operand)
    (ho : op.op = .call { callee := .builtin .append, args := #[s, x], argTypes := #[36, 36] })
    (base n B m : Nat) (v u : Value) (K L : List Ln) (hs : a.eval s = v) (hx : a.eval x = u) (hown : w.ownsRow base 43 3 v n (refF K)) (hsrc : Src w B u m L) (h1 : n ≤ 1000) (h2 : m ≤ 1000) (hb : base ≤ w.heap.size)
    (h : ∀ v' w', w'.ownsRow base 43 3 v' (n + m) (refF (K ++ L)) → Below base w w' → (∀ b, b < w.heap.size → v.ownBlock ≠ some b → w'.heap[b]? = w.heap[b]?) → K' (a.put op.dst v') w') : op.wp Try.prog a w K' Q := by
  obtain ⟨v', w', hr, h3, h4, h5⟩ := run_append_src w op.type base n B m v u K L hown hsrc h1 h2 hb
  unfold Oper.wp execOp
  simp only [ho, resolve, invoke, builtin, Sem.run_bind, Sem.run_pure, Result.andThen_ok, List.map_toArray, List.map_cons, List.map_nil, hs, hx, hr]
  exact h v' w' h3 h4 h5
theorem step_append_src {ops : Array Oper} {op : Oper} {a : Act} {w : World} {K' : Act → World → Prop} {Q : Exit → Act → World → Prop} {E : Prop} (hgd : op.guard = none) (s x : Operand)
    (ho : op.op = .call { callee := .builtin .append, args := #[s, x], argTypes := #[36, 36] })
    (base n B m : Nat) (v u : Value) (K L : List Ln) (hs : a.eval s = v) (hx : a.eval x = u) (hown : w.ownsRow base 43 3 v n (refF K)) (hsrc : Src w B u m L) (h1 : n ≤ 1000) (h2 : m ≤ 1000) (hb : base ≤ w.heap.size)
    (h : ∀ v' w', w'.ownsRow base 43 3 v' (n + m) (refF (K ++ L)) → Below base w w' → (∀ b, b < w.heap.size → v.ownBlock ≠ some b → w'.heap[b]? = w.heap[b]?) → K' (a.put op.dst v') w') :
    if Region.wanted op (yielded ops a.tmps) = true then Oper.wp Try.prog op a w K' Q else E := by
  have hw : Region.wanted op (yielded ops a.tmps) = true := by simp [Region.wanted, hgd]
  rw [if_pos hw]
  exact wp_append_src s x ho base n B m v u K L hs hx hown hsrc h1 h2 hb h

/-! Look -/
def rlookV : Option Ln → Value
  | none => .tuple #[.agg #[.int .u64 0, .int .u64 0, .int .u64 0], .bool false]
  | some l => .tuple #[.agg #[.int .u64 l.1, .int .u64 l.2.1, .int .u64 l.2.2], .bool true]
theorem drop_at (L : List Ln) (k : Nat) (x : Ln) (h : L[k]? = some x) : L.drop k = x :: L.drop (k + 1) := by
  obtain ⟨hk, rfl⟩ := List.getElem?_eq_some_iff.1 h
  exact List.drop_eq_getElem_cons hk

set_option maxRecDepth 100000 in
set_option maxHeartbeats 8000000 in
theorem rlook_some (g cap : Nat) (a n : Int) (L : List Ln) (hl : L.length ≤ 1000) (V : Value) (hV : rlookV (L.find? (pageQ a n)) = V) (w : World) (hr : Row w g (refF L)) :
    Calls Try.prog 10 #[.slice (some ⟨g, 0, none⟩) L.length cap, .int .u64 a, .int .u64 n] w (Makes V w) := by
  have SS := cell_same
  have LB' := ltB_add
  have LS := ltB_self
  have LA' := alloc_reads
  have LH := alloc_holds
  have HR := hide hr
  have HV := hide hV
  clear hr hV
  go_enter Try.func10, Try.ntmps10
  go_wp2
  go_loop [8] (fun i => ∃ k : Nat, k ≤ L.length ∧ i = .int .i64 (k : Int) ∧ Hid (L.find? (pageQ a n) = (L.drop k).find? (pageQ a n))) (fun i => L.length - (intOf i).toNat)
  case atStart => exact ⟨0, by omega, rfl, hide rfl⟩
  case round =>
    obtain ⟨k, hk, rfl, HF⟩ := hrel
    by_cases hlt : k < L.length
    · obtain ⟨⟨xa, xn, xx⟩, hx⟩ : ∃ x, L[k]? = some x := ⟨_, List.getElem?_eq_getElem hlt⟩
      have c0 : w.cell? ⟨g, k * 3, none⟩ = some (.int .u64 xa) := HR.out _ _ (refF_at L k 0 _ hx (by omega))
      have c1 : w.cell? ⟨g, k * 3 + 1, none⟩ = some (.int .u64 xn) := HR.out _ _ (refF_at L k 1 _ hx (by omega))
      have c2 : w.cell? ⟨g, k * 3 + 2, none⟩ = some (.int .u64 xx) := HR.out _ _ (refF_at L k 2 _ hx (by omega))
      have hgl : ltB g w.heap.size = true := decide_eq_true (World.block_lt_of_cell? w _ c0)
      have b1 : (k : Int) < (L.length : Int) := by omega
      have b2 : ¬ ((L.length : Int) ≤ (k : Int)) := by omega
      have b3 : (0 : Int) ≤ (k : Int) := by omega
      have HD := hide (drop_at L k _ hx)
      clear hx
      by_cases e1 : xa = a
      · subst e1
        by_cases e2 : xn = n
        · subst e2
          go_wp2_with fail
          refine bodyPost_ret (v := .tuple #[.agg #[.int .u64 xa, .int .u64 xn, .int .u64 xx], .bool true]) (by simp (maxDischargeDepth := 4) [results, Try.results10, go_sem, *]) rfl ?_
          refine ⟨?_, ?_⟩
          · rw [← HV.out, HF.out, HD.out, List.find?_cons_of_pos (by simp [pageQ])]
            rfl
          repeat (first | with_reducible assumption | with_reducible exact Below.refl _ _ | with_reducible refine Below.drew ?_ | with_reducible refine below_drewN ?_ _ | with_reducible refine bw_alloc ?_ _ | (with_reducible refine bw_set ?_ ?_ _; focus (dsimp only; omega)) | (with_reducible apply bw_behind; with_reducible assumption))
        · have f2 : (xn == n) = false := by simpa using e2
          go_wp2_with fail
          go_round
          case rel =>
            refine ⟨k + 1, by omega, by go_num, ?_⟩
            rw [HF.out, HD.out, List.find?_cons_of_neg (by simp [pageQ, e2])]
            exact hide rfl
          case measure => simp [intOf]; omega
      · have f1 : (xa == a) = false := by simpa using e1
        go_wp2_with fail
        go_round
        case rel =>
          refine ⟨k + 1, by omega, by go_num, ?_⟩
          rw [HF.out, HD.out, List.find?_cons_of_neg (by simp [pageQ, e1])]
          exact hide rfl
        case measure => simp [intOf]; omega
    · obtain rfl : k = L.length := by omega
      have b1 : ¬ ((L.length : Int) < (L.length : Int)) := by omega
      go_wp2_with fail
      refine bodyPost_ret (v := .tuple #[.agg #[.int .u64 0, .int .u64 0, .int .u64 0], .bool false]) (by simp (maxDischargeDepth := 4) [results, Try.results10, go_sem, *]) rfl ?_
      refine ⟨?_, ?_⟩
      · rw [← HV.out, HF.out, List.drop_length]
        rfl
      repeat (first | with_reducible assumption | with_reducible exact Below.refl _ _ | with_reducible refine Below.drew ?_ | with_reducible refine below_drewN ?_ _ | with_reducible refine bw_alloc ?_ _ | (with_reducible refine bw_set ?_ ?_ _; focus (dsimp only; omega)) | (with_reducible apply bw_behind; with_reducible assumption))
set_option maxRecDepth 100000 in
set_option maxHeartbeats 8000000 in
theorem rlook_nil (a n : Int) (w : World) : Calls Try.prog 10 #[.slice none 0 0, .int .u64 a, .int .u64 n] w (Makes (.tuple #[.agg #[.int .u64 0, .int .u64 0, .int .u64 0], .bool false]) w) := by
  have SS := cell_same
  have LB' := ltB_add
  have LS := ltB_self
  have LA' := alloc_reads
  have LH := alloc_holds
  go_enter Try.func10, Try.ntmps10
  go_wp2
  refine wp_loop_rounds 1 ?_
  rw [rounds_succ]
  go_wp2_with fail
  refine bodyPost_ret (v := .tuple #[.agg #[.int .u64 0, .int .u64 0, .int .u64 0], .bool false]) (by simp (maxDischargeDepth := 4) [results, Try.results10, go_sem, *]) rfl ?_
  refine ⟨rfl, ?_⟩
  repeat (first | with_reducible assumption | with_reducible exact Below.refl _ _ | with_reducible refine Below.drew ?_ | with_reducible refine below_drewN ?_ _ | with_reducible refine bw_alloc ?_ _ | (with_reducible refine bw_set ?_ ?_ _; focus (dsimp only; omega)) | (with_reducible apply bw_behind; with_reducible assumption))
theorem rlook_any (v : Value) (a n : Int) (L : List Ln) (hl : L.length ≤ 1000) (w : World) (h : RefT w v L) :
    Calls Try.prog 10 #[v, .int .u64 a, .int .u64 n] w (Makes (rlookV (L.find? (pageQ a n))) w) := by
  rcases h.form with ⟨rfl, rfl⟩ | ⟨g, cap, rfl, _, _, hr⟩
  · exact rlook_nil a n w
  · exact rlook_some g cap a n L hl _ rfl w hr
end Go.Proofs.Ytikdoknfcikfgaa
