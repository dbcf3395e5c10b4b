/-
  Texts laid one behind the other: MtbRef, MtbRef2, MtbRef3, MtbRef4, MmuEnt.
-/
import Derived.Test.YtkajndonefkegaaDoorGMtb
import Derived.Laws.AppendOwn
import Derived.OwnWalk
import Derived.Test.YtkajndonefkegaaDoorMtb7
import Derived.Laws.AppendOwnNone
import Derived.Deep.AppendLies
import Derived.Deep.RegionHeld3
import Derived.Deep.DeepCutAuto
import Derived.Deep.RegionLaw
set_option maxRecDepth 100000
set_option maxHeartbeats 64000000
namespace Go.Proofs.YtkajndonefkegaaDoor
open Go.RowKit

def refL (l : (LnX Int)) : List Value := [.int .u64 l.1, .int .u64 l.2.1, .int .u64 l.2.2]
def refF (L : List (LnX Int)) : List Value := (L.map refL).flatten
theorem refF_length (L : List (LnX Int)) : (refF L).length = L.length * 3 := by
  induction L with
  | nil => rfl
  | cons x L ih =>
    show (refL x ++ refF L).length = _
    rw [List.length_append, ih, List.length_cons]
    show 3 + _ = _
    omega
theorem refF_append (L K : List (LnX Int)) : refF (L ++ K) = refF L ++ refF K := by simp [refF]
theorem refF_at : ∀ (L : List (LnX Int)) (k t : Nat) (l : (LnX Int)), L[k]? = some l -> t < 3 -> (refF L)[k * 3 + t]? = (refL l)[t]?
  | [], k, t, l, h, _ => by simp at h
  | x :: L, 0, t, l, h, ht => by
    simp only [List.getElem?_cons_zero, Option.some.injEq] at h
    subst h
    show (refL x ++ refF L)[0 * 3 + t]? = _
    rw [Nat.zero_mul, Nat.zero_add, List.getElem?_append_left (by show t < 3; omega)]
  | x :: L, k + 1, t, l, h, ht => by
    show (refL x ++ refF L)[(k + 1) * 3 + t]? = _
    rw [List.getElem?_append_right (by show 3 ≤ _; omega), show (k + 1) * 3 + t - (refL x).length = k * 3 + t by show _ - 3 = _; omega]
    exact refF_at L k t l (by simpa using h) ht
def RefT (W : World) (v : Value) (L : List (LnX Int)) : Prop := W.ownsRow 0 96 3 v L.length (refF L)
def RefB (W : World) (b : Nat) (v : Value) (L : List (LnX Int)) : Prop := W.ownsRow b 96 3 v L.length (refF L)
theorem rb_own {W : World} {b base n : Nat} {v : Value} {L : List (LnX Int)} (hb : b ≤ base) (h : W.ownsRow base 96 3 v n (refF L)) (hn : n = L.length) : RefB W b v L := by
  subst hn
  refine ⟨h.1, ?_⟩
  rcases h.2 with h2 | ⟨g, cap, cur, rfl, h3, h4⟩
  · exact .inl h2
  · exact .inr ⟨g, cap, cur, rfl, Nat.le_trans hb h3, h4⟩
theorem rb_less {W : World} {b c : Nat} {v : Value} {L : List (LnX Int)} (hb : b ≤ c) (h : RefB W c v L) : RefB W b v L := rb_own hb h rfl
theorem rb_t {W : World} {b : Nat} {v : Value} {L : List (LnX Int)} (h : RefB W b v L) : RefT W v L := rb_less (Nat.zero_le _) h
theorem rb_nil (W : World) (b : Nat) : RefB W b (.slice none 0 0) [] := World.ownsRow_nil _ _ _ _
theorem owns_be {W W' : World} {base n size : Nat} {e : TypeId} {v : Value} {xs : List Value} (hb : Below W.heap.size W W') (h : W.ownsRow base e size v n xs) : W'.ownsRow base e size v n xs :=
  h.kept (row := none) ⟨hb.os, hb.tape, hb.output, hb.size, fun k hk _ => hb.block k hk⟩ (by cases hv : v.ownBlock <;> simp)
theorem rb_be {W W' : World} {b : Nat} {v : Value} {L : List (LnX Int)} (hb : Below W.heap.size W W') (h : RefB W b v L) : RefB W' b v L := owns_be hb h
theorem rb_al {W : World} {b : Nat} {v : Value} {L : List (LnX Int)} (ob : Obj) (h : RefB W b v L) : RefB (W.alloc ob) b v L := h.alloc ob
theorem rb_dr {W : World} {b : Nat} {v : Value} {L : List (LnX Int)} (n : Nat) (h : RefB W b v L) : RefB (W.drewN n) b v L := h
theorem rb_d1 {W : World} {b : Nat} {v : Value} {L : List (LnX Int)} (h : RefB W b v L) : RefB W.drew b v L := h
theorem rt_be {W W' : World} {v : Value} {L : List (LnX Int)} (hb : Below W.heap.size W W') (h : RefT W v L) : RefT W' v L := owns_be hb h
theorem RefT.form {W : World} {v : Value} {L : List (LnX Int)} (h : RefT W v L) : (v = .slice none 0 0 /\ L = []) ∨ ∃ g cap, v = .slice (some ⟨g, 0, none⟩) L.length cap /\ g < W.heap.size /\ L.length ≤ cap /\ Row W g (refF L) := by
  rcases h.2 with ⟨h1, h2⟩ | ⟨g, cap, cur, h1, _, h3, h4, _⟩
  · exact .inl ⟨h1, List.eq_nil_of_length_eq_zero h2⟩
  · subst h1
    refine .inr ⟨g, cap, rfl, ?_, h4, fun i u hu => ?_⟩
    · rcases Nat.lt_or_ge g W.heap.size with h | h
      · exact h
      · rw [Array.getElem?_eq_none h] at h3
        cases h3
    · have := World.ownsRow.cells (g := g) (h := h) rfl i u hu
      rw [show (⟨g, 0, none⟩ : Addr).add i = ⟨g, i, none⟩ by unfold Addr.add; split <;> simp_all] at this
      exact this
def rdropF (a n : Int) (L : List (LnX Int)) : List (LnX Int) := L.filter (fun l => !((l.1 == a) && (l.2.1 == n)))
def rflushF (a : Int) (L : List (LnX Int)) : List (LnX Int) := L.filter (fun l => !(l.1 == a))
def GivesT (L : List (LnX Int)) (w : World) (e : Ending) (w' : World) : Prop := ∃ v, e = .returned v /\ RefB w' w.heap.size v L /\ Below w.heap.size w w'
theorem info_ref : (Tryd.prog.info? 96).map (fun i => (i.zero, i.size, i.bytes)) = some (some (.agg #[.int .u64 0, .int .u64 0, .int .u64 0]), 3, 24) := by kernel_rfl
theorem own_base {W : World} {base n size : Nat} {e : TypeId} {v : Value} {xs : List Value} (h : W.ownsRow base e size v n xs) (j : Nat) (ej : some j = v.ownBlock) : base ≤ j := (h.lt j ej.symm).1
theorem row_src {W : World} {b : Nat} {c news : List Value} (h : Row W b c) (hc : c = news) : ∀ j u, news[j]? = some u -> W.cell? ((⟨b, 0, none⟩ : Addr).add j) = some u := fun j u hj => by
  rw [show (⟨b, 0, none⟩ : Addr).add j = ⟨b, j, none⟩ by unfold Addr.add; split <;> simp_all]
  subst hc
  exact h j u hj
theorem filter_take (p : (LnX Int) -> Bool) (L : List (LnX Int)) (k : Nat) (l : (LnX Int)) (h : L[k]? = some l) : (L.take (k + 1)).filter p = (L.take k).filter p ++ (if p l = true then [l] else []) := by
  rw [List.take_add_one, h, List.filter_append]
  congr 1
  by_cases e : p l = true
  · rw [if_pos e]
    exact List.filter_cons_of_pos e
  · rw [if_neg e]
    exact List.filter_cons_of_neg e

theorem rdrop_some (g cap : Nat) (a n : Int) (L : List (LnX Int)) (hl : L.length ≤ 1000) (w : World) (hr : Row w g (refF L)) :
    Calls Tryd.prog 16 #[.slice (some ⟨g, 0, none⟩) L.length cap, .int .u64 a, .int .u64 n] w (GivesT (rdropF a n L) w) := by
  obtain ⟨SS, LB', LS, LA', LH⟩ := rules5
  obtain ⟨iL, hiL, hiL0, hiL1, hiL2⟩ := info_parts info_ref
  have HR := hide hr
  clear hr
  go_enter Tryd.func16, Tryd.ntmps16
  go_wp2
  go_loopw [7, 8] (fun s i wr => ∃ (k c : Nat), k ≤ L.length /\ i = .int .i64 (k : Int) /\ c = ((L.take k).filter (fun l => !((l.1 == a) && (l.2.1 == n)))).length /\ Hid (wr.ownsRow w.heap.size 96 3 s c (refF ((L.take k).filter (fun l => !((l.1 == a) && (l.2.1 == n)))))) /\ Below w.heap.size w wr) (fun _ i _ => L.length - (intOf i).toNat)
  case atStart => exact ⟨0, 0, by omega, rfl, rfl, hide (World.ownsRow_nil _ _ _ _), Below.refl _ _⟩
  case round s =>
    obtain ⟨k, c, hk, rfl, hn, HO, hB⟩ := hrel
    have hsz := hB.size
    by_cases hlt : k < L.length
    · obtain ⟨⟨xa, xn, xx⟩, hx⟩ : ∃ x, L[k]? = some x := ⟨_, List.getElem?_eq_getElem hlt⟩
      have c0 : wr.cell? ⟨g, k * 3, none⟩ = some (.int .u64 xa) := c_be hB (HR.out _ _ (refF_at L k 0 _ hx (by omega)))
      have c1 : wr.cell? ⟨g, k * 3 + 1, none⟩ = some (.int .u64 xn) := c_be hB (HR.out _ _ (refF_at L k 1 _ hx (by omega)))
      have c2 : wr.cell? ⟨g, k * 3 + 2, none⟩ = some (.int .u64 xx) := c_be hB (HR.out _ _ (refF_at L k 2 _ hx (by omega)))
      have hstep := filter_take (fun l => !((l.1 == a) && (l.2.1 == n))) L k _ hx
      have hn2 : c ≤ k := by rw [hn]; exact Nat.le_trans (List.length_filter_le _ _) (by rw [List.length_take]; omega)
      have b1 : (k : Int) < (L.length : Int) := by omega
      have b2 : ¬ ((L.length : Int) ≤ (k : Int)) := by omega
      have b3 : (0 : Int) ≤ (k : Int) := by omega
      have HN := hide hn
      have HX := hide hx
      clear hn hx
      by_cases e1 : xa = a
      · subst e1
        by_cases e2 : xn = n
        · subst e2
          have HS := hide (hstep.trans (by rw [if_neg (by simp )]))
          clear hstep
          go_wp2_with fail
          go_roundw
          case rel =>
            refine ⟨k + 1, c, by omega, by go_num, ?_, ?_, hB⟩
            · rw [HS.out, List.append_nil]
              exact HN.out
            · rw [HS.out, List.append_nil]
              exact HO
          case measure => simp [intOf]; omega
        · have f2 : (xn != n) = true := by simpa using e2
          have HS := hide (hstep.trans (by rw [if_pos (by simp [e2])]))
          clear hstep
          go_wp2_with (at_builtin; refine wpList_append_own _ rfl _ _ 45 rfl w.heap.size 96 iL (.agg #[.int .u64 0, .int .u64 0, .int .u64 0]) 3 24 Tryd.underlying45 hiL hiL0 hiL1 hiL2 rfl (by decide) _ _ _ rfl (owns_be (by repeat (with_reducible first | assumption | exact Below.refl _ _ | refine Below.drew ?_ | refine below_drewN ?_ _ | refine bw_alloc ?_ _ | (refine bw_set ?_ ?_ _; focus (dsimp only; omega)) | (apply bw_behind; assumption))) HO.out) _ 1 1 [.int .u64 xa, .int .u64 xn, .int .u64 xx] rfl rfl (row_src (by repeat (first | (with_reducible first | assumption | refine k_dr _ ?_ | refine k_d1 ?_) | exact row_new (by simp) rfl | (with_reducible first | refine k_al _ ?_ | (refine k_set ?_ ?_; focus (dsimp only; omega)) | (apply k_be; assumption)))) rfl) (by simp [Value.oneCell']) (by unfold maxLen; omega) (by omega) (by first | omega | (simp; omega)) ?_; intro v3 w3 hown3 hgrow3 _)
          go_roundw
          case rel =>
            refine ⟨k + 1, c + 1, by omega, by go_num, ?_, ?_, ?_⟩
            · rw [HS.out, List.length_append, ← HN.out]
              rfl
            · rw [HS.out, refF_append]
              exact hide hown3
            · refine Below.grown ?_ hgrow3 (by first | omega | (simp; omega)) (fun j ej => own_base HO.out j ej.symm)
              repeat (with_reducible first | assumption | exact Below.refl _ _ | refine Below.drew ?_ | refine below_drewN ?_ _ | refine bw_alloc ?_ _ | (refine bw_set ?_ ?_ _; focus (dsimp only; omega)) | (apply bw_behind; assumption))
          case measure => simp [intOf]; omega
      · have f1 : (xa != a) = true := by simpa using e1
        have HS := hide (hstep.trans (by rw [if_pos (by simp [e1])]))
        clear hstep
        go_wp2_with (at_builtin; refine wpList_append_own _ rfl _ _ 45 rfl w.heap.size 96 iL (.agg #[.int .u64 0, .int .u64 0, .int .u64 0]) 3 24 Tryd.underlying45 hiL hiL0 hiL1 hiL2 rfl (by decide) _ _ _ rfl (owns_be (by repeat (with_reducible first | assumption | exact Below.refl _ _ | refine Below.drew ?_ | refine below_drewN ?_ _ | refine bw_alloc ?_ _ | (refine bw_set ?_ ?_ _; focus (dsimp only; omega)) | (apply bw_behind; assumption))) HO.out) _ 1 1 [.int .u64 xa, .int .u64 xn, .int .u64 xx] rfl rfl (row_src (by repeat (first | (with_reducible first | assumption | refine k_dr _ ?_ | refine k_d1 ?_) | exact row_new (by simp) rfl | (with_reducible first | refine k_al _ ?_ | (refine k_set ?_ ?_; focus (dsimp only; omega)) | (apply k_be; assumption)))) rfl) (by simp [Value.oneCell']) (by unfold maxLen; omega) (by omega) (by first | omega | (simp; omega)) ?_; intro v3 w3 hown3 hgrow3 _)
        go_roundw
        case rel =>
          refine ⟨k + 1, c + 1, by omega, by go_num, ?_, ?_, ?_⟩
          · rw [HS.out, List.length_append, ← HN.out]
            rfl
          · rw [HS.out, refF_append]
            exact hide hown3
          · refine Below.grown ?_ hgrow3 (by first | omega | (simp; omega)) (fun j ej => own_base HO.out j ej.symm)
            repeat (with_reducible first | assumption | exact Below.refl _ _ | refine Below.drew ?_ | refine below_drewN ?_ _ | refine bw_alloc ?_ _ | (refine bw_set ?_ ?_ _; focus (dsimp only; omega)) | (apply bw_behind; assumption))
        case measure => simp [intOf]; omega
    · obtain rfl : k = L.length := by omega
      have HN := hide hn
      clear hn
      have b1 : ¬ ((L.length : Int) < (L.length : Int)) := by omega
      go_wp2_with fail
      go_ret
      have hO := HO.out
      rw [List.take_length] at hO
      refine ⟨_, rfl, rb_own (Nat.le_refl _) hO ?_, hB⟩
      rw [HN.out, List.take_length]
      rfl
theorem rdrop_nil (a n : Int) (w : World) : Calls Tryd.prog 16 #[.slice none 0 0, .int .u64 a, .int .u64 n] w (GivesT [] w) := by
  obtain ⟨SS, LB', LS, LA', LH⟩ := rules5
  go_enter Tryd.func16, Tryd.ntmps16
  go_wp2
  refine wp_loop_rounds 1 ?_
  rw [rounds_succ]
  go_wp2_with fail
  go_ret
  exact ⟨_, rfl, World.ownsRow_nil _ _ _ _, Below.refl _ _⟩
theorem rdrop_any (v : Value) (a n : Int) (L : List (LnX Int)) (hl : L.length ≤ 1000) (w : World) (h : RefT w v L) :
    Calls Tryd.prog 16 #[v, .int .u64 a, .int .u64 n] w (GivesT (rdropF a n L) w) := by
  rcases h.form with ⟨rfl, rfl⟩ | ⟨g, cap, rfl, _, _, hr⟩
  · exact rdrop_nil a n w
  · exact rdrop_some g cap a n L hl w hr

theorem rflush_some (g cap : Nat) (a : Int) (L : List (LnX Int)) (hl : L.length ≤ 1000) (w : World) (hr : Row w g (refF L)) :
    Calls Tryd.prog 18 #[.slice (some ⟨g, 0, none⟩) L.length cap, .int .u64 a] w (GivesT (rflushF a L) w) := by
  obtain ⟨SS, LB', LS, LA', LH⟩ := rules5
  obtain ⟨iL, hiL, hiL0, hiL1, hiL2⟩ := info_parts info_ref
  have HR := hide hr
  clear hr
  go_enter Tryd.func18, Tryd.ntmps18
  go_wp2
  go_loopw [5, 6] (fun s i wr => ∃ (k c : Nat), k ≤ L.length /\ i = .int .i64 (k : Int) /\ c = ((L.take k).filter (fun l => !(l.1 == a))).length /\ Hid (wr.ownsRow w.heap.size 96 3 s c (refF ((L.take k).filter (fun l => !(l.1 == a))))) /\ Below w.heap.size w wr) (fun _ i _ => L.length - (intOf i).toNat)
  case atStart => exact ⟨0, 0, by omega, rfl, rfl, hide (World.ownsRow_nil _ _ _ _), Below.refl _ _⟩
  case round s =>
    obtain ⟨k, c, hk, rfl, hn, HO, hB⟩ := hrel
    have hsz := hB.size
    by_cases hlt : k < L.length
    · obtain ⟨⟨xa, xn, xx⟩, hx⟩ : ∃ x, L[k]? = some x := ⟨_, List.getElem?_eq_getElem hlt⟩
      have c0 : wr.cell? ⟨g, k * 3, none⟩ = some (.int .u64 xa) := c_be hB (HR.out _ _ (refF_at L k 0 _ hx (by omega)))
      have c1 : wr.cell? ⟨g, k * 3 + 1, none⟩ = some (.int .u64 xn) := c_be hB (HR.out _ _ (refF_at L k 1 _ hx (by omega)))
      have c2 : wr.cell? ⟨g, k * 3 + 2, none⟩ = some (.int .u64 xx) := c_be hB (HR.out _ _ (refF_at L k 2 _ hx (by omega)))
      have hstep := filter_take (fun l => !(l.1 == a)) L k _ hx
      have hn2 : c ≤ k := by rw [hn]; exact Nat.le_trans (List.length_filter_le _ _) (by rw [List.length_take]; omega)
      have b1 : (k : Int) < (L.length : Int) := by omega
      have b2 : ¬ ((L.length : Int) ≤ (k : Int)) := by omega
      have b3 : (0 : Int) ≤ (k : Int) := by omega
      have HN := hide hn
      have HX := hide hx
      clear hn hx
      by_cases e1 : xa = a
      · subst e1
        have HS := hide (hstep.trans (by rw [if_neg (by simp )]))
        clear hstep
        go_wp2_with fail
        go_roundw
        case rel =>
          refine ⟨k + 1, c, by omega, by go_num, ?_, ?_, hB⟩
          · rw [HS.out, List.append_nil]
            exact HN.out
          · rw [HS.out, List.append_nil]
            exact HO
        case measure => simp [intOf]; omega
      · have f1 : (xa != a) = true := by simpa using e1
        have HS := hide (hstep.trans (by rw [if_pos (by simp [e1])]))
        clear hstep
        go_wp2_with (at_builtin; refine wpList_append_own _ rfl _ _ 45 rfl w.heap.size 96 iL (.agg #[.int .u64 0, .int .u64 0, .int .u64 0]) 3 24 Tryd.underlying45 hiL hiL0 hiL1 hiL2 rfl (by decide) _ _ _ rfl (owns_be (by repeat (with_reducible first | assumption | exact Below.refl _ _ | refine Below.drew ?_ | refine below_drewN ?_ _ | refine bw_alloc ?_ _ | (refine bw_set ?_ ?_ _; focus (dsimp only; omega)) | (apply bw_behind; assumption))) HO.out) _ 1 1 [.int .u64 xa, .int .u64 xn, .int .u64 xx] rfl rfl (row_src (by repeat (first | (with_reducible first | assumption | refine k_dr _ ?_ | refine k_d1 ?_) | exact row_new (by simp) rfl | (with_reducible first | refine k_al _ ?_ | (refine k_set ?_ ?_; focus (dsimp only; omega)) | (apply k_be; assumption)))) rfl) (by simp [Value.oneCell']) (by unfold maxLen; omega) (by omega) (by first | omega | (simp; omega)) ?_; intro v3 w3 hown3 hgrow3 _)
        go_roundw
        case rel =>
          refine ⟨k + 1, c + 1, by omega, by go_num, ?_, ?_, ?_⟩
          · rw [HS.out, List.length_append, ← HN.out]
            rfl
          · rw [HS.out, refF_append]
            exact hide hown3
          · refine Below.grown ?_ hgrow3 (by first | omega | (simp; omega)) (fun j ej => own_base HO.out j ej.symm)
            repeat (with_reducible first | assumption | exact Below.refl _ _ | refine Below.drew ?_ | refine below_drewN ?_ _ | refine bw_alloc ?_ _ | (refine bw_set ?_ ?_ _; focus (dsimp only; omega)) | (apply bw_behind; assumption))
        case measure => simp [intOf]; omega
    · obtain rfl : k = L.length := by omega
      have HN := hide hn
      clear hn
      have b1 : ¬ ((L.length : Int) < (L.length : Int)) := by omega
      go_wp2_with fail
      go_ret
      have hO := HO.out
      rw [List.take_length] at hO
      refine ⟨_, rfl, rb_own (Nat.le_refl _) hO ?_, hB⟩
      rw [HN.out, List.take_length]
      rfl
theorem rflush_nil (a : Int) (w : World) : Calls Tryd.prog 18 #[.slice none 0 0, .int .u64 a] w (GivesT [] w) := by
  obtain ⟨SS, LB', LS, LA', LH⟩ := rules5
  go_enter Tryd.func18, Tryd.ntmps18
  go_wp2
  refine wp_loop_rounds 1 ?_
  rw [rounds_succ]
  go_wp2_with fail
  go_ret
  exact ⟨_, rfl, World.ownsRow_nil _ _ _ _, Below.refl _ _⟩
theorem rflush_any (v : Value) (a : Int) (L : List (LnX Int)) (hl : L.length ≤ 1000) (w : World) (h : RefT w v L) :
    Calls Tryd.prog 18 #[v, .int .u64 a] w (GivesT (rflushF a L) w) := by
  rcases h.form with ⟨rfl, rfl⟩ | ⟨g, cap, rfl, _, _, hr⟩
  · exact rflush_nil a w
  · exact rflush_some g cap a L hl w hr
end Go.Proofs.YtkajndonefkegaaDoor

namespace Go.Proofs.YtkajndonefkegaaDoor
open Go.RowKit

def Src (W : World) (B : Nat) (u : Value) (m : Nat) (L : List (LnX Int)) : Prop :=
  m = L.length /\ ((u = .slice none 0 0 /\ L = []) ∨ ∃ g o c, u = .slice (some ⟨g, o, none⟩) m c /\ g < B /\ ∀ j v, (refF L)[j]? = some v -> W.cell? ⟨g, o + j, none⟩ = some v)
theorem src_bn {W W' : World} {B m : Nat} {u : Value} {L : List (LnX Int)} (hb : Below B W W') (h : Src W B u m L) : Src W' B u m L := by
  refine ⟨h.1, ?_⟩
  rcases h.2 with h | ⟨g, o, c, h1, h2, h3⟩
  · exact .inl h
  · exact .inr ⟨g, o, c, h1, h2, fun j v hv => (hb.cell (p := ⟨g, o + j, none⟩) h2).trans (h3 j v hv)⟩
theorem refL_one (l : (LnX Int)) : ∀ v ∈ refL l, v.oneCell' = true := by
  intro v hv
  simp only [refL, List.mem_cons, List.not_mem_nil, or_false] at hv
  rcases hv with rfl | rfl | rfl <;> rfl
theorem refF_one (L : List (LnX Int)) : ∀ v ∈ refF L, v.oneCell' = true := by
  intro v hv
  obtain ⟨c, hc, hv⟩ := List.mem_flatten.1 hv
  obtain ⟨l, _, rfl⟩ := List.mem_map.1 hc
  exact refL_one l v hv
theorem refF_take (L : List (LnX Int)) (k j : Nat) (v : Value) (h : (refF (L.take k))[j]? = some v) : (refF L)[j]? = some v := by
  have e : refF L = refF (L.take k) ++ refF (L.drop k) := by rw [← refF_append, List.take_append_drop]
  rw [e, List.getElem?_append_left (List.getElem?_eq_some_iff.1 h).1]
  exact h
theorem refF_drop (L : List (LnX Int)) (k j : Nat) (v : Value) (hk : k ≤ L.length) (h : (refF (L.drop k))[j]? = some v) : (refF L)[k * 3 + j]? = some v := by
  have e : refF L = refF (L.take k) ++ refF (L.drop k) := by rw [← refF_append, List.take_append_drop]
  have hl : (refF (L.take k)).length = k * 3 := by rw [refF_length, List.length_take]; congr 1; omega
  rw [e, List.getElem?_append_right (by omega), hl, show k * 3 + j - k * 3 = j by omega]
  exact h
theorem src_take {W : World} {g B cap : Nat} {L : List (LnX Int)} (hr : Row W g (refF L)) (hg : g < B) (k : Nat) (hk : k ≤ L.length) : Src W B (.slice (some ⟨g, 0, none⟩) k cap) k (L.take k) :=
  ⟨by rw [List.length_take]; omega, .inr ⟨g, 0, cap, rfl, hg, fun j v hv => by rw [Nat.zero_add]; exact hr j v (refF_take L k j v hv)⟩⟩
theorem src_drop {W : World} {g B cap c : Nat} {L : List (LnX Int)} (hr : Row W g (refF L)) (hg : g < B) (k n : Nat) (hn : n = L.length) (hk : k ≤ n) (hc : n ≤ cap) : Src W B (.slice (if cap = k then some ⟨g, 0, none⟩ else some ⟨g, k * 3, none⟩) (n - k) c) (n - k) (L.drop k) := by
  subst hn
  refine ⟨by rw [List.length_drop], .inr ⟨g, if cap = k then 0 else k * 3, c, by split <;> rfl, hg, fun j v hv => ?_⟩⟩
  have hj : j < (refF (L.drop k)).length := (List.getElem?_eq_some_iff.1 hv).1
  rw [refF_length, List.length_drop] at hj
  rw [if_neg (by omega)]
  exact hr _ _ (refF_drop L k j v hk hv)
theorem src_one {W : World} {g B c : Nat} {l : (LnX Int)} (hr : Row W g (refL l)) (hg : g < B) : Src W B (.slice (some ⟨g, 0, none⟩) 1 c) 1 [l] :=
  ⟨rfl, .inr ⟨g, 0, c, rfl, hg, fun j v hv => by rw [Nat.zero_add]; exact hr j v (by simpa [refF] using hv)⟩⟩
theorem own_al {W : World} {base n : Nat} {v : Value} {xs : List Value} (ob : Obj) (h : W.ownsRow base 96 3 v n xs) : (W.alloc ob).ownsRow base 96 3 v n xs := h.alloc ob
theorem own_dr {W : World} {base n : Nat} {v : Value} {xs : List Value} (k : Nat) (h : W.ownsRow base 96 3 v n xs) : (W.drewN k).ownsRow base 96 3 v n xs := h
theorem own_d1 {W : World} {base n : Nat} {v : Value} {xs : List Value} (h : W.ownsRow base 96 3 v n xs) : W.drew.ownsRow base 96 3 v n xs := h
theorem own_new {W : World} {base b : Nat} (hb : b = W.heap.size) (hn : base ≤ W.heap.size) : (W.alloc (.cells #[] 96)).ownsRow base 96 3 (.slice (some ⟨b, 0, none⟩) 0 0) 0 (refF []) := by
  subst hb
  exact World.ownsRow_made W #[] 0 hn (by unfold maxLen; omega) rfl

theorem run_append_src (W : World) (ty : TypeId) (base n B m : Nat) (v u : Value) (K L : List (LnX Int)) (ho : W.ownsRow base 96 3 v n (refF K)) (hs : Src W B u m L) (h1 : n ≤ 1000) (h2 : m ≤ 1000) (hb : base ≤ W.heap.size) :
    ∃ v' W', (Builtin.append_ #[45, 45] ty #[v, u]).run Tryd.prog W = .ok v' W' /\ W'.ownsRow base 96 3 v' (n + m) (refF (K ++ L)) /\ Below base W W' /\ (∀ b, b < W.heap.size -> v.ownBlock ≠ some b -> W'.heap[b]? = W.heap[b]?) := by
  obtain ⟨iL, hiL, hiL0, hiL1, hiL2⟩ := info_parts info_ref
  obtain ⟨hm, hs⟩ := hs
  rcases hs with ⟨rfl, rfl⟩ | ⟨g, off, c, rfl, hg, hc⟩
  · subst hm
    exact ⟨v, W, run_append_owned_none (P := Tryd.prog) (w := W) base 45 ty 96 iL 3 Tryd.underlying45 hiL v n _ ho, by simpa using ho, Below.refl _ _, fun _ _ _ => rfl⟩
  · obtain ⟨v', W', hr, h3, h4, _⟩ := run_append_own (P := Tryd.prog) W base 45 ty 96 iL (.agg #[.int .u64 0, .int .u64 0, .int .u64 0]) 3 24 Tryd.underlying45 hiL hiL0 hiL1 hiL2 rfl (by decide) v n _ ho ⟨g, off, none⟩ m c (refF L) (by rw [refF_length, hm])
      (fun j x hx => by rw [show (⟨g, off, none⟩ : Addr).add j = ⟨g, off + j, none⟩ by unfold Addr.add; split <;> simp_all]; exact hc j x hx) (refF_one L) (by unfold maxLen; omega) (by omega) hb
    refine ⟨v', W', hr, by rw [refF_append]; exact h3, ?_⟩
    exact ⟨⟨h4.os, h4.tape, h4.output, h4.size, fun k hk => h4.block k (by omega) (fun e => by have := (ho.lt k e.symm).1; omega)⟩, fun b hb hne => h4.block b hb (fun e => hne e.symm)⟩
theorem wp_append_src {op : Oper} {a : Act} {w : World} {K' : Act -> World -> Prop} {Q : Exit -> Act -> World -> Prop} (s x : Operand)
    (ho : op.op = .call { callee := .builtin .append, args := #[s, x], argTypes := #[45, 45] })
    (base n B m : Nat) (v u : Value) (K L : List (LnX Int)) (hs : a.eval s = v) (hx : a.eval x = u) (hown : w.ownsRow base 96 3 v n (refF K)) (hsrc : Src w B u m L) (h1 : n ≤ 1000) (h2 : m ≤ 1000) (hb : base ≤ w.heap.size)
    (h : ∀ v' w', w'.ownsRow base 96 3 v' (n + m) (refF (K ++ L)) -> Below base w w' -> (∀ b, b < w.heap.size -> v.ownBlock ≠ some b -> w'.heap[b]? = w.heap[b]?) -> K' (a.put op.dst v') w') : op.wp Tryd.prog a w K' Q := by
  obtain ⟨v', w', hr, h3, h4, h5⟩ := run_append_src w op.type base n B m v u K L hown hsrc h1 h2 hb
  unfold Oper.wp execOp
  simp only [ho, resolve, invoke, builtin, Sem.run_bind, Sem.run_pure, Result.andThen_ok, List.map_toArray, List.map_cons, List.map_nil, hs, hx, hr]
  exact h v' w' h3 h4 h5
theorem step_append_src {ops : Array Oper} {op : Oper} {a : Act} {w : World} {K' : Act -> World -> Prop} {Q : Exit -> Act -> World -> Prop} {E : Prop} (hgd : op.guard = none) (s x : Operand)
    (ho : op.op = .call { callee := .builtin .append, args := #[s, x], argTypes := #[45, 45] })
    (base n B m : Nat) (v u : Value) (K L : List (LnX Int)) (hs : a.eval s = v) (hx : a.eval x = u) (hown : w.ownsRow base 96 3 v n (refF K)) (hsrc : Src w B u m L) (h1 : n ≤ 1000) (h2 : m ≤ 1000) (hb : base ≤ w.heap.size)
    (h : ∀ v' w', w'.ownsRow base 96 3 v' (n + m) (refF (K ++ L)) -> Below base w w' -> (∀ b, b < w.heap.size -> v.ownBlock ≠ some b -> w'.heap[b]? = w.heap[b]?) -> K' (a.put op.dst v') w') :
    if Region.wanted op (yielded ops a.tmps) = true then Oper.wp Tryd.prog op a w K' Q else E := by
  have hw : Region.wanted op (yielded ops a.tmps) = true := by simp [Region.wanted, hgd]
  rw [if_pos hw]
  exact wp_append_src s x ho base n B m v u K L hs hx hown hsrc h1 h2 hb h

/-! Look -/
def rlookV : Option (LnX Int) -> Value
  | none => .tuple #[.agg #[.int .u64 0, .int .u64 0, .int .u64 0], .bool false]
  | some l => .tuple #[.agg #[.int .u64 l.1, .int .u64 l.2.1, .int .u64 l.2.2], .bool true]
theorem drop_at (L : List (LnX Int)) (k : Nat) (x : (LnX Int)) (h : L[k]? = some x) : L.drop k = x :: L.drop (k + 1) := by
  obtain ⟨hk, rfl⟩ := List.getElem?_eq_some_iff.1 h
  exact List.drop_eq_getElem_cons hk

theorem rlook_some (g cap : Nat) (a n : Int) (L : List (LnX Int)) (hl : L.length ≤ 1000) (V : Value) (hV : rlookV (L.find? (pageQ a n)) = V) (w : World) (hr : Row w g (refF L)) :
    Calls Tryd.prog 35 #[.slice (some ⟨g, 0, none⟩) L.length cap, .int .u64 a, .int .u64 n] w (Makes V w) := by
  obtain ⟨SS, LB', LS, LA', LH⟩ := rules5
  have HR := hide hr
  have HV := hide hV
  clear hr hV
  go_enter Tryd.func35, Tryd.ntmps35
  go_wp2
  go_loop [8] (fun i => ∃ k : Nat, k ≤ L.length /\ i = .int .i64 (k : Int) /\ Hid (L.find? (pageQ a n) = (L.drop k).find? (pageQ a n))) (fun i => L.length - (intOf i).toNat)
  case atStart => exact ⟨0, by omega, rfl, hide rfl⟩
  case round =>
    obtain ⟨k, hk, rfl, HF⟩ := hrel
    by_cases hlt : k < L.length
    · obtain ⟨⟨xa, xn, xx⟩, hx⟩ : ∃ x, L[k]? = some x := ⟨_, List.getElem?_eq_getElem hlt⟩
      have c0 : w.cell? ⟨g, k * 3, none⟩ = some (.int .u64 xa) := HR.out _ _ (refF_at L k 0 _ hx (by omega))
      have c1 : w.cell? ⟨g, k * 3 + 1, none⟩ = some (.int .u64 xn) := HR.out _ _ (refF_at L k 1 _ hx (by omega))
      have c2 : w.cell? ⟨g, k * 3 + 2, none⟩ = some (.int .u64 xx) := HR.out _ _ (refF_at L k 2 _ hx (by omega))
      have hgl : ltB g w.heap.size = true := decide_eq_true (World.block_lt_of_cell? w _ c0)
      have b1 : (k : Int) < (L.length : Int) := by omega
      have b2 : ¬ ((L.length : Int) ≤ (k : Int)) := by omega
      have b3 : (0 : Int) ≤ (k : Int) := by omega
      have HD := hide (drop_at L k _ hx)
      clear hx
      by_cases e1 : xa = a
      · subst e1
        by_cases e2 : xn = n
        · subst e2
          go_wp2_with fail
          refine bodyPost_ret (v := .tuple #[.agg #[.int .u64 xa, .int .u64 xn, .int .u64 xx], .bool true]) (by simp (maxDischargeDepth := 4) [results, Tryd.results35, go_sem, *]) rfl ?_
          refine ⟨?_, ?_⟩
          · rw [← HV.out, HF.out, HD.out, List.find?_cons_of_pos (by simp [pageQ])]
            rfl
          repeat (with_reducible first | assumption | exact Below.refl _ _ | refine Below.drew ?_ | refine below_drewN ?_ _ | refine bw_alloc ?_ _ | (refine bw_set ?_ ?_ _; focus (dsimp only; omega)) | (apply bw_behind; assumption))
        · have f2 : (xn == n) = false := by simpa using e2
          go_wp2_with fail
          go_round
          case rel =>
            refine ⟨k + 1, by omega, by go_num, ?_⟩
            rw [HF.out, HD.out, List.find?_cons_of_neg (by simp [pageQ, e2])]
            exact hide rfl
          case measure => simp [intOf]; omega
      · have f1 : (xa == a) = false := by simpa using e1
        go_wp2_with fail
        go_round
        case rel =>
          refine ⟨k + 1, by omega, by go_num, ?_⟩
          rw [HF.out, HD.out, List.find?_cons_of_neg (by simp [pageQ, e1])]
          exact hide rfl
        case measure => simp [intOf]; omega
    · obtain rfl : k = L.length := by omega
      have b1 : ¬ ((L.length : Int) < (L.length : Int)) := by omega
      go_wp2_with fail
      refine bodyPost_ret (v := .tuple #[.agg #[.int .u64 0, .int .u64 0, .int .u64 0], .bool false]) (by simp (maxDischargeDepth := 4) [results, Tryd.results35, go_sem, *]) rfl ?_
      refine ⟨?_, ?_⟩
      · rw [← HV.out, HF.out, List.drop_length]
        rfl
      repeat (with_reducible first | assumption | exact Below.refl _ _ | refine Below.drew ?_ | refine below_drewN ?_ _ | refine bw_alloc ?_ _ | (refine bw_set ?_ ?_ _; focus (dsimp only; omega)) | (apply bw_behind; assumption))
theorem rlook_nil (a n : Int) (w : World) : Calls Tryd.prog 35 #[.slice none 0 0, .int .u64 a, .int .u64 n] w (Makes (.tuple #[.agg #[.int .u64 0, .int .u64 0, .int .u64 0], .bool false]) w) := by
  obtain ⟨SS, LB', LS, LA', LH⟩ := rules5
  go_enter Tryd.func35, Tryd.ntmps35
  go_wp2
  refine wp_loop_rounds 1 ?_
  rw [rounds_succ]
  go_wp2_with fail
  refine bodyPost_ret (v := .tuple #[.agg #[.int .u64 0, .int .u64 0, .int .u64 0], .bool false]) (by simp (maxDischargeDepth := 4) [results, Tryd.results35, go_sem, *]) rfl ?_
  refine ⟨rfl, ?_⟩
  repeat (with_reducible first | assumption | exact Below.refl _ _ | refine Below.drew ?_ | refine below_drewN ?_ _ | refine bw_alloc ?_ _ | (refine bw_set ?_ ?_ _; focus (dsimp only; omega)) | (apply bw_behind; assumption))
theorem rlook_any (v : Value) (a n : Int) (L : List (LnX Int)) (hl : L.length ≤ 1000) (w : World) (h : RefT w v L) :
    Calls Tryd.prog 35 #[v, .int .u64 a, .int .u64 n] w (Makes (rlookV (L.find? (pageQ a n))) w) := by
  rcases h.form with ⟨rfl, rfl⟩ | ⟨g, cap, rfl, _, _, hr⟩
  · exact rlook_nil a n w
  · exact rlook_some g cap a n L hl _ rfl w hr
end Go.Proofs.YtkajndonefkegaaDoor

namespace Go.Proofs.YtkajndonefkegaaDoor
open Go.RowKit

def delF (k : Nat) (L : List (LnX Int)) : List (LnX Int) := L.take k ++ L.drop (k + 1)
theorem revict_let (g cap n k : Nat) (p P1 P2 : Int) (L : List (LnX Int)) (hn : L.length = n) (hl : n ≤ 1000) (hc : n ≤ cap) (hk : k < n) (_n0 : ((n : Int) == 0) = false) (_p1 : p.tmod (n : Int) = P1) (_p2 : IntKind.i64.wrap P1 = P1) (_p4 : IntKind.i64.wrap (P1 + (n : Int)) = P2) (_p6 : P2.tmod (n : Int) = (k : Int)) (_p7 : IntKind.i64.wrap (k : Int) = (k : Int)) (w : World) (hg : g < w.heap.size) (hr : Row w g (refF L)) :
    Calls Tryd.prog 21 #[.slice (some ⟨g, 0, none⟩) n cap, .int .i64 p] w (GivesT (delF k L) w) := by
  obtain ⟨SS, LB', LS, LA', LH⟩ := rules5
  have s1 : Src w w.heap.size (.slice (some ⟨g, 0, none⟩) k cap) k (L.take k) := src_take hr hg k (by omega)
  have s2 : Src w w.heap.size (.slice (if cap = k + 1 then some ⟨g, 0, none⟩ else some ⟨g, (k + 1) * 3, none⟩) (n - (k + 1)) (cap - (k + 1))) (n - (k + 1)) (L.drop (k + 1)) := src_drop hr hg (k + 1) n hn.symm (by omega) hc
  have S1 := hide s1
  have S2 := hide s2
  have HN := hide hn
  clear s1 s2 hr hn
  have c1 : (0 : Int) ≤ (k : Int) := by omega
  have c2 : (k : Int) ≤ (cap : Int) := by omega
  have c3 : (k : Int) ≤ (n : Int) := by omega
  have c4 : IntKind.i64.wrap ((k : Int) + 1) = (k : Int) + 1 := by rw [IntKind.wrap_i64]; omega
  have c5 : (0 : Int) ≤ (k : Int) + 1 := by omega
  have c6 : (k : Int) + 1 ≤ (n : Int) := by omega
  go_enter Tryd.func21, Tryd.ntmps21
  go_wp2_with fail
  go_region_law (first | ((refine step_append_src rfl (.tmp 20) (.tmp 23) rfl (w.heap.size) (0) (w.heap.size) (k) (.slice (some ⟨w.heap.size, 0, none⟩) 0 0) (.slice (some ⟨g, 0, none⟩) k cap) ([]) (L.take k) (by rfl) (by rfl) ?_ ?_ ?_ ?_ ?_ ?_); (focus ((repeat (first | (with_reducible first | assumption | refine own_dr _ ?_ | refine own_d1 ?_) | (with_reducible refine own_new ?_ ?_; (focus (first | rfl | (simp; done))); (focus (first | omega | (simp; done) | (simp; omega)))) | with_reducible refine own_al _ ?_)); done)); (focus (refine src_bn ?_ (S1.out); repeat (with_reducible first | assumption | exact Below.refl _ _ | refine Below.drew ?_ | refine below_drewN ?_ _ | refine bw_alloc ?_ _ | (refine bw_set ?_ ?_ _; focus (dsimp only; omega)) | (apply bw_behind; assumption) | (refine below_behindN (by assumption) ?_ ?_; focus omega)))); (focus omega); (focus omega); (focus (first | omega | (simp; done) | (simp; omega))); intro v1 w1 hown1 hb1 _; have hz1 := hb1.size; (try simp only [s_d1] at hz1); (try simp only [size_al] at hz1)) | ((refine step_append_src rfl (.tmp 24) (.tmp 28) rfl (w.heap.size) (0 + k) (w.heap.size) (n - (k + 1)) (v1) (.slice (if cap = k + 1 then some ⟨g, 0, none⟩ else some ⟨g, (k + 1) * 3, none⟩) (n - (k + 1)) (cap - (k + 1))) ([] ++ L.take k) (L.drop (k + 1)) (by rfl) (by rfl) ?_ ?_ ?_ ?_ ?_ ?_); (focus ((repeat (first | (with_reducible first | assumption | refine own_dr _ ?_ | refine own_d1 ?_) | (with_reducible refine own_new ?_ ?_; (focus (first | rfl | (simp; done))); (focus (first | omega | (simp; done) | (simp; omega)))) | with_reducible refine own_al _ ?_)); done)); (focus (refine src_bn ?_ (S2.out); repeat (with_reducible first | assumption | exact Below.refl _ _ | refine Below.drew ?_ | refine below_drewN ?_ _ | refine bw_alloc ?_ _ | (refine bw_set ?_ ?_ _; focus (dsimp only; omega)) | (apply bw_behind; assumption) | (refine below_behindN (by assumption) ?_ ?_; focus omega)))); (focus omega); (focus omega); (focus (first | omega | (simp; done) | (simp; omega))); intro v2 w2 hown2 hb2 _; have hz2 := hb2.size; (try simp only [s_d1] at hz2); (try simp only [size_al] at hz2)))
  have hO := hide hown2
  have hH : (L.take k).length + (L.drop (k + 1)).length = 0 + k + (n - (k + 1)) := by rw [List.length_take, List.length_drop, HN.out]; omega
  clear hown2 hown1
  go_wp2_with fail
  all_goals
    go_ret
    refine ⟨_, rfl, rb_own (Nat.le_refl _) hO.out ?_, ?_⟩
    · show _ = (L.take k ++ L.drop (k + 1)).length
      rw [List.length_append]
      omega
    repeat (with_reducible first | assumption | exact Below.refl _ _ | refine Below.drew ?_ | refine below_drewN ?_ _ | refine bw_alloc ?_ _ | (refine bw_set ?_ ?_ _; focus (dsimp only; omega)) | (apply bw_behind; assumption) | (refine below_behindN (by assumption) ?_ ?_; focus omega))
theorem revict_any (v : Value) (p : Int) (k : Nat) (L : List (LnX Int)) (hl : L.length ≤ 1000) (h0 : 0 < L.length) (hk : p % (L.length : Int) = (k : Int)) (w : World) (h : RefT w v L) :
    Calls Tryd.prog 21 #[v, .int .i64 p] w (GivesT (delF k L) w) := by
  rcases h.form with ⟨rfl, rfl⟩ | ⟨g, cap, rfl, hg, hc, hr⟩
  · simp at h0
  · obtain ⟨n, hn⟩ : ∃ n, L.length = n := ⟨_, rfl⟩
    rw [hn] at hl h0 hk hc ⊢
    have e1 : 0 ≤ p % (n : Int) := Int.emod_nonneg _ (by omega)
    have e2 : p % (n : Int) < (n : Int) := Int.emod_lt_of_pos _ (by omega)
    have t1 : (p.tmod (n : Int)).natAbs < n := by
      rw [Int.natAbs_tmod]
      exact Nat.mod_lt _ (by omega)
    have t2 : p.tmod (n : Int) = p - n * p.tdiv n := Int.tmod_def _ _
    obtain ⟨P1, hP1⟩ : ∃ P1, p.tmod (n : Int) = P1 := ⟨_, rfl⟩
    rw [hP1] at t1
    have t3 : -(n : Int) < P1 /\ P1 < (n : Int) := by omega
    have t4 : (P1 + (n : Int)).tmod (n : Int) = (k : Int) := by
      rw [Int.tmod_eq_emod_of_nonneg (by omega), Int.add_emod_right, ← hP1, t2, Int.sub_mul_emod_self_left, hk]
    have t5 : ∀ X : Int, -10000 < X -> X < 10000 -> IntKind.i64.wrap X = X := fun X h1 h2 => by rw [IntKind.wrap_i64]; omega
    exact revict_let g cap n k p P1 (P1 + (n : Int)) L hn hl hc (by omega) (by simp; omega) hP1 (t5 _ (by omega) (by omega)) (t5 _ (by omega) (by omega)) t4 (t5 _ (by omega) (by omega)) w hg hr
theorem revict_none (v : Value) (p : Int) (w : World) (h : RefT w v []) : Calls Tryd.prog 21 #[v, .int .i64 p] w (Makes v w) := by
  rcases h.form with ⟨rfl, _⟩ | ⟨g, cap, rfl, hg, hc, hr⟩
  · go_enter Tryd.func21, Tryd.ntmps21
    go_wp2_with fail
    go_ret
    exact ⟨rfl, Below.refl _ _⟩
  · clear hr h
    go_enter Tryd.func21, Tryd.ntmps21
    go_wp2_with fail
    go_ret
    exact ⟨rfl, Below.refl _ _⟩
end Go.Proofs.YtkajndonefkegaaDoor

namespace Go.Proofs.YtkajndonefkegaaDoor
open Go.RowKit

theorem k_gr {b c : Nat} {W W' : World} {l : List Value} (hq : ∀ k, k < W.heap.size -> (some c : Option Nat) ≠ some k -> W'.heap[k]? = W.heap[k]?) (hne : c ≠ b) (h : Row W b l) : Row W' b l := fun i v hv => by
  have hc := h i v hv
  exact (World.cell?_of_block (w := W) (hq b (World.block_lt_of_cell? W _ hc) (fun e => hne (Option.some.inj e)))).trans hc
theorem kb_bn {n b : Nat} {W W' : World} {l : List Value} (hb : Below n W W') (hlt : b < n) (h : Row W b l) : Row W' b l := fun i v hv => c_bn hb hlt (h i v hv)
theorem step_append_ex {ops : Array Oper} {op : Oper} {a : Act} {w : World} {K' : Act -> World -> Prop} {Q : Exit -> Act -> World -> Prop} {E : Prop} (hgd : op.guard = none) (s x : Operand)
    (ho : op.op = .call { callee := .builtin .append, args := #[s, x], argTypes := #[45, 45] })
    (base n m : Nat) (v u : Value) (K L : List (LnX Int)) (hs : a.eval s = v) (hx : a.eval x = u) (hown : w.ownsRow base 96 3 v n (refF K)) (hsrc : ∃ B, Src w B u m L) (h1 : n ≤ 1000) (h2 : m ≤ 1000) (hb : base ≤ w.heap.size)
    (h : ∀ v' w', w'.ownsRow base 96 3 v' (n + m) (refF (K ++ L)) -> Below base w w' -> (∀ b, b < w.heap.size -> v.ownBlock ≠ some b -> w'.heap[b]? = w.heap[b]?) -> K' (a.put op.dst v') w') :
    if Region.wanted op (yielded ops a.tmps) = true then Oper.wp Tryd.prog op a w K' Q else E := by
  obtain ⟨B, hB⟩ := hsrc
  exact step_append_src hgd s x ho base n B m v u K L hs hx hown hB h1 h2 hb h
theorem own_form {W : World} {base n : Nat} {v : Value} {L : List (LnX Int)} (h : W.ownsRow base 96 3 v n (refF L)) (h0 : 0 < n) : ∃ g cap, v = Value.slice (some ⟨g, 0, none⟩) n cap /\ base ≤ g /\ g < W.heap.size /\ n ≤ cap /\ Row W g (refF L) := by
  obtain ⟨g, cap, hv, hb, hlt⟩ := h.form h0
  subst hv
  refine ⟨g, cap, rfl, hb, hlt, ?_, fun i u hu => ?_⟩
  · rcases h.2 with ⟨h1, _⟩ | ⟨g', cap', cur, h1, _, _, h4, _⟩
    · cases h1
    · injection h1 with _ _ h5
      omega
  · have := World.ownsRow.cells (g := g) (h := h) rfl i u hu
    rw [show (⟨g, 0, none⟩ : Addr).add i = ⟨g, i, none⟩ by unfold Addr.add; split <;> simp_all] at this
    exact this
def stepF (q : Int) (s : Nat × Int × Nat × Nat) (x : (LnX Int)) : Nat × Int × Nat × Nat :=
  (if x.2.1 % 4 = q then s.1 + 1 else s.1, if x.2.1 % 4 = q /\ s.2.1 < 0 then (s.2.2.2 : Int) else s.2.1, if x.2.1 % 4 ≤ q then s.2.2.2 + 1 else s.2.2.1, s.2.2.2 + 1)
def foldF (q : Int) (L : List (LnX Int)) : Nat × Int × Nat × Nat := L.foldl (stepF q) (0, -1, 0, 0)
theorem foldF_snoc (q : Int) (L : List (LnX Int)) (x : (LnX Int)) : foldF q (L ++ [x]) = stepF q (foldF q L) x := by
  unfold foldF
  rw [List.foldl_append]
  rfl
structure FoldOk (n : Nat) (f : Int) (t i : Nat) : Prop where
  hn : n ≤ i
  hf : f < (i : Int)
  hm : -1 ≤ f
  hnf : 0 < n -> 0 ≤ f
  ht : t ≤ i
def insF (t : Nat) (l : (LnX Int)) (D : List (LnX Int)) : List (LnX Int) := D.take t ++ [l] ++ D.drop t
def putF (q : Int) (l : (LnX Int)) (L : List (LnX Int)) : List (LnX Int) :=
  if (foldF q (rdropF l.1 l.2.1 L)).1 = 2 then delF (foldF q (rdropF l.1 l.2.1 L)).2.1.toNat (insF (foldF q (rdropF l.1 l.2.1 L)).2.2.1 l (rdropF l.1 l.2.1 L))
  else insF (foldF q (rdropF l.1 l.2.1 L)).2.2.1 l (rdropF l.1 l.2.1 L)
theorem insF_length (t : Nat) (l : (LnX Int)) (D : List (LnX Int)) (ht : t ≤ D.length) : (insF t l D).length = D.length + 1 := by
  unfold insF
  simp only [List.length_append, List.length_take, List.length_drop, List.length_singleton]
  omega

theorem rput_let (v : Value) (la ln lx Q : Int) (P D : List (LnX Int)) (hD : ∀ l ∈ D, 0 ≤ l.2.1) (h0 : 0 ≤ ln) (hQ : ln % 4 = Q) (hl : D.length ≤ 900) (O : List (LnX Int))
    (hO : O = if (foldF Q D).1 = 2 then delF (foldF Q D).2.1.toNat (insF (foldF Q D).2.2.1 (la, ln, lx) D) else insF (foldF Q D).2.2.1 (la, ln, lx) D)
    (w : World) (hr : RefT w v P) (CD : ∀ W, RefT W v P -> Calls Tryd.prog 16 #[v, .int .u64 la, .int .u64 ln] W (GivesT D W)) :
    Calls Tryd.prog 40 #[v, .agg #[.int .u64 la, .int .u64 ln, .int .u64 lx]] w (GivesT O w) := by
  obtain ⟨SS, LB', LS, LA', LH⟩ := rules5
  have C1 := hide CD
  have HP := hide hr
  have HD := hide hD
  have HO := hide hO
  have q0 : 0 ≤ Q /\ Q < 4 := by omega
  have q1 : ln.tmod 4 = Q := by rw [Int.tmod_eq_emod_of_nonneg h0]; exact hQ
  have q2 : IntKind.u64.wrap Q = Q := by rw [IntKind.wrap_u64]; omega
  clear CD hr hD hO hQ
  go_enter Tryd.func40, Tryd.ntmps40
  go_wp2_with (first | (go_at_call 16; (with_reducible refine (C1.out _ ?_).mono ?_); (focus (refine rt_be ?_ HP.out; repeat (with_reducible first | assumption | exact Below.refl _ _ | refine Below.drew ?_ | refine below_drewN ?_ _ | refine bw_alloc ?_ _ | (refine bw_set ?_ ?_ _; focus (dsimp only; omega)) | (apply bw_behind; assumption) | (refine below_behindN (by assumption) ?_ ?_; focus omega)))); rintro e w1 ⟨u, rfl, hT, hb1⟩; have hz1 := hb1.size; (try simp only [size_al] at hz1)))
  rcases (rb_t hT).form with ⟨rfl, rfl⟩ | ⟨g, cap, rfl, hg, hc, hrow⟩
  · have k0 : w1.cell? ⟨w.heap.size, 0, none⟩ = some (.int .u64 la) := c_be hb1 (by simp [go_sem])
    have k1 : w1.cell? ⟨w.heap.size, 1, none⟩ = some (.int .u64 ln) := c_be hb1 (by simp [go_sem])
    have k2 : w1.cell? ⟨w.heap.size, 2, none⟩ = some (.int .u64 lx) := c_be hb1 (by simp [go_sem])
    have hwr : w.heap.size < w1.heap.size := by omega
    refine wp_loop_rounds 1 ?_
    rw [rounds_succ]
    clear hT
    go_wp2_with fail
    go_region_held3 (fun W' => W'.cell? ⟨w.heap.size, 0, none⟩ = some (.int .u64 la) /\ W'.cell? ⟨w.heap.size, 1, none⟩ = some (.int .u64 ln) /\ W'.cell? ⟨w.heap.size, 2, none⟩ = some (.int .u64 lx))
      (refine ⟨c_bn (n := w1.heap.size) ?_ hwr k0, c_bn (n := w1.heap.size) ?_ hwr k1, c_bn (n := w1.heap.size) ?_ hwr k2⟩ <;> (repeat (with_reducible first | assumption | exact Below.refl _ _ | refine Below.drew ?_ | refine below_drewN ?_ _ | refine bw_alloc ?_ _ | (refine bw_set ?_ ?_ _; focus (dsimp only; omega)) | (apply bw_behind; assumption) | (refine below_behindN (by assumption) ?_ ?_; focus omega))))
      (first | ((refine step_append_ex rfl (.tmp 49) (.tmp 52) rfl (w1.heap.size) (0) (0) _ _ ([]) ([]) rfl rfl ?_ ?_ ?_ ?_ ?_ ?_); (focus ((change World.ownsRow _ _ _ _ (.slice (some ⟨_, 0, none⟩) 0 0) _ _; repeat (first | (with_reducible first | assumption | refine own_dr _ ?_ | refine own_d1 ?_) | (with_reducible refine own_new ?_ ?_; (focus (first | rfl | (simp; done))); (focus (first | omega | (simp; done) | (simp; omega)))) | with_reducible refine own_al _ ?_)); done)); (focus ((exact ⟨0, rfl, .inl ⟨rfl, rfl⟩⟩); done)); (focus omega); (focus omega); (focus (first | omega | (simp; done) | (simp; omega))); intro v6 w6 hown6 hb6 hq6; change ∀ b, _ -> (some _ : Option Nat) ≠ some b -> _ at hq6; have hz6 := hb6.size; (try simp only [s_d1] at hz6); (try simp only [size_al] at hz6)) | ((refine step_append_ex rfl (.tmp 53) (.tmp 55) rfl (w1.heap.size) (0 + 0) (1) _ _ ([] ++ []) ([(la, ln, lx)]) rfl rfl ?_ ?_ ?_ ?_ ?_ ?_); (focus ((change World.ownsRow _ _ _ _ (v6) _ _; repeat (first | (with_reducible first | assumption | refine own_dr _ ?_ | refine own_d1 ?_) | (with_reducible refine own_new ?_ ?_; (focus (first | rfl | (simp; done))); (focus (first | omega | (simp; done) | (simp; omega)))) | with_reducible refine own_al _ ?_)); done)); (focus ((refine ⟨_, src_one ?_ (Nat.lt_succ_self _)⟩; repeat (first | (with_reducible first | assumption | refine k_dr _ ?_ | refine k_d1 ?_) | exact row_new (by first | rfl | (simp; done)) rfl | (with_reducible first | refine k_al _ ?_ | (refine k_set ?_ ?_; focus (dsimp only; omega)) | (apply k_be; assumption)) | (with_reducible refine k_gr (by with_reducible assumption) ?_ ?_; focus (first | omega | (simp; done) | (simp; omega))) | (with_reducible refine kb_bn (by with_reducible assumption) ?_ ?_; focus omega))); done)); (focus omega); (focus omega); (focus (first | omega | (simp; done) | (simp; omega))); intro v7 w7 hown7 hb7 hq7; have hz7 := hb7.size; (try simp only [s_d1] at hz7); (try simp only [size_al] at hz7)) | ((refine step_append_ex rfl (.tmp 56) (.tmp 59) rfl (w1.heap.size) (0 + 0 + 1) (0) _ _ ([] ++ [] ++ [(la, ln, lx)]) ([]) rfl rfl ?_ ?_ ?_ ?_ ?_ ?_); (focus ((change World.ownsRow _ _ _ _ (v7) _ _; repeat (first | (with_reducible first | assumption | refine own_dr _ ?_ | refine own_d1 ?_) | (with_reducible refine own_new ?_ ?_; (focus (first | rfl | (simp; done))); (focus (first | omega | (simp; done) | (simp; omega)))) | with_reducible refine own_al _ ?_)); done)); (focus ((exact ⟨0, rfl, .inl ⟨rfl, rfl⟩⟩); done)); (focus omega); (focus omega); (focus (first | omega | (simp; done) | (simp; omega))); intro v8 w8 hown8 hb8 hq8; have hz8 := hb8.size; (try simp only [s_d1] at hz8); (try simp only [size_al] at hz8)))
    all_goals
      have hO3 := hide hown8
      clear hown6 hown7 hown8
      go_wp2_with fail
      go_ret
      refine ⟨_, rfl, rb_own (base := w1.heap.size) (n := 1) (by omega) ?_ ?_, ?_⟩
      · rw [HO.out]
        exact hO3.out
      · rw [HO.out]
        rfl
      repeat (with_reducible first | assumption | exact Below.refl _ _ | refine Below.drew ?_ | refine below_drewN ?_ _ | refine bw_alloc ?_ _ | (refine bw_set ?_ ?_ _; focus (dsimp only; omega)) | (apply bw_behind; assumption) | (refine below_behindN (by assumption) ?_ ?_; focus omega))
  · obtain ⟨m, hm⟩ : ∃ m, D.length = m := ⟨_, rfl⟩
    rw [hm] at hl hc
    have hb0 : w.heap.size < w1.heap.size := by omega
    have HL := hide hm
    have HR := hide hrow
    have k0 : w1.cell? ⟨w.heap.size, 0, none⟩ = some (.int .u64 la) := c_be hb1 (by simp [go_sem])
    have k1 : w1.cell? ⟨w.heap.size, 1, none⟩ = some (.int .u64 ln) := c_be hb1 (by simp [go_sem])
    have k2 : w1.cell? ⟨w.heap.size, 2, none⟩ = some (.int .u64 lx) := c_be hb1 (by simp [go_sem])
    have HT := hide hT
    rw [hm]
    clear hT hm hrow
    go_loopw [5, 6, 7, 8] (fun n f t i wr => ∃ (k cn ct : Nat) (F : Int), k ≤ m /\ n = .int .i64 (cn : Int) /\ f = .int .i64 F /\ t = .int .i64 (ct : Int) /\ i = .int .i64 (k : Int) /\ FoldOk cn F ct k /\ Hid (foldF Q (D.take k) = (cn, F, ct, k)) /\ Below w1.heap.size w1 wr) (fun _ _ _ i _ => m - (intOf i).toNat)
    case atStart => exact ⟨0, 0, 0, -1, by omega, rfl, rfl, rfl, rfl, ⟨by decide, by decide, by decide, by decide, by decide⟩, hide rfl, Below.refl _ _⟩
    case round =>
      obtain ⟨k, cn, ct, F, hk, rfl, rfl, rfl, rfl, ⟨o1, o2, o3, o4, o5⟩, HF, hB⟩ := hrel
      by_cases hlt : k < m
      · obtain ⟨⟨xa, xn, xx⟩, hx⟩ : ∃ x, D[k]? = some x := ⟨_, List.getElem?_eq_getElem (by rw [HL.out]; exact hlt)⟩
        have c1 : wr.cell? ⟨g, k * 3 + 1, none⟩ = some (.int .u64 xn) := c_be hB (HR.out _ _ (refF_at D k 1 _ hx (by omega)))
        have b0 : wr.cell? ⟨w.heap.size, 1, none⟩ = some (.int .u64 ln) := c_be hB k1
        have x0 : 0 ≤ xn := HD.out _ (List.mem_of_getElem? hx)
        obtain ⟨R, hR⟩ : ∃ R, xn % 4 = R := ⟨_, rfl⟩
        have r0 : 0 ≤ R /\ R < 4 := by omega
        have r1 : xn.tmod 4 = R := by rw [Int.tmod_eq_emod_of_nonneg x0]; exact hR
        have r2 : IntKind.u64.wrap R = R := by rw [IntKind.wrap_u64]; omega
        have b1 : (k : Int) < (m : Int) := by omega
        have b2 : ¬ ((m : Int) ≤ (k : Int)) := by omega
        have b3 : (0 : Int) ≤ (k : Int) := by omega
        have e : D.take (k + 1) = D.take k ++ [(xa, xn, xx)] := by rw [List.take_add_one, hx]; rfl
        have HS : Hid (foldF Q (D.take (k + 1)) = stepF Q (cn, F, ct, k) (xa, xn, xx)) := by rw [e, foldF_snoc, HF.out]; exact hide rfl
        have HR2 := hide hR
        clear hx hR e
        by_cases e1 : R = Q
        · subst e1
          have f1 : (R == R) = true := by simp
          by_cases e2 : F < 0
          · have f2 : R ≤ R := Int.le_refl _
            go_wp2_with fail
            go_quiet (fail)
            go_wp2_with fail
            go_quiet (fail)
            go_wp2_with fail
            go_roundw
            case rel =>
              refine ⟨k + 1, (cn + 1), (k + 1), (k : Int), by omega, by first | rfl | go_num, by first | rfl | go_num, by first | rfl | go_num, by go_num, ⟨by omega, by omega, by omega, by omega, by omega⟩, ?_, ?_⟩
              · rw [HS.out]
                have hr := HR2.out
                exact hide (by unfold stepF; dsimp only; rw [hr, if_pos rfl, if_pos ⟨rfl, e2⟩, if_pos (Int.le_refl _)])
              · repeat (with_reducible first | assumption | exact Below.refl _ _ | refine Below.drew ?_ | refine below_drewN ?_ _ | refine bw_alloc ?_ _ | (refine bw_set ?_ ?_ _; focus (dsimp only; omega)) | (apply bw_behind; assumption) | (refine below_behindN (by assumption) ?_ ?_; focus omega))
            case measure => simp [intOf]; omega
          · have f2 : R ≤ R := Int.le_refl _
            go_wp2_with fail
            go_quiet (fail)
            go_wp2_with fail
            go_quiet (fail)
            go_wp2_with fail
            go_roundw
            case rel =>
              refine ⟨k + 1, (cn + 1), (k + 1), F, by omega, by first | rfl | go_num, by first | rfl | go_num, by first | rfl | go_num, by go_num, ⟨by omega, by omega, by omega, by omega, by omega⟩, ?_, ?_⟩
              · rw [HS.out]
                have hr := HR2.out
                exact hide (by unfold stepF; dsimp only; rw [hr, if_pos rfl, if_neg (by omega), if_pos (Int.le_refl _)])
              · repeat (with_reducible first | assumption | exact Below.refl _ _ | refine Below.drew ?_ | refine below_drewN ?_ _ | refine bw_alloc ?_ _ | (refine bw_set ?_ ?_ _; focus (dsimp only; omega)) | (apply bw_behind; assumption) | (refine below_behindN (by assumption) ?_ ?_; focus omega))
            case measure => simp [intOf]; omega
        · have f1 : (R == Q) = false := by simpa using e1
          by_cases e2 : R ≤ Q
          · go_wp2_with fail
            go_quiet (fail)
            go_wp2_with fail
            go_quiet (fail)
            go_wp2_with fail
            go_roundw
            case rel =>
              refine ⟨k + 1, cn, (k + 1), F, by omega, by first | rfl | go_num, by first | rfl | go_num, by first | rfl | go_num, by go_num, ⟨by omega, by omega, by omega, by omega, by omega⟩, ?_, ?_⟩
              · rw [HS.out]
                have hr := HR2.out
                exact hide (by unfold stepF; dsimp only; rw [hr, if_neg e1, if_neg (fun h => e1 h.1), if_pos e2])
              · repeat (with_reducible first | assumption | exact Below.refl _ _ | refine Below.drew ?_ | refine below_drewN ?_ _ | refine bw_alloc ?_ _ | (refine bw_set ?_ ?_ _; focus (dsimp only; omega)) | (apply bw_behind; assumption) | (refine below_behindN (by assumption) ?_ ?_; focus omega))
            case measure => simp [intOf]; omega
          · go_wp2_with fail
            go_quiet (fail)
            go_wp2_with fail
            go_quiet (fail)
            go_wp2_with fail
            go_roundw
            case rel =>
              refine ⟨k + 1, cn, ct, F, by omega, by first | rfl | go_num, by first | rfl | go_num, by first | rfl | go_num, by go_num, ⟨by omega, by omega, by omega, by omega, by omega⟩, ?_, ?_⟩
              · rw [HS.out]
                have hr := HR2.out
                exact hide (by unfold stepF; dsimp only; rw [hr, if_neg e1, if_neg (fun h => e1 h.1), if_neg (by omega)])
              · repeat (with_reducible first | assumption | exact Below.refl _ _ | refine Below.drew ?_ | refine below_drewN ?_ _ | refine bw_alloc ?_ _ | (refine bw_set ?_ ?_ _; focus (dsimp only; omega)) | (apply bw_behind; assumption) | (refine below_behindN (by assumption) ?_ ?_; focus omega))
            case measure => simp [intOf]; omega

      · obtain rfl : k = m := by omega
        have hF := HF.out
        rw [show D.take k = D by rw [← HL.out, List.take_length]] at hF
        have HFF := hide hF
        have hr := HR.out
        have s1 : Src wr wr.heap.size (.slice (some ⟨g, 0, none⟩) ct cap) ct (D.take ct) := src_take (k_be hB hr) (by have := hB.size; omega) ct (by rw [HL.out]; omega)
        have s2 : Src wr wr.heap.size (.slice (if cap = ct then some ⟨g, 0, none⟩ else some ⟨g, ct * 3, none⟩) (k - ct) (cap - ct)) (k - ct) (D.drop ct) := src_drop (k_be hB hr) (by have := hB.size; omega) ct k HL.out.symm (by omega) hc
        have S1 := hide s1
        obtain ⟨A2, hA2⟩ : ∃ A2 : Option Addr, (if cap = ct then some ⟨g, 0, none⟩ else some ⟨g, ct * 3, none⟩) = A2 := ⟨_, rfl⟩
        rw [hA2] at s2
        have S2 := hide s2
        have b0 : wr.cell? ⟨w.heap.size, 0, none⟩ = some (.int .u64 la) := c_be hB k0
        have b1 : wr.cell? ⟨w.heap.size, 1, none⟩ = some (.int .u64 ln) := c_be hB k1
        have b2 : wr.cell? ⟨w.heap.size, 2, none⟩ = some (.int .u64 lx) := c_be hB k2
        have hwr : w.heap.size < wr.heap.size := by have := hB.size; omega
        have c1 : (0 : Int) ≤ (ct : Int) := by omega
        have c2 : (ct : Int) ≤ (cap : Int) := by omega
        have c3 : (ct : Int) ≤ (k : Int) := by omega
        have e1 : ¬ ((k : Int) < (k : Int)) := by omega
        clear hF s1 s2 hr HF
        go_upto_region 14 with fail
        go_cut [9] (fun s wx => wx.ownsRow wr.heap.size 96 3 s (0 + ct + 1 + (k - ct)) (refF ([] ++ D.take ct ++ [(la, ln, lx)] ++ D.drop ct)) /\ Below wr.heap.size wr wx)
        case first =>
          go_region_held3 (fun W' => W'.cell? ⟨w.heap.size, 0, none⟩ = some (.int .u64 la) /\ W'.cell? ⟨w.heap.size, 1, none⟩ = some (.int .u64 ln) /\ W'.cell? ⟨w.heap.size, 2, none⟩ = some (.int .u64 lx))
            (refine ⟨c_bn (n := wr.heap.size) ?_ hwr b0, c_bn (n := wr.heap.size) ?_ hwr b1, c_bn (n := wr.heap.size) ?_ hwr b2⟩ <;> (repeat (with_reducible first | assumption | exact Below.refl _ _ | refine Below.drew ?_ | refine below_drewN ?_ _ | refine bw_alloc ?_ _ | (refine bw_set ?_ ?_ _; focus (dsimp only; omega)) | (apply bw_behind; assumption) | (refine below_behindN (by assumption) ?_ ?_; focus omega))))
            (first | ((refine step_append_ex rfl (.tmp 49) (.tmp 52) rfl (wr.heap.size) (0) (ct) _ _ ([]) (D.take ct) rfl rfl ?_ ?_ ?_ ?_ ?_ ?_); (focus ((change World.ownsRow _ _ _ _ (.slice (some ⟨_, 0, none⟩) 0 0) _ _; repeat (first | (with_reducible first | assumption | refine own_dr _ ?_ | refine own_d1 ?_) | (with_reducible refine own_new ?_ ?_; (focus (first | rfl | (simp; done))); (focus (first | omega | (simp; done) | (simp; omega)))) | with_reducible refine own_al _ ?_)); done)); (focus ((refine ⟨_, src_bn ?_ S1.out⟩; repeat (with_reducible first | assumption | exact Below.refl _ _ | refine Below.drew ?_ | refine below_drewN ?_ _ | refine bw_alloc ?_ _ | (refine bw_set ?_ ?_ _; focus (dsimp only; omega)) | (apply bw_behind; assumption) | (refine below_behindN (by assumption) ?_ ?_; focus omega))); done)); (focus omega); (focus omega); (focus (first | omega | (simp; done) | (simp; omega))); intro v1 w1 hown1 hb1 hq1; change ∀ b, _ -> (some _ : Option Nat) ≠ some b -> _ at hq1; have hz1 := hb1.size; (try simp only [s_d1] at hz1); (try simp only [size_al] at hz1)) | ((refine step_append_ex rfl (.tmp 53) (.tmp 55) rfl (wr.heap.size) (0 + ct) (1) _ _ ([] ++ D.take ct) ([(la, ln, lx)]) rfl rfl ?_ ?_ ?_ ?_ ?_ ?_); (focus ((change World.ownsRow _ _ _ _ (v1) _ _; repeat (first | (with_reducible first | assumption | refine own_dr _ ?_ | refine own_d1 ?_) | (with_reducible refine own_new ?_ ?_; (focus (first | rfl | (simp; done))); (focus (first | omega | (simp; done) | (simp; omega)))) | with_reducible refine own_al _ ?_)); done)); (focus ((refine ⟨_, src_one ?_ (Nat.lt_succ_self _)⟩; repeat (first | (with_reducible first | assumption | refine k_dr _ ?_ | refine k_d1 ?_) | exact row_new (by first | rfl | (simp; done)) rfl | (with_reducible first | refine k_al _ ?_ | (refine k_set ?_ ?_; focus (dsimp only; omega)) | (apply k_be; assumption)) | (with_reducible refine k_gr (by with_reducible assumption) ?_ ?_; focus (first | omega | (simp; done) | (simp; omega))) | (with_reducible refine kb_bn (by with_reducible assumption) ?_ ?_; focus omega))); done)); (focus omega); (focus omega); (focus (first | omega | (simp; done) | (simp; omega))); intro v2 w2 hown2 hb2 hq2; have hz2 := hb2.size; (try simp only [s_d1] at hz2); (try simp only [size_al] at hz2)) | ((refine step_append_ex rfl (.tmp 56) (.tmp 59) rfl (wr.heap.size) (0 + ct + 1) (k - ct) _ _ ([] ++ D.take ct ++ [(la, ln, lx)]) (D.drop ct) rfl rfl ?_ ?_ ?_ ?_ ?_ ?_); (focus ((change World.ownsRow _ _ _ _ (v2) _ _; repeat (first | (with_reducible first | assumption | refine own_dr _ ?_ | refine own_d1 ?_) | (with_reducible refine own_new ?_ ?_; (focus (first | rfl | (simp; done))); (focus (first | omega | (simp; done) | (simp; omega)))) | with_reducible refine own_al _ ?_)); done)); (focus ((refine ⟨_, src_bn ?_ S2.out⟩; repeat (with_reducible first | assumption | exact Below.refl _ _ | refine Below.drew ?_ | refine below_drewN ?_ _ | refine bw_alloc ?_ _ | (refine bw_set ?_ ?_ _; focus (dsimp only; omega)) | (apply bw_behind; assumption) | (refine below_behindN (by assumption) ?_ ?_; focus omega))); done)); (focus omega); (focus omega); (focus (first | omega | (simp; done) | (simp; omega))); intro v3 w3 hown3 hb3 hq3; have hz3 := hb3.size; (try simp only [s_d1] at hz3); (try simp only [size_al] at hz3)))
          all_goals
            go_wp2_with fail
            go_meet
            refine ⟨hown3, ?_⟩
            repeat (with_reducible first | assumption | exact Below.refl _ _ | refine Below.drew ?_ | refine below_drewN ?_ _ | refine bw_alloc ?_ _ | (refine bw_set ?_ ?_ _; focus (dsimp only; omega)) | (apply bw_behind; assumption) | (refine below_behindN (by assumption) ?_ ?_; focus omega))
        case rest =>
          obtain ⟨hO3, hB3⟩ := hcut
          have hlO : (insF ct (la, ln, lx) D).length = k + 1 := by rw [insF_length ct (la, ln, lx) D (by rw [HL.out]; omega), HL.out]
          have e9 : 0 + ct + 1 + (k - ct) = k + 1 := by omega
          rw [e9] at hO3
          have hB4 : Below w.heap.size w wc := by
            repeat (with_reducible first | assumption | exact Below.refl _ _ | refine Below.drew ?_ | refine below_drewN ?_ _ | refine bw_alloc ?_ _ | (refine bw_set ?_ ?_ _; focus (dsimp only; omega)) | (apply bw_behind; assumption) | (refine below_behindN (by assumption) ?_ ?_; focus omega))
          have HLO := hide hlO
          have hzc := hB3.size
          clear hlO e9
          obtain ⟨n3, hn3⟩ : ∃ n3, k + 1 = n3 := ⟨_, rfl⟩
          rw [hn3] at hO3 HLO
          by_cases hn2 : cn = 2
          · subst hn2
            have hf0 := o4 (by omega)
            obtain ⟨f, rfl⟩ : ∃ f : Nat, F = (f : Int) := ⟨F.toNat, by omega⟩
            obtain ⟨g3, cap3, rfl, hg3a, hg3b, hc3, hr3⟩ : ∃ g3 cap3, _ = Value.slice (some ⟨g3, 0, none⟩) n3 cap3 /\ wr.heap.size ≤ g3 /\ g3 < wc.heap.size /\ n3 ≤ cap3 /\ Row wc g3 (refF (insF ct (la, ln, lx) D)) := own_form hO3 (by omega)
            have s3 : Src wc wc.heap.size (.slice (some ⟨g3, 0, none⟩) f cap3) f ((insF ct (la, ln, lx) D).take f) := src_take hr3 hg3b f (by rw [HLO.out]; omega)
            have s4 : Src wc wc.heap.size (.slice (if cap3 = f + 1 then some ⟨g3, 0, none⟩ else some ⟨g3, (f + 1) * 3, none⟩) (n3 - (f + 1)) (cap3 - (f + 1))) (n3 - (f + 1)) ((insF ct (la, ln, lx) D).drop (f + 1)) := src_drop hr3 hg3b (f + 1) n3 HLO.out.symm (by omega) hc3
            have S3 := hide s3
            obtain ⟨A4, hA4⟩ : ∃ A4 : Option Addr, (if cap3 = f + 1 then some ⟨g3, 0, none⟩ else some ⟨g3, (f + 1) * 3, none⟩) = A4 := ⟨_, rfl⟩
            rw [hA4] at s4
            have S4 := hide s4
            have d1 : (0 : Int) ≤ (f : Int) := by omega
            have d2 : (f : Int) ≤ (cap3 : Int) := by omega
            have d3 : (f : Int) ≤ (n3 : Int) := by omega
            have d4 : IntKind.i64.wrap ((f : Int) + 1) = (f : Int) + 1 := by rw [IntKind.wrap_i64]; omega
            have d5 : (0 : Int) ≤ (f : Int) + 1 := by omega
            have d6 : (f : Int) + 1 ≤ (n3 : Int) := by omega
            clear s3 s4 hr3 hO3 b0 b1 b2 k0 k1 k2
            go_wp2_with fail
            go_region_law (first | ((refine step_append_ex rfl (.tmp 63) (.tmp 66) rfl (wc.heap.size) (0) (f) _ _ ([]) ((insF ct (la, ln, lx) D).take f) rfl rfl ?_ ?_ ?_ ?_ ?_ ?_); (focus ((change World.ownsRow _ _ _ _ (.slice (some ⟨_, 0, none⟩) 0 0) _ _; repeat (first | (with_reducible first | assumption | refine own_dr _ ?_ | refine own_d1 ?_) | (with_reducible refine own_new ?_ ?_; (focus (first | rfl | (simp; done))); (focus (first | omega | (simp; done) | (simp; omega)))) | with_reducible refine own_al _ ?_)); done)); (focus ((refine ⟨_, src_bn ?_ S3.out⟩; repeat (with_reducible first | assumption | exact Below.refl _ _ | refine Below.drew ?_ | refine below_drewN ?_ _ | refine bw_alloc ?_ _ | (refine bw_set ?_ ?_ _; focus (dsimp only; omega)) | (apply bw_behind; assumption) | (refine below_behindN (by assumption) ?_ ?_; focus omega))); done)); (focus omega); (focus omega); (focus (first | omega | (simp; done) | (simp; omega))); intro v4 w4 hown4 hb4 hq4; have hz4 := hb4.size; (try simp only [s_d1] at hz4); (try simp only [size_al] at hz4)) | ((refine step_append_ex rfl (.tmp 67) (.tmp 71) rfl (wc.heap.size) (0 + f) (n3 - (f + 1)) _ _ ([] ++ (insF ct (la, ln, lx) D).take f) ((insF ct (la, ln, lx) D).drop (f + 1)) rfl rfl ?_ ?_ ?_ ?_ ?_ ?_); (focus ((change World.ownsRow _ _ _ _ (v4) _ _; repeat (first | (with_reducible first | assumption | refine own_dr _ ?_ | refine own_d1 ?_) | (with_reducible refine own_new ?_ ?_; (focus (first | rfl | (simp; done))); (focus (first | omega | (simp; done) | (simp; omega)))) | with_reducible refine own_al _ ?_)); done)); (focus ((refine ⟨_, src_bn ?_ S4.out⟩; repeat (with_reducible first | assumption | exact Below.refl _ _ | refine Below.drew ?_ | refine below_drewN ?_ _ | refine bw_alloc ?_ _ | (refine bw_set ?_ ?_ _; focus (dsimp only; omega)) | (apply bw_behind; assumption) | (refine below_behindN (by assumption) ?_ ?_; focus omega))); done)); (focus omega); (focus omega); (focus (first | omega | (simp; done) | (simp; omega))); intro v5 w5 hown5 hb5 hq5; have hz5 := hb5.size; (try simp only [s_d1] at hz5); (try simp only [size_al] at hz5)))
            have hO := hide hown5
            clear hown4 hown5
            go_wp2_with fail
            all_goals
              go_ret
              refine ⟨_, rfl, rb_own (base := wc.heap.size) (n := 0 + f + (n3 - (f + 1))) (by omega) ?_ ?_, ?_⟩
              · have hh := hO.out
                rw [HO.out, HFF.out]
                exact hh
              · rw [HO.out, HFF.out]
                show _ = ((insF ct (la, ln, lx) D).take f ++ (insF ct (la, ln, lx) D).drop (f + 1)).length
                rw [List.length_append, List.length_take, List.length_drop, show (insF ct (la, ln, lx) D).length = n3 from HLO.out]
                omega
              repeat (with_reducible first | assumption | exact Below.refl _ _ | refine Below.drew ?_ | refine below_drewN ?_ _ | refine bw_alloc ?_ _ | (refine bw_set ?_ ?_ _; focus (dsimp only; omega)) | (apply bw_behind; assumption) | (refine below_behindN (by assumption) ?_ ?_; focus omega))
          · have f1 : ((cn : Int) == 2) = false := by simp; omega
            have HN := hide hn2
            have HO3 := hide hO3
            clear hO3 b0 b1 b2 k0 k1 k2
            go_wp2_with fail
            go_ret
            refine ⟨_, rfl, rb_own (base := wr.heap.size) (n := n3) (by omega) ?_ ?_, hB4⟩
            · rw [HO.out, HFF.out, if_neg HN.out]
              exact HO3.out
            · rw [HO.out, HFF.out, if_neg HN.out]
              exact HLO.out.symm
end Go.Proofs.YtkajndonefkegaaDoor

namespace Go.Proofs.YtkajndonefkegaaDoor
open Go.RowKit

def entV (l : Fd) : List Value := [.bool l.e0, .bool l.e1, .bool l.e2, .bool l.e3, .bool l.e4, .bool l.e5, .bool l.e6, .bool l.e7, .bool l.e8, .bool l.e9, .bool l.e10, .bool l.e11, .int .u64 l.f]
def entF (L : List Fd) : List Value := (L.map entV).flatten
theorem ez_refF_length (L : List Fd) : (entF L).length = L.length * 13 := by
  induction L with
  | nil => rfl
  | cons x L ih =>
    show (entV x ++ entF L).length = _
    rw [List.length_append, ih, List.length_cons]
    show 13 + _ = _
    omega
theorem ez_refF_append (L K : List Fd) : entF (L ++ K) = entF L ++ entF K := by simp [entF]
theorem ez_refF_at : ∀ (L : List Fd) (k t : Nat) (l : Fd), L[k]? = some l -> t < 13 -> (entF L)[k * 13 + t]? = (entV l)[t]?
  | [], k, t, l, h, _ => by simp at h
  | x :: L, 0, t, l, h, ht => by
    simp only [List.getElem?_cons_zero, Option.some.injEq] at h
    subst h
    show (entV x ++ entF L)[0 * 13 + t]? = _
    rw [Nat.zero_mul, Nat.zero_add, List.getElem?_append_left (by show t < 13; omega)]
  | x :: L, k + 1, t, l, h, ht => by
    show (entV x ++ entF L)[(k + 1) * 13 + t]? = _
    rw [List.getElem?_append_right (by show 13 ≤ _; omega), show (k + 1) * 13 + t - (entV x).length = k * 13 + t by show _ - 13 = _; omega]
    exact ez_refF_at L k t l (by simpa using h) ht
def EntT (W : World) (v : Value) (L : List Fd) : Prop := W.ownsRow 0 66 13 v L.length (entF L)
def EntB (W : World) (b : Nat) (v : Value) (L : List Fd) : Prop := W.ownsRow b 66 13 v L.length (entF L)
theorem ez_rb_own {W : World} {b base n : Nat} {v : Value} {L : List Fd} (hb : b ≤ base) (h : W.ownsRow base 66 13 v n (entF L)) (hn : n = L.length) : EntB W b v L := by
  subst hn
  refine ⟨h.1, ?_⟩
  rcases h.2 with h2 | ⟨g, cap, cur, rfl, h3, h4⟩
  · exact .inl h2
  · exact .inr ⟨g, cap, cur, rfl, Nat.le_trans hb h3, h4⟩
theorem ez_rb_less {W : World} {b c : Nat} {v : Value} {L : List Fd} (hb : b ≤ c) (h : EntB W c v L) : EntB W b v L := ez_rb_own hb h rfl
theorem ez_rb_t {W : World} {b : Nat} {v : Value} {L : List Fd} (h : EntB W b v L) : EntT W v L := ez_rb_less (Nat.zero_le _) h
theorem ez_rb_nil (W : World) (b : Nat) : EntB W b (.slice none 0 0) [] := World.ownsRow_nil _ _ _ _
theorem ez_rb_be {W W' : World} {b : Nat} {v : Value} {L : List Fd} (hb : Below W.heap.size W W') (h : EntB W b v L) : EntB W' b v L := owns_be hb h
theorem ez_rb_al {W : World} {b : Nat} {v : Value} {L : List Fd} (ob : Obj) (h : EntB W b v L) : EntB (W.alloc ob) b v L := h.alloc ob
theorem ez_rb_dr {W : World} {b : Nat} {v : Value} {L : List Fd} (n : Nat) (h : EntB W b v L) : EntB (W.drewN n) b v L := h
theorem ez_rb_d1 {W : World} {b : Nat} {v : Value} {L : List Fd} (h : EntB W b v L) : EntB W.drew b v L := h
theorem EntT.form {W : World} {v : Value} {L : List Fd} (h : EntT W v L) : (v = .slice none 0 0 /\ L = []) ∨ ∃ g cap, v = .slice (some ⟨g, 0, none⟩) L.length cap /\ g < W.heap.size /\ L.length ≤ cap /\ Row W g (entF L) := by
  rcases h.2 with ⟨h1, h2⟩ | ⟨g, cap, cur, h1, _, h3, h4, _⟩
  · exact .inl ⟨h1, List.eq_nil_of_length_eq_zero h2⟩
  · subst h1
    refine .inr ⟨g, cap, rfl, ?_, h4, fun i u hu => ?_⟩
    · rcases Nat.lt_or_ge g W.heap.size with h | h
      · exact h
      · rw [Array.getElem?_eq_none h] at h3
        cases h3
    · have := World.ownsRow.cells (g := g) (h := h) rfl i u hu
      rw [show (⟨g, 0, none⟩ : Addr).add i = ⟨g, i, none⟩ by unfold Addr.add; split <;> simp_all] at this
      exact this
theorem info_ent9 : (Tryd.prog.info? 66).map (fun i => (i.zero, i.size, i.bytes)) = some (some (.agg #[.bool false, .bool false, .bool false, .bool false, .bool false, .bool false, .bool false, .bool false, .bool false, .bool false, .bool false, .bool false, .int .u64 0]), 13, 24) := by kernel_rfl

def ESrc (W : World) (B : Nat) (u : Value) (m : Nat) (L : List Fd) : Prop :=
  m = L.length /\ ((u = .slice none 0 0 /\ L = []) ∨ ∃ g o c, u = .slice (some ⟨g, o, none⟩) m c /\ g < B /\ ∀ j v, (entF L)[j]? = some v -> W.cell? ⟨g, o + j, none⟩ = some v)
theorem ez_src_bn {W W' : World} {B m : Nat} {u : Value} {L : List Fd} (hb : Below B W W') (h : ESrc W B u m L) : ESrc W' B u m L := by
  refine ⟨h.1, ?_⟩
  rcases h.2 with h | ⟨g, o, c, h1, h2, h3⟩
  · exact .inl h
  · exact .inr ⟨g, o, c, h1, h2, fun j v hv => (hb.cell (p := ⟨g, o + j, none⟩) h2).trans (h3 j v hv)⟩
theorem ez_src_more {W : World} {B B' m : Nat} {u : Value} {L : List Fd} (hb : B ≤ B') (h : ESrc W B u m L) : ESrc W B' u m L := by
  refine ⟨h.1, ?_⟩
  rcases h.2 with h | ⟨g, o, c, h1, h2, h3⟩
  · exact .inl h
  · exact .inr ⟨g, o, c, h1, by omega, h3⟩
theorem ez_refL_one (l : Fd) : ∀ v ∈ entV l, v.oneCell' = true := by
  intro v hv
  simp only [entV, List.mem_cons, List.not_mem_nil, or_false] at hv
  rcases hv with rfl | rfl | rfl | rfl | rfl | rfl | rfl | rfl | rfl | rfl | rfl | rfl | rfl <;> rfl
theorem ez_refF_one (L : List Fd) : ∀ v ∈ entF L, v.oneCell' = true := by
  intro v hv
  obtain ⟨c, hc, hv⟩ := List.mem_flatten.1 hv
  obtain ⟨l, _, rfl⟩ := List.mem_map.1 hc
  exact ez_refL_one l v hv
theorem ez_src_one {W : World} {g B c : Nat} {l : Fd} (hr : Row W g (entV l)) (hg : g < B) : ESrc W B (.slice (some ⟨g, 0, none⟩) 1 c) 1 [l] :=
  ⟨rfl, .inr ⟨g, 0, c, rfl, hg, fun j v hv => by rw [Nat.zero_add]; exact hr j v (by simpa [entF] using hv)⟩⟩
theorem ez_own_al {W : World} {base n : Nat} {v : Value} {xs : List Value} (ob : Obj) (h : W.ownsRow base 66 13 v n xs) : (W.alloc ob).ownsRow base 66 13 v n xs := h.alloc ob
theorem ez_own_dr {W : World} {base n : Nat} {v : Value} {xs : List Value} (k : Nat) (h : W.ownsRow base 66 13 v n xs) : (W.drewN k).ownsRow base 66 13 v n xs := h
theorem ez_own_d1 {W : World} {base n : Nat} {v : Value} {xs : List Value} (h : W.ownsRow base 66 13 v n xs) : W.drew.ownsRow base 66 13 v n xs := h
theorem ez_own_new {W : World} {base b : Nat} (hb : b = W.heap.size) (hn : base ≤ W.heap.size) : (W.alloc (.cells #[] 66)).ownsRow base 66 13 (.slice (some ⟨b, 0, none⟩) 0 0) 0 (entF []) := by
  subst hb
  exact World.ownsRow_made W #[] 0 hn (by unfold maxLen; omega) rfl

theorem ez_run_append_src (W : World) (ty : TypeId) (base n B m : Nat) (v u : Value) (K L : List Fd) (ho : W.ownsRow base 66 13 v n (entF K)) (hs : ESrc W B u m L) (h1 : n ≤ 1000) (h2 : m ≤ 1000) (hb : base ≤ W.heap.size) :
    ∃ v' W', (Builtin.append_ #[46, 46] ty #[v, u]).run Tryd.prog W = .ok v' W' /\ W'.ownsRow base 66 13 v' (n + m) (entF (K ++ L)) /\ Below base W W' /\ (∀ b, b < W.heap.size -> v.ownBlock ≠ some b -> W'.heap[b]? = W.heap[b]?) := by
  obtain ⟨iL, hiL, hiL0, hiL1, hiL2⟩ := info_parts info_ent9
  obtain ⟨hm, hs⟩ := hs
  rcases hs with ⟨rfl, rfl⟩ | ⟨g, off, c, rfl, hg, hc⟩
  · subst hm
    exact ⟨v, W, run_append_owned_none (P := Tryd.prog) (w := W) base 46 ty 66 iL 13 Tryd.underlying46 hiL v n _ ho, by simpa using ho, Below.refl _ _, fun _ _ _ => rfl⟩
  · obtain ⟨v', W', hr, h3, h4, _⟩ := run_append_own (P := Tryd.prog) W base 46 ty 66 iL (.agg #[.bool false, .bool false, .bool false, .bool false, .bool false, .bool false, .bool false, .bool false, .bool false, .bool false, .bool false, .bool false, .int .u64 0]) 13 24 Tryd.underlying46 hiL hiL0 hiL1 hiL2 rfl (by decide) v n _ ho ⟨g, off, none⟩ m c (entF L) (by rw [ez_refF_length, hm])
      (fun j x hx => by rw [show (⟨g, off, none⟩ : Addr).add j = ⟨g, off + j, none⟩ by unfold Addr.add; split <;> simp_all]; exact hc j x hx) (ez_refF_one L) (by unfold maxLen; omega) (by omega) hb
    refine ⟨v', W', hr, by rw [ez_refF_append]; exact h3, ?_⟩
    exact ⟨⟨h4.os, h4.tape, h4.output, h4.size, fun k hk => h4.block k (by omega) (fun e => by have := (ho.lt k e.symm).1; omega)⟩, fun b hb hne => h4.block b hb (fun e => hne e.symm)⟩
theorem ez_wp_append_src {op : Oper} {a : Act} {w : World} {K' : Act -> World -> Prop} {Q : Exit -> Act -> World -> Prop} (s x : Operand)
    (ho : op.op = .call { callee := .builtin .append, args := #[s, x], argTypes := #[46, 46] })
    (base n B m : Nat) (v u : Value) (K L : List Fd) (hs : a.eval s = v) (hx : a.eval x = u) (hown : w.ownsRow base 66 13 v n (entF K)) (hsrc : ESrc w B u m L) (h1 : n ≤ 1000) (h2 : m ≤ 1000) (hb : base ≤ w.heap.size)
    (h : ∀ v' w', w'.ownsRow base 66 13 v' (n + m) (entF (K ++ L)) -> Below base w w' -> (∀ b, b < w.heap.size -> v.ownBlock ≠ some b -> w'.heap[b]? = w.heap[b]?) -> K' (a.put op.dst v') w') : op.wp Tryd.prog a w K' Q := by
  obtain ⟨v', w', hr, h3, h4, h5⟩ := ez_run_append_src w op.type base n B m v u K L hown hsrc h1 h2 hb
  unfold Oper.wp execOp
  simp only [ho, resolve, invoke, builtin, Sem.run_bind, Sem.run_pure, Result.andThen_ok, List.map_toArray, List.map_cons, List.map_nil, hs, hx, hr]
  exact h v' w' h3 h4 h5
theorem ez_step_append_src {ops : Array Oper} {op : Oper} {a : Act} {w : World} {K' : Act -> World -> Prop} {Q : Exit -> Act -> World -> Prop} {E : Prop} (hgd : op.guard = none) (s x : Operand)
    (ho : op.op = .call { callee := .builtin .append, args := #[s, x], argTypes := #[46, 46] })
    (base n B m : Nat) (v u : Value) (K L : List Fd) (hs : a.eval s = v) (hx : a.eval x = u) (hown : w.ownsRow base 66 13 v n (entF K)) (hsrc : ESrc w B u m L) (h1 : n ≤ 1000) (h2 : m ≤ 1000) (hb : base ≤ w.heap.size)
    (h : ∀ v' w', w'.ownsRow base 66 13 v' (n + m) (entF (K ++ L)) -> Below base w w' -> (∀ b, b < w.heap.size -> v.ownBlock ≠ some b -> w'.heap[b]? = w.heap[b]?) -> K' (a.put op.dst v') w') :
    if Region.wanted op (yielded ops a.tmps) = true then Oper.wp Tryd.prog op a w K' Q else E := by
  have hw : Region.wanted op (yielded ops a.tmps) = true := by simp [Region.wanted, hgd]
  rw [if_pos hw]
  exact ez_wp_append_src s x ho base n B m v u K L hs hx hown hsrc h1 h2 hb h

theorem ez_step_append_ex {ops : Array Oper} {op : Oper} {a : Act} {w : World} {K' : Act -> World -> Prop} {Q : Exit -> Act -> World -> Prop} {E : Prop} (hgd : op.guard = none) (s x : Operand)
    (ho : op.op = .call { callee := .builtin .append, args := #[s, x], argTypes := #[46, 46] })
    (base n m : Nat) (v u : Value) (K L : List Fd) (hs : a.eval s = v) (hx : a.eval x = u) (hown : w.ownsRow base 66 13 v n (entF K)) (hsrc : ∃ B, ESrc w B u m L) (h1 : n ≤ 1000) (h2 : m ≤ 1000) (hb : base ≤ w.heap.size)
    (h : ∀ v' w', w'.ownsRow base 66 13 v' (n + m) (entF (K ++ L)) -> Below base w w' -> (∀ b, b < w.heap.size -> v.ownBlock ≠ some b -> w'.heap[b]? = w.heap[b]?) -> K' (a.put op.dst v') w') :
    if Region.wanted op (yielded ops a.tmps) = true then Oper.wp Tryd.prog op a w K' Q else E := by
  obtain ⟨B, hB⟩ := hsrc
  exact ez_step_append_src hgd s x ho base n B m v u K L hs hx hown hB h1 h2 hb h
end Go.Proofs.YtkajndonefkegaaDoor
