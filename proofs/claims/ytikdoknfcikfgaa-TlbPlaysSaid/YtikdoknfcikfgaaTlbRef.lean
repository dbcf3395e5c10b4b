/-
  The document's buffer, a slice of lines of three numbers: what Drop, Flush and Look answer.
-/
import Derived.Test.YtikdoknfcikfgaaTlbM
import Derived.Laws.AppendOwn
import Derived.OwnWalk
namespace Go.Proofs.Ytikdoknfcikfgaa
open Go.RowKit

def refL (l : Ln) : List Value := [.int .u64 l.1, .int .u64 l.2.1, .int .u64 l.2.2]
def refF (L : List Ln) : List Value := (L.map refL).flatten
theorem refF_length (L : List Ln) : (refF L).length = L.length * 3 := by
  induction L with
  | nil => rfl
  | cons x L ih =>
    show (refL x ++ refF L).length = _
    rw [List.length_append, ih, List.length_cons]
    show 3 + _ = _
    omega
theorem refF_append (L K : List Ln) : refF (L ++ K) = refF L ++ refF K := by simp [refF]
theorem refF_at : ∀ (L : List Ln) (k t : Nat) (l : Ln), L[k]? = some l → t < 3 → (refF L)[k * 3 + t]? = (refL l)[t]?
  | [], k, t, l, h, _ => by simp at h
  | x :: L, 0, t, l, h, ht => by
    simp only [List.getElem?_cons_zero, Option.some.injEq] at h
    subst h
    show (refL x ++ refF L)[0 * 3 + t]? = _
    rw [Nat.zero_mul, Nat.zero_add, List.getElem?_append_left (by show t < 3; omega)]
  | x :: L, k + 1, t, l, h, ht => by
    show (refL x ++ refF L)[(k + 1) * 3 + t]? = _
    rw [List.getElem?_append_right (by show 3 ≤ _; omega), show (k + 1) * 3 + t - (refL x).length = k * 3 + t by show _ - 3 = _; omega]
    exact refF_at L k t l (by simpa using h) ht
/-- The document's buffer holds that list. -/
def RefT (W : World) (v : Value) (L : List Ln) : Prop := W.ownsRow 0 43 3 v L.length (refF L)
/-- .. and lies in a block from b on. -/
def RefB (W : World) (b : Nat) (v : Value) (L : List Ln) : Prop := W.ownsRow b 43 3 v L.length (refF L)
theorem rb_own {W : World} {b base n : Nat} {v : Value} {L : List Ln} (hb : b ≤ base) (h : W.ownsRow base 43 3 v n (refF L)) (hn : n = L.length) : RefB W b v L := by
  subst hn
  refine ⟨h.1, ?_⟩
  rcases h.2 with h2 | ⟨g, cap, cur, rfl, h3, h4⟩
  · exact .inl h2
  · exact .inr ⟨g, cap, cur, rfl, Nat.le_trans hb h3, h4⟩
theorem rb_less {W : World} {b c : Nat} {v : Value} {L : List Ln} (hb : b ≤ c) (h : RefB W c v L) : RefB W b v L := rb_own hb h rfl
theorem rb_t {W : World} {b : Nat} {v : Value} {L : List Ln} (h : RefB W b v L) : RefT W v L := rb_less (Nat.zero_le _) h
theorem rb_nil (W : World) (b : Nat) : RefB W b (.slice none 0 0) [] := World.ownsRow_nil _ _ _ _
theorem owns_be {W W' : World} {base n size : Nat} {e : TypeId} {v : Value} {xs : List Value} (hb : Below W.heap.size W W') (h : W.ownsRow base e size v n xs) : W'.ownsRow base e size v n xs :=
  h.kept (row := none) ⟨hb.os, hb.tape, hb.output, hb.size, fun k hk _ => hb.block k hk⟩ (by cases hv : v.ownBlock <;> simp)
theorem owns_bn {b : Nat} {W W' : World} {base n size : Nat} {e : TypeId} {v : Value} {xs : List Value} (hb : Below b W W') (hlt : ∀ k, v.ownBlock = some k → k < b) (h : W.ownsRow base e size v n xs) : W'.ownsRow base e size v n xs := by
  refine ⟨h.1, ?_⟩
  rcases h.2 with h2 | ⟨g, cap, cur, rfl, h3, h4, h5⟩
  · exact .inl h2
  · exact .inr ⟨g, cap, cur, rfl, h3, (hb.block g (hlt g rfl)).trans h4, h5⟩
theorem rb_be {W W' : World} {b : Nat} {v : Value} {L : List Ln} (hb : Below W.heap.size W W') (h : RefB W b v L) : RefB W' b v L := owns_be hb h
theorem rb_out {W W' : World} {N b : Nat} {v : Value} {L : List Ln} (hb : N < b) (ho : Out1 N W W') (h : RefB W b v L) : RefB W' b v L := by
  refine ⟨h.1, ?_⟩
  rcases h.2 with h2 | ⟨g, cap, cur, rfl, h3, h4, h5⟩
  · exact .inl h2
  · have hlt : g < W.heap.size := (Array.getElem?_eq_some_iff.1 h4).1
    exact .inr ⟨g, cap, cur, rfl, h3, (ho.block g hlt (by omega)).trans h4, h5⟩
theorem rb_al {W : World} {b : Nat} {v : Value} {L : List Ln} (ob : Obj) (h : RefB W b v L) : RefB (W.alloc ob) b v L := h.alloc ob
theorem rb_dr {W : World} {b : Nat} {v : Value} {L : List Ln} (n : Nat) (h : RefB W b v L) : RefB (W.drewN n) b v L := h
theorem rb_d1 {W : World} {b : Nat} {v : Value} {L : List Ln} (h : RefB W b v L) : RefB W.drew b v L := h
theorem rb_bn {W W' : World} {n b : Nat} {v : Value} {L : List Ln} (hb : Below n W W') (hn : W.heap.size ≤ n) (h : RefB W b v L) : RefB W' b v L := owns_be (hb.mono hn) h
theorem rt_be {W W' : World} {v : Value} {L : List Ln} (hb : Below W.heap.size W W') (h : RefT W v L) : RefT W' v L := owns_be hb h
theorem rt_own {W : World} {base n : Nat} {v : Value} {L : List Ln} (h : W.ownsRow base 43 3 v n (refF L)) (hn : n = L.length) : RefT W v L := by
  subst hn
  refine ⟨h.1, ?_⟩
  rcases h.2 with h2 | ⟨g, cap, cur, rfl, _, h4⟩
  · exact .inl h2
  · exact .inr ⟨g, cap, cur, rfl, Nat.zero_le _, h4⟩
theorem RefT.form {W : World} {v : Value} {L : List Ln} (h : RefT W v L) : (v = .slice none 0 0 ∧ L = []) ∨ ∃ g cap, v = .slice (some ⟨g, 0, none⟩) L.length cap ∧ g < W.heap.size ∧ L.length ≤ cap ∧ Row W g (refF L) := by
  rcases h.2 with ⟨h1, h2⟩ | ⟨g, cap, cur, h1, _, h3, h4, _⟩
  · exact .inl ⟨h1, List.eq_nil_of_length_eq_zero h2⟩
  · subst h1
    refine .inr ⟨g, cap, rfl, ?_, h4, fun i u hu => ?_⟩
    · rcases Nat.lt_or_ge g W.heap.size with h | h
      · exact h
      · rw [Array.getElem?_eq_none h] at h3
        cases h3
    · have := World.ownsRow.cells (g := g) (h := h) rfl i u hu
      rw [show (⟨g, 0, none⟩ : Addr).add i = ⟨g, i, none⟩ by unfold Addr.add; split <;> simp_all] at this
      exact this
/-- What Drop and Flush leave. -/
def rdropF (a n : Int) (L : List Ln) : List Ln := L.filter (fun l => !((l.1 == a) && (l.2.1 == n)))
def rflushF (a : Int) (L : List Ln) : List Ln := L.filter (fun l => !(l.1 == a))
/-- The call answers a buffer of the document's that holds that list; what was there stays. -/
def GivesT (L : List Ln) (w : World) (e : Ending) (w' : World) : Prop := ∃ v, e = .returned v ∧ RefB w' w.heap.size v L ∧ Below w.heap.size w w'
theorem info_ref : (Try.prog.info? 43).map (fun i => (i.zero, i.size, i.bytes)) = some (some (.agg #[.int .u64 0, .int .u64 0, .int .u64 0]), 3, 24) := by kernel_rfl
theorem own_base {W : World} {base n size : Nat} {e : TypeId} {v : Value} {xs : List Value} (h : W.ownsRow base e size v n xs) (j : Nat) (ej : some j = v.ownBlock) : base ≤ j := (h.lt j ej.symm).1
theorem row_src {W : World} {b : Nat} {c news : List Value} (h : Row W b c) (hc : c = news) : ∀ j u, news[j]? = some u → W.cell? ((⟨b, 0, none⟩ : Addr).add j) = some u := fun j u hj => by
  rw [show (⟨b, 0, none⟩ : Addr).add j = ⟨b, j, none⟩ by unfold Addr.add; split <;> simp_all]
  subst hc
  exact h j u hj
/-- One line at most more. -/
theorem filter_take (p : Ln → Bool) (L : List Ln) (k : Nat) (l : Ln) (h : L[k]? = some l) : (L.take (k + 1)).filter p = (L.take k).filter p ++ (if p l = true then [l] else []) := by
  rw [List.take_add_one, h, List.filter_append]
  congr 1
  by_cases e : p l = true
  · rw [if_pos e]
    exact List.filter_cons_of_pos e
  · rw [if_neg e]
    exact List.filter_cons_of_neg e

set_option maxRecDepth 100000 in
set_option maxHeartbeats 8000000 in
theorem rdrop_some (g cap : Nat) (a n : Int) (L : List Ln) (hl : L.length ≤ 1000) (w : World) (hr : Row w g (refF L)) :
    Calls Try.prog 12 #[.slice (some ⟨g, 0, none⟩) L.length cap, .int .u64 a, .int .u64 n] w (GivesT (rdropF a n L) w) := by
  have SS := cell_same
  have LB' := ltB_add
  have LS := ltB_self
  have LA' := alloc_reads
  have LH := alloc_holds
  obtain ⟨iL, hiL, hiL0, hiL1, hiL2⟩ := info_parts info_ref
  have HR := hide hr
  clear hr
  go_enter Try.func12, Try.ntmps12
  go_wp2
  go_loopw [7, 8] (fun s i wr => ∃ (k c : Nat), k ≤ L.length ∧ i = .int .i64 (k : Int) ∧ c = ((L.take k).filter (fun l => !((l.1 == a) && (l.2.1 == n)))).length ∧ Hid (wr.ownsRow w.heap.size 43 3 s c (refF ((L.take k).filter (fun l => !((l.1 == a) && (l.2.1 == n)))))) ∧ Below w.heap.size w wr) (fun _ i _ => L.length - (intOf i).toNat)
  case atStart => exact ⟨0, 0, by omega, rfl, rfl, hide (World.ownsRow_nil _ _ _ _), Below.refl _ _⟩
  case round s =>
    obtain ⟨k, c, hk, rfl, hn, HO, hB⟩ := hrel
    have hsz := hB.size
    by_cases hlt : k < L.length
    · obtain ⟨⟨xa, xn, xx⟩, hx⟩ : ∃ x, L[k]? = some x := ⟨_, List.getElem?_eq_getElem hlt⟩
      have c0 : wr.cell? ⟨g, k * 3, none⟩ = some (.int .u64 xa) := c_be hB (HR.out _ _ (refF_at L k 0 _ hx (by omega)))
      have c1 : wr.cell? ⟨g, k * 3 + 1, none⟩ = some (.int .u64 xn) := c_be hB (HR.out _ _ (refF_at L k 1 _ hx (by omega)))
      have c2 : wr.cell? ⟨g, k * 3 + 2, none⟩ = some (.int .u64 xx) := c_be hB (HR.out _ _ (refF_at L k 2 _ hx (by omega)))
      have hstep := filter_take (fun l => !((l.1 == a) && (l.2.1 == n))) L k _ hx
      have hn2 : c ≤ k := by rw [hn]; exact Nat.le_trans (List.length_filter_le _ _) (by rw [List.length_take]; omega)
      have b1 : (k : Int) < (L.length : Int) := by omega
      have b2 : ¬ ((L.length : Int) ≤ (k : Int)) := by omega
      have b3 : (0 : Int) ≤ (k : Int) := by omega
      have HN := hide hn
      have HX := hide hx
      clear hn hx
      by_cases e1 : xa = a
      · subst e1
        by_cases e2 : xn = n
        · subst e2
          have HS := hide (hstep.trans (by rw [if_neg (by simp )]))
          clear hstep
          go_wp2_with fail
          go_roundw
          case rel =>
            refine ⟨k + 1, c, by omega, by go_num, ?_, ?_, hB⟩
            · rw [HS.out, List.append_nil]
              exact HN.out
            · rw [HS.out, List.append_nil]
              exact HO
          case measure => simp [intOf]; omega
        · have f2 : (xn != n) = true := by simpa using e2
          have HS := hide (hstep.trans (by rw [if_pos (by simp [e2])]))
          clear hstep
          go_wp2_with (at_builtin; refine wpList_append_own _ rfl _ _ 36 rfl w.heap.size 43 iL (.agg #[.int .u64 0, .int .u64 0, .int .u64 0]) 3 24 Try.underlying36 hiL hiL0 hiL1 hiL2 rfl (by decide) _ _ _ rfl (owns_be (by repeat (first | with_reducible assumption | with_reducible exact Below.refl _ _ | with_reducible refine Below.drew ?_ | with_reducible refine below_drewN ?_ _ | with_reducible refine bw_alloc ?_ _ | (with_reducible refine bw_set ?_ ?_ _; focus (dsimp only; omega)) | (with_reducible apply bw_behind; with_reducible assumption))) HO.out) _ 1 1 [.int .u64 xa, .int .u64 xn, .int .u64 xx] rfl rfl (row_src (by repeat (first | with_reducible assumption | with_reducible refine k_dr _ ?_ | with_reducible refine k_d1 ?_ | exact row_new (by simp) rfl | with_reducible refine k_al _ ?_ | (with_reducible refine k_set ?_ ?_; focus (dsimp only; omega)) | (with_reducible apply k_be; with_reducible assumption))) rfl) (by simp [Value.oneCell']) (by unfold maxLen; omega) (by omega) (by first | omega | (simp; omega)) ?_; intro v3 w3 hown3 hgrow3 _)
          go_roundw
          case rel =>
            refine ⟨k + 1, c + 1, by omega, by go_num, ?_, ?_, ?_⟩
            · rw [HS.out, List.length_append, ← HN.out]
              rfl
            · rw [HS.out, refF_append]
              exact hide hown3
            · refine Below.grown ?_ hgrow3 (by first | omega | (simp; omega)) (fun j ej => own_base HO.out j ej.symm)
              repeat (first | with_reducible assumption | with_reducible exact Below.refl _ _ | with_reducible refine Below.drew ?_ | with_reducible refine below_drewN ?_ _ | with_reducible refine bw_alloc ?_ _ | (with_reducible refine bw_set ?_ ?_ _; focus (dsimp only; omega)) | (with_reducible apply bw_behind; with_reducible assumption))
          case measure => simp [intOf]; omega
      · have f1 : (xa != a) = true := by simpa using e1
        have HS := hide (hstep.trans (by rw [if_pos (by simp [e1])]))
        clear hstep
        go_wp2_with (at_builtin; refine wpList_append_own _ rfl _ _ 36 rfl w.heap.size 43 iL (.agg #[.int .u64 0, .int .u64 0, .int .u64 0]) 3 24 Try.underlying36 hiL hiL0 hiL1 hiL2 rfl (by decide) _ _ _ rfl (owns_be (by repeat (first | with_reducible assumption | with_reducible exact Below.refl _ _ | with_reducible refine Below.drew ?_ | with_reducible refine below_drewN ?_ _ | with_reducible refine bw_alloc ?_ _ | (with_reducible refine bw_set ?_ ?_ _; focus (dsimp only; omega)) | (with_reducible apply bw_behind; with_reducible assumption))) HO.out) _ 1 1 [.int .u64 xa, .int .u64 xn, .int .u64 xx] rfl rfl (row_src (by repeat (first | with_reducible assumption | with_reducible refine k_dr _ ?_ | with_reducible refine k_d1 ?_ | exact row_new (by simp) rfl | with_reducible refine k_al _ ?_ | (with_reducible refine k_set ?_ ?_; focus (dsimp only; omega)) | (with_reducible apply k_be; with_reducible assumption))) rfl) (by simp [Value.oneCell']) (by unfold maxLen; omega) (by omega) (by first | omega | (simp; omega)) ?_; intro v3 w3 hown3 hgrow3 _)
        go_roundw
        case rel =>
          refine ⟨k + 1, c + 1, by omega, by go_num, ?_, ?_, ?_⟩
          · rw [HS.out, List.length_append, ← HN.out]
            rfl
          · rw [HS.out, refF_append]
            exact hide hown3
          · refine Below.grown ?_ hgrow3 (by first | omega | (simp; omega)) (fun j ej => own_base HO.out j ej.symm)
            repeat (first | with_reducible assumption | with_reducible exact Below.refl _ _ | with_reducible refine Below.drew ?_ | with_reducible refine below_drewN ?_ _ | with_reducible refine bw_alloc ?_ _ | (with_reducible refine bw_set ?_ ?_ _; focus (dsimp only; omega)) | (with_reducible apply bw_behind; with_reducible assumption))
        case measure => simp [intOf]; omega
    · obtain rfl : k = L.length := by omega
      have HN := hide hn
      clear hn
      have b1 : ¬ ((L.length : Int) < (L.length : Int)) := by omega
      go_wp2_with fail
      go_ret
      have hO := HO.out
      rw [List.take_length] at hO
      refine ⟨_, rfl, rb_own (Nat.le_refl _) hO ?_, hB⟩
      rw [HN.out, List.take_length]
      rfl
theorem rdrop_nil (a n : Int) (w : World) : Calls Try.prog 12 #[.slice none 0 0, .int .u64 a, .int .u64 n] w (GivesT [] w) := by
  have SS := cell_same
  have LB' := ltB_add
  have LS := ltB_self
  have LA' := alloc_reads
  have LH := alloc_holds
  go_enter Try.func12, Try.ntmps12
  go_wp2
  refine wp_loop_rounds 1 ?_
  rw [rounds_succ]
  go_wp2_with fail
  go_ret
  exact ⟨_, rfl, World.ownsRow_nil _ _ _ _, Below.refl _ _⟩
/-- What it answers. -/
theorem rdrop_any (v : Value) (a n : Int) (L : List Ln) (hl : L.length ≤ 1000) (w : World) (h : RefT w v L) :
    Calls Try.prog 12 #[v, .int .u64 a, .int .u64 n] w (GivesT (rdropF a n L) w) := by
  rcases h.form with ⟨rfl, rfl⟩ | ⟨g, cap, rfl, _, _, hr⟩
  · exact rdrop_nil a n w
  · exact rdrop_some g cap a n L hl w hr

set_option maxRecDepth 100000 in
set_option maxHeartbeats 8000000 in
theorem rflush_some (g cap : Nat) (a : Int) (L : List Ln) (hl : L.length ≤ 1000) (w : World) (hr : Row w g (refF L)) :
    Calls Try.prog 14 #[.slice (some ⟨g, 0, none⟩) L.length cap, .int .u64 a] w (GivesT (rflushF a L) w) := by
  have SS := cell_same
  have LB' := ltB_add
  have LS := ltB_self
  have LA' := alloc_reads
  have LH := alloc_holds
  obtain ⟨iL, hiL, hiL0, hiL1, hiL2⟩ := info_parts info_ref
  have HR := hide hr
  clear hr
  go_enter Try.func14, Try.ntmps14
  go_wp2
  go_loopw [5, 6] (fun s i wr => ∃ (k c : Nat), k ≤ L.length ∧ i = .int .i64 (k : Int) ∧ c = ((L.take k).filter (fun l => !(l.1 == a))).length ∧ Hid (wr.ownsRow w.heap.size 43 3 s c (refF ((L.take k).filter (fun l => !(l.1 == a))))) ∧ Below w.heap.size w wr) (fun _ i _ => L.length - (intOf i).toNat)
  case atStart => exact ⟨0, 0, by omega, rfl, rfl, hide (World.ownsRow_nil _ _ _ _), Below.refl _ _⟩
  case round s =>
    obtain ⟨k, c, hk, rfl, hn, HO, hB⟩ := hrel
    have hsz := hB.size
    by_cases hlt : k < L.length
    · obtain ⟨⟨xa, xn, xx⟩, hx⟩ : ∃ x, L[k]? = some x := ⟨_, List.getElem?_eq_getElem hlt⟩
      have c0 : wr.cell? ⟨g, k * 3, none⟩ = some (.int .u64 xa) := c_be hB (HR.out _ _ (refF_at L k 0 _ hx (by omega)))
      have c1 : wr.cell? ⟨g, k * 3 + 1, none⟩ = some (.int .u64 xn) := c_be hB (HR.out _ _ (refF_at L k 1 _ hx (by omega)))
      have c2 : wr.cell? ⟨g, k * 3 + 2, none⟩ = some (.int .u64 xx) := c_be hB (HR.out _ _ (refF_at L k 2 _ hx (by omega)))
      have hstep := filter_take (fun l => !(l.1 == a)) L k _ hx
      have hn2 : c ≤ k := by rw [hn]; exact Nat.le_trans (List.length_filter_le _ _) (by rw [List.length_take]; omega)
      have b1 : (k : Int) < (L.length : Int) := by omega
      have b2 : ¬ ((L.length : Int) ≤ (k : Int)) := by omega
      have b3 : (0 : Int) ≤ (k : Int) := by omega
      have HN := hide hn
      have HX := hide hx
      clear hn hx
      by_cases e1 : xa = a
      · subst e1
        have HS := hide (hstep.trans (by rw [if_neg (by simp )]))
        clear hstep
        go_wp2_with fail
        go_roundw
        case rel =>
          refine ⟨k + 1, c, by omega, by go_num, ?_, ?_, hB⟩
          · rw [HS.out, List.append_nil]
            exact HN.out
          · rw [HS.out, List.append_nil]
            exact HO
        case measure => simp [intOf]; omega
      · have f1 : (xa != a) = true := by simpa using e1
        have HS := hide (hstep.trans (by rw [if_pos (by simp [e1])]))
        clear hstep
        go_wp2_with (at_builtin; refine wpList_append_own _ rfl _ _ 36 rfl w.heap.size 43 iL (.agg #[.int .u64 0, .int .u64 0, .int .u64 0]) 3 24 Try.underlying36 hiL hiL0 hiL1 hiL2 rfl (by decide) _ _ _ rfl (owns_be (by repeat (first | with_reducible assumption | with_reducible exact Below.refl _ _ | with_reducible refine Below.drew ?_ | with_reducible refine below_drewN ?_ _ | with_reducible refine bw_alloc ?_ _ | (with_reducible refine bw_set ?_ ?_ _; focus (dsimp only; omega)) | (with_reducible apply bw_behind; with_reducible assumption))) HO.out) _ 1 1 [.int .u64 xa, .int .u64 xn, .int .u64 xx] rfl rfl (row_src (by repeat (first | with_reducible assumption | with_reducible refine k_dr _ ?_ | with_reducible refine k_d1 ?_ | exact row_new (by simp) rfl | with_reducible refine k_al _ ?_ | (with_reducible refine k_set ?_ ?_; focus (dsimp only; omega)) | (with_reducible apply k_be; with_reducible assumption))) rfl) (by simp [Value.oneCell']) (by unfold maxLen; omega) (by omega) (by first | omega | (simp; omega)) ?_; intro v3 w3 hown3 hgrow3 _)
        go_roundw
        case rel =>
          refine ⟨k + 1, c + 1, by omega, by go_num, ?_, ?_, ?_⟩
          · rw [HS.out, List.length_append, ← HN.out]
            rfl
          · rw [HS.out, refF_append]
            exact hide hown3
          · refine Below.grown ?_ hgrow3 (by first | omega | (simp; omega)) (fun j ej => own_base HO.out j ej.symm)
            repeat (first | with_reducible assumption | with_reducible exact Below.refl _ _ | with_reducible refine Below.drew ?_ | with_reducible refine below_drewN ?_ _ | with_reducible refine bw_alloc ?_ _ | (with_reducible refine bw_set ?_ ?_ _; focus (dsimp only; omega)) | (with_reducible apply bw_behind; with_reducible assumption))
        case measure => simp [intOf]; omega
    · obtain rfl : k = L.length := by omega
      have HN := hide hn
      clear hn
      have b1 : ¬ ((L.length : Int) < (L.length : Int)) := by omega
      go_wp2_with fail
      go_ret
      have hO := HO.out
      rw [List.take_length] at hO
      refine ⟨_, rfl, rb_own (Nat.le_refl _) hO ?_, hB⟩
      rw [HN.out, List.take_length]
      rfl
theorem rflush_nil (a : Int) (w : World) : Calls Try.prog 14 #[.slice none 0 0, .int .u64 a] w (GivesT [] w) := by
  have SS := cell_same
  have LB' := ltB_add
  have LS := ltB_self
  have LA' := alloc_reads
  have LH := alloc_holds
  go_enter Try.func14, Try.ntmps14
  go_wp2
  refine wp_loop_rounds 1 ?_
  rw [rounds_succ]
  go_wp2_with fail
  go_ret
  exact ⟨_, rfl, World.ownsRow_nil _ _ _ _, Below.refl _ _⟩
/-- What it answers. -/
theorem rflush_any (v : Value) (a : Int) (L : List Ln) (hl : L.length ≤ 1000) (w : World) (h : RefT w v L) :
    Calls Try.prog 14 #[v, .int .u64 a] w (GivesT (rflushF a L) w) := by
  rcases h.form with ⟨rfl, rfl⟩ | ⟨g, cap, rfl, _, _, hr⟩
  · exact rflush_nil a w
  · exact rflush_some g cap a L hl w hr
end Go.Proofs.Ytikdoknfcikfgaa
