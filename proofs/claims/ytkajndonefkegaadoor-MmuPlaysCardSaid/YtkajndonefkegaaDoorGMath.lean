/-
  Texts laid one behind the other: MtbMath, MtbMath2, MtbMath3, MtbMap, MtbSame.
-/
import Derived.Test.YtkajndonefkegaaDoorMtb7
import Derived.Test.YtkajndonefkegaaDoorMtb8
import Derived.Test.YtkajndonefkegaaDoorMtb9
import Derived.Test.YtkajndonefkegaaDoorGMref
import Derived.BigQuiet
set_option maxRecDepth 100000
set_option maxHeartbeats 64000000
namespace Go.Proofs.YtkajndonefkegaaDoor
open Go.RowKit

def putL (B : List (LnX Int)) (l : (LnX Int)) : List (LnX Int) := match B.filter (fun k => !((k.1 == l.1) && (k.2.1 == l.2.1))) with
  | [x, y] => [x, y].filter (fun k => !((k.1 == x.1) && (k.2.1 == x.2.1))) ++ [l]
  | D => D ++ [l]
theorem putM_at (M : Nat -> List (LnX Int)) (q : Nat) (l : (LnX Int)) : lputM M q l q = putL (M q) l := by
  unfold lputM putL
  rw [show (M q).filter (fun k => !((k.1 == l.1) && (k.2.1 == l.2.1))) = dropM M l.1 l.2.1 q from rfl]
  generalize hD : dropM M l.1 l.2.1 q = B
  match B, hD with
  | [], hD =>
    show addM _ q l q = _
    unfold addM
    rw [if_pos rfl, hD]
  | [x], hD =>
    show addM _ q l q = _
    unfold addM
    rw [if_pos rfl, hD]
  | [x, y], hD =>
    show addM _ q l q = _
    unfold addM
    rw [if_pos rfl]
    show (dropM M l.1 l.2.1 q).filter _ ++ [l] = _
    rw [hD]
  | x :: y :: z :: t, hD =>
    show addM _ q l q = _
    unfold addM
    rw [if_pos rfl, hD]

theorem mem_drop {M : Nat -> List (LnX Int)} {a n : Int} {r : Nat} {l : (LnX Int)} (h : l ∈ dropM M a n r) : l ∈ M r := (List.mem_filter.1 h).1
theorem mem_add {D : Nat -> List (LnX Int)} {q r : Nat} {l k : (LnX Int)} (h : k ∈ addM D q l r) : k ∈ D r ∨ (r = q /\ k = l) := by
  unfold addM at h
  by_cases e : r = q
  · subst e
    rw [if_pos rfl] at h
    rcases List.mem_append.1 h with h | h
    · exact .inl h
    · exact .inr ⟨rfl, by simpa using h⟩
  · rw [if_neg e] at h
    exact .inl h
theorem putM_ways (M : Nat -> List (LnX Int)) (q : Nat) (l : (LnX Int)) : lputM M q l = addM (dropM M l.1 l.2.1) q l ∨ ∃ x, x ∈ M q /\ lputM M q l = addM (dropM (dropM M l.1 l.2.1) x.1 x.2.1) q l := by
  unfold lputM
  split
  · rename_i x y hD
    exact .inr ⟨x, mem_drop (a := l.1) (n := l.2.1) (by rw [hD]; simp), rfl⟩
  · exact .inl rfl
theorem mem_put {M : Nat -> List (LnX Int)} {q r : Nat} {l k : (LnX Int)} (h : k ∈ lputM M q l r) : k ∈ M r ∨ (r = q /\ k = l) := by
  rcases putM_ways M q l with e | ⟨x, _, e⟩
  · rw [e] at h
    rcases mem_add h with h | h
    · exact .inl (mem_drop h)
    · exact .inr h
  · rw [e] at h
    rcases mem_add h with h | h
    · exact .inl (mem_drop (mem_drop h))
    · exact .inr h
def InSets (M : Nat -> List (LnX Int)) : Prop := ∀ q, q < 4 -> ∀ l ∈ M q, l.2.1 % 4 = (q : Int)
theorem insets_put {M : Nat -> List (LnX Int)} {q : Nat} {l : (LnX Int)} (h : InSets M) (hl : l.2.1 % 4 = (q : Int)) : InSets (lputM M q l) := fun r hr k hk => by
  rcases mem_put hk with hk | ⟨rfl, rfl⟩
  · exact h r hr k hk
  · exact hl
theorem len_put {M : Nat -> List (LnX Int)} {q : Nat} {l : (LnX Int)} (h : ∀ r, r < 4 -> (M r).length ≤ 2) : ∀ r, r < 4 -> (lputM M q l r).length ≤ 2 := fun r hr => by
  by_cases e : r = q
  · subst e
    rw [putM_at]
    unfold putL
    have hl := Nat.le_trans (List.length_filter_le (fun k : (LnX Int) => !((k.1 == l.1) && (k.2.1 == l.2.1))) (M r)) (h r hr)
    generalize List.filter (fun k : (LnX Int) => !((k.1 == l.1) && (k.2.1 == l.2.1))) (M r) = D at hl ⊢
    match D, hl with
    | [], _ => simp
    | [x], _ => simp
    | [x, y], _ =>
      show (List.filter _ [x, y] ++ [l]).length ≤ 2
      rw [List.filter_cons_of_neg (by simp), List.length_append]
      have := List.length_filter_le (fun k : (LnX Int) => !((k.1 == x.1) && (k.2.1 == x.2.1))) [y]
      simp at this ⊢
      omega
  · have h1 := h r hr
    rcases putM_ways M q l with e1 | ⟨x, _, e1⟩
    · rw [e1]
      unfold addM
      rw [if_neg e]
      exact Nat.le_trans (List.length_filter_le _ _) h1
    · rw [e1]
      unfold addM
      rw [if_neg e]
      exact Nat.le_trans (List.length_filter_le _ _) (Nat.le_trans (List.length_filter_le _ _) h1)
structure Inv (M : Nat -> List (LnX Int)) : Prop where
  sets : InSets M
  len : ∀ r, r < 4 -> (M r).length ≤ 2
  nn : ∀ r, r < 4 -> ∀ l ∈ M r, 0 ≤ l.2.1
theorem inv_nil : Inv (fun _ => []) := ⟨fun r hr k hk => by simp at hk, fun r hr => by simp, fun r hr k hk => by simp at hk⟩
theorem inv_put {M : Nat -> List (LnX Int)} {q : Nat} {l : (LnX Int)} (h : Inv M) (hl : l.2.1 % 4 = (q : Int)) (h0 : 0 ≤ l.2.1) : Inv (lputM M q l) := ⟨insets_put h.sets hl, len_put h.len, fun r hr k hk => by
  rcases mem_put hk with hk | ⟨_, rfl⟩
  · exact h.nn r hr k hk
  · exact h0⟩

/-! Lines -/
theorem mem_upF {M : Nat -> List (LnX Int)} {l : (LnX Int)} : ∀ {k}, l ∈ upF M k -> ∃ q, q < k /\ l ∈ M q
  | 0, h => by simp [upF] at h
  | k + 1, h => by
    rcases List.mem_append.1 (show l ∈ upF M k ++ M k from h) with h | h
    · obtain ⟨q, hq, hl⟩ := mem_upF h
      exact ⟨q, by omega, hl⟩
    · exact ⟨k, by omega, h⟩
end Go.Proofs.YtkajndonefkegaaDoor

namespace Go.Proofs.YtkajndonefkegaaDoor
open Go.RowKit

def Wf (x : Int) : Prop := 0 ≤ x /\ x < 18446744073709551616
def Wfl (l : (LnX Int)) : Prop := Wf l.1 /\ Wf l.2.1 /\ Wf l.2.2
def pageNe (x y : (LnX Int)) : Prop := ¬ (x.1 = y.1 /\ x.2.1 = y.2.1)
structure InvL (M : Nat -> List (LnX Int)) : Prop where
  inv : Inv M
  wf : ∀ q, q < 4 -> ∀ l ∈ M q, Wfl l
  ne : ∀ q, q < 4 -> (M q).Pairwise pageNe
theorem invl_nil : InvL (fun _ => []) := ⟨inv_nil, fun q hq l hl => by simp at hl, fun q hq => List.Pairwise.nil⟩
theorem invl_filter {M : Nat -> List (LnX Int)} (p : (LnX Int) -> Bool) (h : InvL M) : InvL (fun q => (M q).filter p) :=
  ⟨⟨fun q hq l hl => h.inv.sets q hq l (List.mem_filter.1 hl).1, fun q hq => Nat.le_trans (List.length_filter_le _ _) (h.inv.len q hq), fun q hq l hl => h.inv.nn q hq l (List.mem_filter.1 hl).1⟩,
    fun q hq l hl => h.wf q hq l (List.mem_filter.1 hl).1, fun q hq => (h.ne q hq).filter _⟩
theorem invl_drop {M : Nat -> List (LnX Int)} (a n : Int) (h : InvL M) : InvL (dropM M a n) := invl_filter _ h
theorem invl_flush {M : Nat -> List (LnX Int)} (a : Int) (h : InvL M) : InvL (flushM M a) := invl_filter _ h
theorem evict_ways (M : Nat -> List (LnX Int)) (p : Int) : evictM M p = M ∨ ∃ l : (LnX Int), evictM M p = dropM M l.1 l.2.1 := by
  unfold evictM
  split
  · exact .inl rfl
  · exact .inr ⟨_, rfl⟩
theorem invl_evict {M : Nat -> List (LnX Int)} (p : Int) (h : InvL M) : InvL (evictM M p) := by
  rcases evict_ways M p with e | ⟨l, e⟩
  · rw [e]; exact h
  · rw [e]; exact invl_drop _ _ h
theorem drop_ne {M : Nat -> List (LnX Int)} {a n : Int} {r : Nat} {l : (LnX Int)} (h : l ∈ dropM M a n r) : ¬ (l.1 = a /\ l.2.1 = n) := by
  have := (List.mem_filter.1 h).2
  simp at this
  rintro ⟨e1, e2⟩
  rcases this with h | h
  · exact h e1
  · exact h e2
theorem mem_put2 {M : Nat -> List (LnX Int)} {q r : Nat} {l k : (LnX Int)} (h : k ∈ lputM M q l r) : (k ∈ M r /\ pageNe k l) ∨ (r = q /\ k = l) := by
  rcases putM_ways M q l with e | ⟨x, _, e⟩
  · rw [e] at h
    rcases mem_add h with h | h
    · exact .inl ⟨mem_drop h, drop_ne h⟩
    · exact .inr h
  · rw [e] at h
    rcases mem_add h with h | h
    · exact .inl ⟨mem_drop (mem_drop h), drop_ne (mem_drop h)⟩
    · exact .inr h
theorem pw_add {D : Nat -> List (LnX Int)} {q r : Nat} {l : (LnX Int)} (h : (D r).Pairwise pageNe) (hl : ∀ k ∈ D r, pageNe k l) : (addM D q l r).Pairwise pageNe := by
  unfold addM
  by_cases e : r = q
  · subst e
    rw [if_pos rfl, List.pairwise_append]
    exact ⟨h, List.pairwise_singleton _ _, fun a ha b hb => by rw [List.mem_singleton.1 hb]; exact hl a ha⟩
  · rw [if_neg e]
    exact h
theorem invl_put {M : Nat -> List (LnX Int)} {q : Nat} {l : (LnX Int)} (h : InvL M) (hl : l.2.1 % 4 = (q : Int)) (hw : Wfl l) : InvL (lputM M q l) := by
  refine ⟨inv_put h.inv hl hw.2.1.1, fun r hr k hk => ?_, fun r hr => ?_⟩
  · rcases mem_put2 hk with ⟨hk, _⟩ | ⟨_, rfl⟩
    · exact h.wf r hr k hk
    · exact hw
  · rcases putM_ways M q l with e | ⟨x, _, e⟩
    · rw [e]
      exact pw_add ((h.ne r hr).filter _) (fun k hk => drop_ne hk)
    · rw [e]
      exact pw_add (((h.ne r hr).filter _).filter _) (fun k hk => drop_ne (mem_drop hk))
theorem upF_ne {M : Nat -> List (LnX Int)} (h : InvL M) : ∀ k, k ≤ 4 -> (upF M k).Pairwise pageNe
  | 0, _ => List.Pairwise.nil
  | k + 1, hk => by
    show (upF M k ++ M k).Pairwise _
    rw [List.pairwise_append]
    refine ⟨upF_ne h k (by omega), h.ne k (by omega), fun a ha b hb e => ?_⟩
    obtain ⟨q, hq, hl⟩ := mem_upF ha
    have h1 := h.inv.sets q (by omega) a hl
    have h2 := h.inv.sets k (by omega) b hb
    rw [e.2, h2] at h1
    omega
end Go.Proofs.YtkajndonefkegaaDoor

namespace Go.Proofs.YtkajndonefkegaaDoor
open Go.RowKit

theorem upF4 (M : Nat -> List (LnX Int)) : upF M 4 = M 0 ++ (M 1 ++ (M 2 ++ M 3)) := by
  show ((([] ++ M 0) ++ M 1) ++ M 2) ++ M 3 = _
  simp
theorem upF_filter (M : Nat -> List (LnX Int)) (p : (LnX Int) -> Bool) : ∀ k, (upF M k).filter p = upF (fun q => (M q).filter p) k
  | 0 => rfl
  | k + 1 => by
    show (upF M k ++ M k).filter p = upF _ k ++ (M k).filter p
    rw [List.filter_append, upF_filter M p k]
theorem ref_drop (M : Nat -> List (LnX Int)) (a n : Int) : rdropF a n (upF M 4) = upF (dropM M a n) 4 := upF_filter M _ 4
theorem ref_flush (M : Nat -> List (LnX Int)) (a : Int) : rflushF a (upF M 4) = upF (flushM M a) 4 := upF_filter M _ 4
theorem ref_clear (M : Nat -> List (LnX Int)) : upF (clearM M) 4 = [] := by
  rw [upF4]
  unfold clearM
  simp
theorem find_else {M : Nat -> List (LnX Int)} (h : InSets M) {a n : Int} {q r : Nat} (hn : n % 4 = (q : Int)) (hr : r < 4) (hne : r ≠ q) : (M r).find? (pageQ a n) = none := by
  rw [List.find?_eq_none]
  intro l hl e
  have h1 := h r hr l hl
  unfold pageQ at e
  rw [Bool.and_eq_true] at e
  have e2 : l.2.1 = n := by simpa using e.2
  rw [e2, hn] at h1
  omega
theorem ref_look {M : Nat -> List (LnX Int)} (h : InSets M) (a n : Int) (q : Nat) (hn : n % 4 = (q : Int)) (hq : q < 4) : (upF M 4).find? (pageQ a n) = (M q).find? (pageQ a n) := by
  rw [upF4, List.find?_append, List.find?_append, List.find?_append]
  have : q = 0 ∨ q = 1 ∨ q = 2 ∨ q = 3 := by omega
  rcases this with rfl | rfl | rfl | rfl
  · rw [find_else h hn (r := 1) (by omega) (by omega), find_else h hn (r := 2) (by omega) (by omega), find_else h hn (r := 3) (by omega) (by omega)]
    simp
  · rw [find_else h hn (r := 0) (by omega) (by omega), find_else h hn (r := 2) (by omega) (by omega), find_else h hn (r := 3) (by omega) (by omega)]
    simp
  · rw [find_else h hn (r := 0) (by omega) (by omega), find_else h hn (r := 1) (by omega) (by omega), find_else h hn (r := 3) (by omega) (by omega)]
    simp
  · rw [find_else h hn (r := 0) (by omega) (by omega), find_else h hn (r := 1) (by omega) (by omega), find_else h hn (r := 2) (by omega) (by omega)]
    simp
theorem del_drop : ∀ (L : List (LnX Int)) (k : Nat) (l : (LnX Int)), L.Pairwise pageNe -> L[k]? = some l -> delF k L = rdropF l.1 l.2.1 L
  | [], k, l, _, h => by simp at h
  | x :: L, 0, l, hp, h => by
    simp only [List.getElem?_cons_zero, Option.some.injEq] at h
    subst h
    show L = List.filter _ (x :: L)
    rw [List.filter_cons_of_neg (by simp)]
    rw [List.filter_eq_self.2]
    intro y hy
    have := (List.pairwise_cons.1 hp).1 y hy
    by_cases e : y.1 = x.1
    · by_cases e2 : y.2.1 = x.2.1
      · exact absurd ⟨e.symm, e2.symm⟩ this
      · simp [e2]
    · simp [e]
  | x :: L, k + 1, l, hp, h => by
    have h1 : L[k]? = some l := by simpa using h
    have h2 := del_drop L k l (List.pairwise_cons.1 hp).2 h1
    have hx := (List.pairwise_cons.1 hp).1 l (List.mem_of_getElem? h1)
    show x :: (L.take k ++ L.drop (k + 1)) = List.filter _ (x :: L)
    rw [List.filter_cons_of_pos]
    · rw [show L.take k ++ L.drop (k + 1) = delF k L from rfl, h2]
      rfl
    · by_cases e : x.1 = l.1
      · by_cases e2 : x.2.1 = l.2.1
        · exact absurd ⟨e, e2⟩ hx
        · simp [e2]
      · simp [e]
theorem ref_evict {M : Nat -> List (LnX Int)} (h : InvL M) (p : Int) (k : Nat) (h0 : 0 < (upF M 4).length) (hk : p % ((upF M 4).length : Int) = (k : Int)) : delF k (upF M 4) = upF (evictM M p) 4 := by
  have hlt : p % ((upF M 4).length : Int) < ((upF M 4).length : Int) := Int.emod_lt_of_pos _ (by omega)
  unfold evictM
  rw [hk, Int.toNat_natCast, List.getElem?_eq_getElem (by omega)]
  show _ = upF (dropM M _ _) 4
  rw [del_drop _ k _ (upF_ne h 4 (by omega)) (List.getElem?_eq_getElem (by omega)), ref_drop]
theorem ref_evict0 (M : Nat -> List (LnX Int)) (p : Int) (h0 : upF M 4 = []) : upF (evictM M p) 4 = [] := by
  unfold evictM
  rw [h0]
  exact h0

/-! Put -/
theorem fold_lt (q : Int) : ∀ (B : List (LnX Int)) (n : Nat) (f : Int) (i : Nat), (∀ x ∈ B, x.2.1 % 4 < q) -> B.foldl (stepF q) (n, f, i, i) = (n, f, i + B.length, i + B.length)
  | [], n, f, i, _ => rfl
  | x :: B, n, f, i, h => by
    have hx := h x (by simp)
    show B.foldl (stepF q) (stepF q (n, f, i, i) x) = _
    have e : stepF q (n, f, i, i) x = (n, f, i + 1, i + 1) := by
      unfold stepF
      rw [if_neg (by omega), if_neg (by omega), if_pos (by omega)]
    rw [e, fold_lt q B n f (i + 1) (fun y hy => h y (by simp [hy])), List.length_cons]
    simp only [Prod.mk.injEq, true_and]
    omega
theorem fold_eq (q : Int) : ∀ (B : List (LnX Int)) (n : Nat) (f : Int) (i : Nat), (∀ x ∈ B, x.2.1 % 4 = q) -> B.foldl (stepF q) (n, f, i, i) = (n + B.length, if B = [] then f else if f < 0 then (i : Int) else f, i + B.length, i + B.length)
  | [], n, f, i, _ => by rw [if_pos rfl]; rfl
  | x :: B, n, f, i, h => by
    have hx := h x (by simp)
    show B.foldl (stepF q) (stepF q (n, f, i, i) x) = _
    have e : stepF q (n, f, i, i) x = (n + 1, if f < 0 then (i : Int) else f, i + 1, i + 1) := by
      unfold stepF
      dsimp only
      rw [if_pos hx, if_pos (by omega : x.2.1 % 4 ≤ q)]
      by_cases e : f < 0
      · rw [if_pos ⟨hx, e⟩, if_pos e]
      · rw [if_neg (fun h => e h.2), if_neg e]
    rw [e, fold_eq q B _ _ (i + 1) (fun y hy => h y (by simp [hy])), List.length_cons, if_neg (List.cons_ne_nil _ _)]
    refine Prod.ext ?_ (Prod.ext ?_ (Prod.ext ?_ ?_))
    · dsimp only; omega
    · dsimp only
      by_cases e1 : B = []
      · rw [if_pos e1]
      · rw [if_neg e1]
        by_cases e2 : f < 0
        · rw [if_pos e2, if_neg (by omega)]
        · rw [if_neg e2, if_neg e2]
    · dsimp only; omega
    · dsimp only; omega
theorem fold_gt (q : Int) : ∀ (B : List (LnX Int)) (n : Nat) (f : Int) (t i : Nat), (∀ x ∈ B, q < x.2.1 % 4) -> B.foldl (stepF q) (n, f, t, i) = (n, f, t, i + B.length)
  | [], n, f, t, i, _ => rfl
  | x :: B, n, f, t, i, h => by
    have hx := h x (by simp)
    show B.foldl (stepF q) (stepF q (n, f, t, i) x) = _
    have e : stepF q (n, f, t, i) x = (n, f, t, i + 1) := by
      unfold stepF
      rw [if_neg (by omega), if_neg (by omega), if_neg (by omega)]
    rw [e, fold_gt q B n f t (i + 1) (fun y hy => h y (by simp [hy])), List.length_cons]
    simp only [Prod.mk.injEq, true_and]
    omega
theorem foldF_app (q : Int) (A B : List (LnX Int)) : foldF q (A ++ B) = B.foldl (stepF q) (foldF q A) := by
  unfold foldF
  rw [List.foldl_append]
theorem fold_low {D : Nat -> List (LnX Int)} (h : InSets D) (q : Nat) : ∀ k, k ≤ q -> k ≤ 4 -> foldF q (upF D k) = (0, -1, (upF D k).length, (upF D k).length)
  | 0, _, _ => rfl
  | k + 1, hk, h4 => by
    show foldF q (upF D k ++ D k) = (0, -1, (upF D k ++ D k).length, (upF D k ++ D k).length)
    rw [foldF_app, fold_low h q k (by omega) (by omega), fold_lt _ _ _ _ _ (fun x hx => by rw [h k (by omega) x hx]; omega), List.length_append]
theorem fold_at {D : Nat -> List (LnX Int)} (h : InSets D) (q : Nat) (hq : q < 4) : foldF q (upF D (q + 1)) = ((D q).length, if D q = [] then -1 else ((upF D q).length : Int), (upF D (q + 1)).length, (upF D (q + 1)).length) := by
  show foldF q (upF D q ++ D q) = (_, _, (upF D q ++ D q).length, (upF D q ++ D q).length)
  rw [foldF_app, fold_low h q q (Nat.le_refl _) (by omega), fold_eq _ _ _ _ _ (fun x hx => h q hq x hx), List.length_append, Nat.zero_add, if_pos (show (-1 : Int) < 0 by decide)]
theorem fold_all {D : Nat -> List (LnX Int)} (h : InSets D) (q : Nat) (hq : q < 4) : ∀ k, q + 1 + k ≤ 4 -> foldF q (upF D (q + 1 + k)) = ((D q).length, if D q = [] then -1 else ((upF D q).length : Int), (upF D (q + 1)).length, (upF D (q + 1 + k)).length)
  | 0, _ => fold_at h q hq
  | k + 1, hk => by
    show foldF q (upF D (q + 1 + k) ++ D (q + 1 + k)) = (_, _, _, (upF D (q + 1 + k) ++ D (q + 1 + k)).length)
    rw [foldF_app, fold_all h q hq k (by omega), fold_gt _ _ _ _ _ _ (fun x hx => by rw [h (q + 1 + k) (by omega) x hx]; omega), List.length_append]
theorem fold_upF {D : Nat -> List (LnX Int)} (h : InSets D) (q : Nat) (hq : q < 4) : foldF q (upF D 4) = ((D q).length, if D q = [] then -1 else ((upF D q).length : Int), (upF D (q + 1)).length, (upF D 4).length) := by
  have := fold_all h q hq (3 - q) (by omega)
  rw [show q + 1 + (3 - q) = 4 by omega] at this
  exact this
theorem addM_else (D : Nat -> List (LnX Int)) (q : Nat) (l : (LnX Int)) (r : Nat) (h : r ≠ q) : addM D q l r = D r := by unfold addM; rw [if_neg h]
theorem addM_same (D : Nat -> List (LnX Int)) (q : Nat) (l : (LnX Int)) : addM D q l q = D q ++ [l] := by unfold addM; rw [if_pos rfl]
theorem upF_low (D : Nat -> List (LnX Int)) (q : Nat) (l : (LnX Int)) : ∀ k, k ≤ q -> upF (addM D q l) k = upF D k
  | 0, _ => rfl
  | k + 1, hk => by
    show upF (addM D q l) k ++ addM D q l k = upF D k ++ D k
    rw [upF_low D q l k (by omega), addM_else D q l k (by omega)]
theorem upF_high (D : Nat -> List (LnX Int)) (q : Nat) (l : (LnX Int)) : ∀ k, ∃ E, upF D (q + 1 + k) = upF D (q + 1) ++ E /\ upF (addM D q l) (q + 1 + k) = upF D (q + 1) ++ [l] ++ E
  | 0 => by
    refine ⟨[], (List.append_nil _).symm, ?_⟩
    show upF (addM D q l) q ++ addM D q l q = (upF D q ++ D q) ++ [l] ++ []
    rw [upF_low D q l q (Nat.le_refl _), addM_same]
    simp
  | k + 1 => by
    obtain ⟨E, h1, h2⟩ := upF_high D q l k
    refine ⟨E ++ D (q + 1 + k), ?_, ?_⟩
    · show upF D (q + 1 + k) ++ D (q + 1 + k) = _
      rw [h1, List.append_assoc]
    · show upF (addM D q l) (q + 1 + k) ++ addM D q l (q + 1 + k) = _
      rw [h2, addM_else D q l _ (by omega)]
      simp
theorem ins_upF (D : Nat -> List (LnX Int)) (q : Nat) (hq : q < 4) (l : (LnX Int)) : insF (upF D (q + 1)).length l (upF D 4) = upF (addM D q l) 4 := by
  obtain ⟨E, h1, h2⟩ := upF_high D q l (3 - q)
  rw [show q + 1 + (3 - q) = 4 by omega] at h1 h2
  unfold insF
  rw [h1, h2, List.take_left, List.drop_left]
theorem upF_nth (D : Nat -> List (LnX Int)) (q : Nat) (hq : q < 4) (x y l : (LnX Int)) (hD : D q = [x, y]) : (upF (addM D q l) 4)[(upF D q).length]? = some x := by
  obtain ⟨E, _, h2⟩ := upF_high D q l (3 - q)
  rw [show q + 1 + (3 - q) = 4 by omega] at h2
  rw [h2, show upF D (q + 1) = upF D q ++ D q from rfl, hD]
  rw [List.append_assoc, List.append_assoc, List.getElem?_append_right (Nat.le_refl _), Nat.sub_self]
  rfl
theorem upF_congr {M M' : Nat -> List (LnX Int)} : ∀ k, (∀ q, q < k -> M q = M' q) -> upF M k = upF M' k
  | 0, _ => rfl
  | k + 1, h => by
    show upF M k ++ M k = upF M' k ++ M' k
    rw [upF_congr k (fun q hq => h q (by omega)), h k (by omega)]
theorem add_ne {D : Nat -> List (LnX Int)} (h : InvL D) (q : Nat) (hq : q < 4) (l : (LnX Int)) (hl : l.2.1 % 4 = (q : Int)) (hne : ∀ k ∈ D q, pageNe k l) : (upF (addM D q l) 4).Pairwise pageNe := by
  obtain ⟨E, h1, h2⟩ := upF_high D q l (3 - q)
  rw [show q + 1 + (3 - q) = 4 by omega] at h1 h2
  have hp := upF_ne h 4 (by omega)
  have hall : ∀ k ∈ upF D 4, pageNe k l := fun k hk => by
    obtain ⟨r, hr, hm⟩ := mem_upF hk
    by_cases e : r = q
    · subst e
      exact hne k hm
    · rintro ⟨_, e2⟩
      have := h.inv.sets r hr k hm
      rw [e2, hl] at this
      omega
  rw [h1] at hp hall
  rw [h2, List.append_assoc, List.pairwise_append]
  obtain ⟨p1, p2, p3⟩ := List.pairwise_append.1 hp
  refine ⟨p1, ?_, fun a ha b hb => ?_⟩
  · rw [List.singleton_append, List.pairwise_cons]
    exact ⟨fun b hb e => hall b (by simp [hb]) ⟨e.1.symm, e.2.symm⟩, p2⟩
  · rcases List.mem_append.1 hb with hb | hb
    · rw [List.mem_singleton.1 hb]
      exact hall a (by simp [ha])
    · exact p3 a ha b hb
theorem ref_put {M : Nat -> List (LnX Int)} (h : InvL M) (q : Nat) (hq : q < 4) (l : (LnX Int)) (hl : l.2.1 % 4 = (q : Int)) : putF (q : Int) l (upF M 4) = upF (lputM M q l) 4 := by
  have hD := invl_drop l.1 l.2.1 h
  have hf := fold_upF hD.inv.sets q hq
  unfold putF
  rw [ref_drop, hf]
  dsimp only
  rw [ins_upF _ q hq l]
  unfold lputM
  have hlen := hD.inv.len q hq
  have hnl : ∀ k ∈ dropM M l.1 l.2.1 q, pageNe k l := fun k hk => drop_ne hk
  generalize hg : dropM M l.1 l.2.1 = D at *
  match hm : D q, hlen with
  | [], _ => rw [if_neg (by simp)]
  | [x], _ => rw [if_neg (by simp)]
  | [x, y], _ =>
    rw [if_pos (show [x, y].length = 2 from rfl), if_neg (by simp), Int.toNat_natCast, del_drop _ _ _ (add_ne hD q hq l hl hnl) (upF_nth D q hq x y l hm)]
    show rdropF x.1 x.2.1 (upF (addM D q l) 4) = upF (addM (dropM D x.1 x.2.1) q l) 4
    rw [ref_drop]
    refine upF_congr 4 (fun r hr => ?_)
    by_cases e : r = q
    · subst e
      have hx := hnl x (by rw [hm]; simp)
      show (addM D r l r).filter _ = _
      rw [addM_same, addM_same, List.filter_append, List.filter_cons_of_pos]
      · rfl
      · by_cases e1 : l.1 = x.1
        · by_cases e2 : l.2.1 = x.2.1
          · exact absurd ⟨e1.symm, e2.symm⟩ hx
          · simp [e2]
        · simp [e1]
    · show (addM D q l r).filter _ = _
      rw [addM_else _ _ _ _ e, addM_else _ _ _ _ e]
      rfl
end Go.Proofs.YtkajndonefkegaaDoor

namespace Go.Proofs.YtkajndonefkegaaDoor
open Go.RowKit

def toF (G : Int -> Fd) (l : LnX Int) : Ln := (l.1, l.2.1, G l.2.2)
def keptM (G : Int -> Fd) (K : Nat -> List (LnX Int)) : Nat -> List Ln := fun q => (K q).map (toF G)
theorem drop_map (G : Int -> Fd) (K : Nat -> List (LnX Int)) (a n : Int) : dropM (keptM G K) a n = keptM G (dropM K a n) := by
  funext q
  show List.filter _ ((K q).map (toF G)) = (List.filter _ (K q)).map (toF G)
  rw [List.filter_map]
  rfl
theorem flush_map (G : Int -> Fd) (K : Nat -> List (LnX Int)) (a : Int) : flushM (keptM G K) a = keptM G (flushM K a) := by
  funext q
  show List.filter _ ((K q).map (toF G)) = (List.filter _ (K q)).map (toF G)
  rw [List.filter_map]
  rfl
theorem clear_map (G : Int -> Fd) (K : Nat -> List (LnX Int)) : clearM (keptM G K) = keptM G (clearM K) := by
  funext q
  show List.filter _ ((K q).map (toF G)) = (List.filter _ (K q)).map (toF G)
  rw [List.filter_map]
  rfl
theorem upF_map (G : Int -> Fd) (K : Nat -> List (LnX Int)) : ∀ k, upF (keptM G K) k = (upF K k).map (toF G)
  | 0 => rfl
  | k + 1 => by
    show upF (keptM G K) k ++ (K k).map (toF G) = (upF K k ++ K k).map (toF G)
    rw [upF_map G K k, List.map_append]
theorem find_map (G : Int -> Fd) (K : Nat -> List (LnX Int)) (q : Nat) (a n : Int) : (keptM G K q).find? (pageQ a n) = ((K q).find? (pageQ a n)).map (toF G) := by
  show ((K q).map (toF G)).find? _ = _
  rw [List.find?_map]
  rfl
theorem evict_map (G : Int -> Fd) (K : Nat -> List (LnX Int)) (p : Int) : evictM (keptM G K) p = keptM G (evictM K p) := by
  unfold evictM
  rw [upF_map, List.length_map, List.getElem?_map]
  cases (upF K 4)[(p % ((upF K 4).length : Int)).toNat]? with
  | none => rfl
  | some l => exact drop_map G K l.1 l.2.1
theorem add_map (G : Int -> Fd) (K : Nat -> List (LnX Int)) (q : Nat) (l : LnX Int) : addM (keptM G K) q (toF G l) = keptM G (addM K q l) := by
  funext r
  unfold addM
  by_cases e : r = q
  · rw [if_pos e]
    show (K q).map (toF G) ++ [toF G l] = (if r = q then K q ++ [l] else K r).map (toF G)
    rw [if_pos e, List.map_append]
    rfl
  · rw [if_neg e]
    show _ = (if r = q then K q ++ [l] else K r).map (toF G)
    rw [if_neg e]
    rfl
theorem lput_map (G : Int -> Fd) (K : Nat -> List (LnX Int)) (q : Nat) (a n x : Int) : lputM (keptM G K) q (a, n, G x) = keptM G (lputM K q (a, n, x)) := by
  unfold lputM
  dsimp only
  rw [drop_map]
  generalize dropM K a n = D
  have hk : keptM G D q = (D q).map (toF G) := rfl
  rw [hk]
  match D q with
  | [] => exact add_map G _ q (a, n, x)
  | [y] => exact add_map G _ q (a, n, x)
  | [y, z] =>
    show addM (dropM (keptM G D) y.1 y.2.1) q (toF G (a, n, x)) = _
    rw [drop_map]
    exact add_map G _ q (a, n, x)
  | _ :: _ :: _ :: _ => exact add_map G _ q (a, n, x)
def Idx (K : Nat -> List (LnX Int)) (n : Nat) : Prop := ∀ q, ∀ l ∈ K q, 0 ≤ l.2.2 /\ l.2.2 < (n : Int)
theorem idx_nil (n : Nat) : Idx (fun _ => []) n := fun q l hl => by simp at hl
theorem idx_sub {K K' : Nat -> List (LnX Int)} {n : Nat} (h : Idx K n) (hs : ∀ q, ∀ l ∈ K' q, l ∈ K q) : Idx K' n := fun q l hl => h q l (hs q l hl)
theorem map_congr {G G' : Int -> Fd} {K : Nat -> List (LnX Int)} {n : Nat} (h : Idx K n) (hg : ∀ x : Int, 0 ≤ x -> x < (n : Int) -> G x = G' x) : keptM G K = keptM G' K := by
  funext q
  refine List.map_congr_left fun l hl => ?_
  have := h q l hl
  unfold toF
  rw [hg _ this.1 this.2]
end Go.Proofs.YtkajndonefkegaaDoor

namespace Go.Proofs.YtkajndonefkegaaDoor
open Go.RowKit

theorem rput_any (v : Value) (a n x : Int) (q : Nat) (L : List (LnX Int)) (hn : n % 4 = (q : Int)) (h0 : 0 ≤ n) (hL : ∀ l ∈ L, 0 ≤ l.2.1) (hl : L.length ≤ 900) (w : World) (h : RefT w v L) :
    Calls Tryd.prog 40 #[v, .agg #[.int .u64 a, .int .u64 n, .int .u64 x]] w (GivesT (putF (q : Int) (a, n, x) L) w) :=
  rput_let v a n x (q : Int) L (rdropF a n L) (fun l hl => hL l (List.mem_filter.1 hl).1) h0 hn (Nat.le_trans (List.length_filter_le _ _) hl) _ rfl w h (fun W hW => rdrop_any v a n L (by omega) W hW)
end Go.Proofs.YtkajndonefkegaaDoor
