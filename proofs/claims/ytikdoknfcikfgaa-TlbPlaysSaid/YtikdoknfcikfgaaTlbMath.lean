/-
  What Put and Lines do to the numbers of a buffer's lines: the sets, their order, how many each has.
-/
import Derived.Test.YtikdoknfcikfgaaTlb10
namespace Go.Proofs.Ytikdoknfcikfgaa
open Go.RowKit

theorem mem_drop {M : Nat → List Ln} {a n : Int} {r : Nat} {l : Ln} (h : l ∈ dropM M a n r) : l ∈ M r := (List.mem_filter.1 h).1
theorem mem_add {D : Nat → List Ln} {q r : Nat} {l k : Ln} (h : k ∈ addM D q l r) : k ∈ D r ∨ (r = q ∧ k = l) := by
  unfold addM at h
  by_cases e : r = q
  · subst e
    rw [if_pos rfl] at h
    rcases List.mem_append.1 h with h | h
    · exact .inl h
    · exact .inr ⟨rfl, by simpa using h⟩
  · rw [if_neg e] at h
    exact .inl h
theorem putM_ways (M : Nat → List Ln) (q : Nat) (l : Ln) : putM M q l = addM (dropM M l.1 l.2.1) q l ∨ ∃ x, x ∈ M q ∧ putM M q l = addM (dropM (dropM M l.1 l.2.1) x.1 x.2.1) q l := by
  unfold putM
  split
  · rename_i x y hD
    exact .inr ⟨x, mem_drop (a := l.1) (n := l.2.1) (by rw [hD]; simp), rfl⟩
  · exact .inl rfl
theorem mem_put {M : Nat → List Ln} {q r : Nat} {l k : Ln} (h : k ∈ putM M q l r) : k ∈ M r ∨ (r = q ∧ k = l) := by
  rcases putM_ways M q l with e | ⟨x, _, e⟩
  · rw [e] at h
    rcases mem_add h with h | h
    · exact .inl (mem_drop h)
    · exact .inr h
  · rw [e] at h
    rcases mem_add h with h | h
    · exact .inl (mem_drop (mem_drop h))
    · exact .inr h
/-- Each line lies in the set of its number. -/
def InSets (M : Nat → List Ln) : Prop := ∀ q, q < 4 → ∀ l ∈ M q, l.2.1 % 4 = (q : Int)
theorem insets_put {M : Nat → List Ln} {q : Nat} {l : Ln} (h : InSets M) (hl : l.2.1 % 4 = (q : Int)) : InSets (putM M q l) := fun r hr k hk => by
  rcases mem_put hk with hk | ⟨rfl, rfl⟩
  · exact h r hr k hk
  · exact hl
theorem drop_keep {M : Nat → List Ln} {a n : Int} {r : Nat} (h : ∀ l ∈ M r, l.2.1 ≠ n) : dropM M a n r = M r := by
  unfold dropM
  rw [List.filter_eq_self]
  intro l hl
  have := h l hl
  simp [this]
theorem put_keep {M : Nat → List Ln} {q r : Nat} {l : Ln} (h : InSets M) (hl : l.2.1 % 4 = (q : Int)) (hq : q < 4) (hr : r < 4) (hne : r ≠ q) : putM M q l r = M r := by
  have h1 : dropM M l.1 l.2.1 r = M r := drop_keep (fun k hk e => by have := h r hr k hk; rw [e, hl] at this; omega)
  rcases putM_ways M q l with e | ⟨x, hx, e⟩
  · rw [e]
    unfold addM
    rw [if_neg hne, h1]
  · have h2 : dropM (dropM M l.1 l.2.1) x.1 x.2.1 r = dropM M l.1 l.2.1 r := drop_keep (fun k hk e => by
      have h3 := h r hr k (mem_drop hk)
      have h4 := h q hq x hx
      rw [e, h4] at h3
      omega)
    rw [e]
    unfold addM
    rw [if_neg hne, h2, h1]

theorem len_put {M : Nat → List Ln} {q : Nat} {l : Ln} (h : ∀ r, r < 4 → (M r).length ≤ 2) : ∀ r, r < 4 → (putM M q l r).length ≤ 2 := fun r hr => by
  by_cases e : r = q
  · subst e
    rw [putM_at]
    unfold putL
    have hl := Nat.le_trans (List.length_filter_le (fun k : Ln => !((k.1 == l.1) && (k.2.1 == l.2.1))) (M r)) (h r hr)
    generalize List.filter (fun k : Ln => !((k.1 == l.1) && (k.2.1 == l.2.1))) (M r) = D at hl ⊢
    match D, hl with
    | [], _ => simp
    | [x], _ => simp
    | [x, y], _ =>
      show (List.filter _ [x, y] ++ [l]).length ≤ 2
      rw [List.filter_cons_of_neg (by simp), List.length_append]
      have := List.length_filter_le (fun k : Ln => !((k.1 == x.1) && (k.2.1 == x.2.1))) [y]
      simp at this ⊢
      omega
  · have h1 := h r hr
    rcases putM_ways M q l with e1 | ⟨x, _, e1⟩
    · rw [e1]
      unfold addM
      rw [if_neg e]
      exact Nat.le_trans (List.length_filter_le _ _) h1
    · rw [e1]
      unfold addM
      rw [if_neg e]
      exact Nat.le_trans (List.length_filter_le _ _) (Nat.le_trans (List.length_filter_le _ _) h1)
/-- What a buffer's lists keep. -/
structure Inv (M : Nat → List Ln) : Prop where
  sets : InSets M
  len : ∀ r, r < 4 → (M r).length ≤ 2
  nn : ∀ r, r < 4 → ∀ l ∈ M r, 0 ≤ l.2.1
theorem inv_nil : Inv (fun _ => []) := ⟨fun r hr k hk => by simp at hk, fun r hr => by simp, fun r hr k hk => by simp at hk⟩
theorem inv_put {M : Nat → List Ln} {q : Nat} {l : Ln} (h : Inv M) (hl : l.2.1 % 4 = (q : Int)) (h0 : 0 ≤ l.2.1) : Inv (putM M q l) := ⟨insets_put h.sets hl, len_put h.len, fun r hr k hk => by
  rcases mem_put hk with hk | ⟨_, rfl⟩
  · exact h.nn r hr k hk
  · exact h0⟩

/-! Lines -/
theorem mem_upF {M : Nat → List Ln} {l : Ln} : ∀ {k}, l ∈ upF M k → ∃ q, q < k ∧ l ∈ M q
  | 0, h => by simp [upF] at h
  | k + 1, h => by
    rcases List.mem_append.1 (show l ∈ upF M k ++ M k from h) with h | h
    · obtain ⟨q, hq, hl⟩ := mem_upF h
      exact ⟨q, by omega, hl⟩
    · exact ⟨k, by omega, h⟩
theorem sorted_upF {M : Nat → List Ln} (h : InSets M) : ∀ k, k ≤ 4 → (upF M k).Pairwise (fun a b => a.2.1 % 4 ≤ b.2.1 % 4)
  | 0, _ => List.Pairwise.nil
  | k + 1, hk => by
    show (upF M k ++ M k).Pairwise _
    rw [List.pairwise_append]
    refine ⟨sorted_upF h k (by omega), ?_, fun a ha b hb => ?_⟩
    · rw [List.pairwise_iff_getElem]
      intro i j hi hj _
      rw [h k (by omega) _ (List.getElem_mem hi), h k (by omega) _ (List.getElem_mem hj)]
      exact Int.le_refl _
    · obtain ⟨q, hq, hl⟩ := mem_upF ha
      rw [h q (by omega) _ hl, h k (by omega) _ hb]
      omega
/-- How many of the first k are of set r. -/
def cntS (L : List Ln) (r k : Nat) : Nat := ((L.take k).filter (fun l => l.2.1 % 4 == (r : Int))).length
theorem cnt_all {M : Nat → List Ln} (h : InSets M) (r : Nat) (hr : r < 4) (h2 : (M r).length ≤ 2) : ∀ k, k ≤ 4 → ((upF M k).filter (fun l => l.2.1 % 4 == (r : Int))).length ≤ (if r < k then 2 else 0)
  | 0, _ => by simp [upF]
  | k + 1, hk => by
    have ih := cnt_all h r hr h2 k (by omega)
    show ((upF M k ++ M k).filter _).length ≤ _
    rw [List.filter_append, List.length_append]
    by_cases e : r = k
    · subst e
      rw [if_neg (by omega)] at ih
      rw [if_pos (by omega)]
      have := List.length_filter_le (fun l : Ln => l.2.1 % 4 == (r : Int)) (M r)
      omega
    · have : (M k).filter (fun l => l.2.1 % 4 == (r : Int)) = [] := by
        rw [List.filter_eq_nil_iff]
        intro l hl
        rw [h k (by omega) l hl]
        simp; omega
      rw [this]
      by_cases e2 : r < k
      · rw [if_pos e2] at ih
        rw [if_pos (by omega)]
        simpa using ih
      · rw [if_neg e2] at ih
        rw [if_neg (by omega)]
        simpa using ih
theorem cnt_le {L : List Ln} {r n : Nat} (h : (L.filter (fun l => l.2.1 % 4 == (r : Int))).length ≤ n) (k : Nat) : cntS L r k ≤ n := Nat.le_trans (List.Sublist.length_le ((List.take_sublist k L).filter _)) h
theorem cnt_step {L : List Ln} {r s k : Nat} {l : Ln} (hl : L[k]? = some l) (hs : l.2.1 % 4 = (s : Int)) : cntS L r (k + 1) = if r = s then cntS L r k + 1 else cntS L r k := by
  unfold cntS
  rw [List.take_add_one, hl, List.filter_append, List.length_append]
  show _ + (List.filter _ [l]).length = _
  by_cases e : r = s
  · subst e
    rw [if_pos rfl, List.filter_cons_of_pos (by simp [hs])]
    rfl
  · rw [if_neg e, List.filter_cons_of_neg (by simp [hs]; omega)]
    rfl
theorem sorted_at {L : List Ln} (h : L.Pairwise (fun a b => a.2.1 % 4 ≤ b.2.1 % 4)) {i j : Nat} {a b : Ln} (hi : L[i]? = some a) (hj : L[j]? = some b) (hij : i < j) : a.2.1 % 4 ≤ b.2.1 % 4 := by
  obtain ⟨h1, rfl⟩ := List.getElem?_eq_some_iff.1 hi
  obtain ⟨h2, rfl⟩ := List.getElem?_eq_some_iff.1 hj
  exact List.pairwise_iff_getElem.1 h i j h1 h2 hij
end Go.Proofs.Ytikdoknfcikfgaa
