/-
  What is kept of each page, told by a function from pages; the lines that are met.
-/
import Derived.Test.YtikdoknfcikfgaaTlbMath
import Derived.Test.YtikdoknfcikfgaaTlbMap
import Derived.Test.YtikdoknfcikfgaaTlb9
namespace Go.Proofs.Ytikdoknfcikfgaa
open Go.RowKit

def Wfl (l : Ln) : Prop := Wf l.1 ∧ Wf l.2.1 ∧ Wf l.2.2
def pageNe (x y : Ln) : Prop := ¬ (x.1 = y.1 ∧ x.2.1 = y.2.1)
/-- What a buffer's lists keep: besides, no two lines are of one page. -/
structure InvL (M : Nat → List Ln) : Prop where
  inv : Inv M
  wf : ∀ q, q < 4 → ∀ l ∈ M q, Wfl l
  ne : ∀ q, q < 4 → (M q).Pairwise pageNe
theorem invl_nil : InvL (fun _ => []) := ⟨inv_nil, fun q hq l hl => by simp at hl, fun q hq => List.Pairwise.nil⟩
theorem invl_filter {M : Nat → List Ln} (p : Ln → Bool) (h : InvL M) : InvL (fun q => (M q).filter p) :=
  ⟨⟨fun q hq l hl => h.inv.sets q hq l (List.mem_filter.1 hl).1, fun q hq => Nat.le_trans (List.length_filter_le _ _) (h.inv.len q hq), fun q hq l hl => h.inv.nn q hq l (List.mem_filter.1 hl).1⟩,
    fun q hq l hl => h.wf q hq l (List.mem_filter.1 hl).1, fun q hq => (h.ne q hq).filter _⟩
theorem invl_drop {M : Nat → List Ln} (a n : Int) (h : InvL M) : InvL (dropM M a n) := invl_filter _ h
theorem invl_flush {M : Nat → List Ln} (a : Int) (h : InvL M) : InvL (flushM M a) := invl_filter _ h
theorem evict_ways (M : Nat → List Ln) (p : Int) : evictM M p = M ∨ ∃ l : Ln, evictM M p = dropM M l.1 l.2.1 := by
  unfold evictM
  split
  · exact .inl rfl
  · exact .inr ⟨_, rfl⟩
theorem invl_evict {M : Nat → List Ln} (p : Int) (h : InvL M) : InvL (evictM M p) := by
  rcases evict_ways M p with e | ⟨l, e⟩
  · rw [e]; exact h
  · rw [e]; exact invl_drop _ _ h
theorem drop_ne {M : Nat → List Ln} {a n : Int} {r : Nat} {l : Ln} (h : l ∈ dropM M a n r) : ¬ (l.1 = a ∧ l.2.1 = n) := by
  have := (List.mem_filter.1 h).2
  simp at this
  rintro ⟨e1, e2⟩
  rcases this with h | h
  · exact h e1
  · exact h e2
theorem mem_put2 {M : Nat → List Ln} {q r : Nat} {l k : Ln} (h : k ∈ putM M q l r) : (k ∈ M r ∧ pageNe k l) ∨ (r = q ∧ k = l) := by
  rcases putM_ways M q l with e | ⟨x, _, e⟩
  · rw [e] at h
    rcases mem_add h with h | h
    · exact .inl ⟨mem_drop h, drop_ne h⟩
    · exact .inr h
  · rw [e] at h
    rcases mem_add h with h | h
    · exact .inl ⟨mem_drop (mem_drop h), drop_ne (mem_drop h)⟩
    · exact .inr h
theorem pw_add {D : Nat → List Ln} {q r : Nat} {l : Ln} (h : (D r).Pairwise pageNe) (hl : ∀ k ∈ D r, pageNe k l) : (addM D q l r).Pairwise pageNe := by
  unfold addM
  by_cases e : r = q
  · subst e
    rw [if_pos rfl, List.pairwise_append]
    exact ⟨h, List.pairwise_singleton _ _, fun a ha b hb => by rw [List.mem_singleton.1 hb]; exact hl a ha⟩
  · rw [if_neg e]
    exact h
theorem invl_put {M : Nat → List Ln} {q : Nat} {l : Ln} (h : InvL M) (hl : l.2.1 % 4 = (q : Int)) (hw : Wfl l) : InvL (putM M q l) := by
  refine ⟨inv_put h.inv hl hw.2.1.1, fun r hr k hk => ?_, fun r hr => ?_⟩
  · rcases mem_put2 hk with ⟨hk, _⟩ | ⟨_, rfl⟩
    · exact h.wf r hr k hk
    · exact hw
  · rcases putM_ways M q l with e | ⟨x, _, e⟩
    · rw [e]
      exact pw_add ((h.ne r hr).filter _) (fun k hk => drop_ne hk)
    · rw [e]
      exact pw_add (((h.ne r hr).filter _).filter _) (fun k hk => drop_ne (mem_drop hk))
/-- What is kept of a page is what h says of it. -/
def Last (M : Nat → List Ln) (h : Int → Int → Option Int) : Prop := ∀ q, q < 4 → ∀ l ∈ M q, h l.1 l.2.1 = some l.2.2
theorem last_nil (h : Int → Int → Option Int) : Last (fun _ => []) h := fun q hq l hl => by simp at hl
theorem last_sub {M M' : Nat → List Ln} {h : Int → Int → Option Int} (H : Last M h) (hs : ∀ q, ∀ l ∈ M' q, l ∈ M q) : Last M' h := fun q hq l hl => H q hq l (hs q l hl)
theorem last_put {M : Nat → List Ln} {q : Nat} {l : Ln} {h : Int → Int → Option Int} (H : Last M h) : Last (putM M q l) (upd2 h l.1 l.2.1 (some l.2.2)) := fun r hr k hk => by
  unfold upd2
  rcases mem_put2 hk with ⟨hk, hne⟩ | ⟨_, rfl⟩
  · rw [if_neg hne]
    exact H r hr k hk
  · rw [if_pos ⟨rfl, rfl⟩]
theorem last_drop {M : Nat → List Ln} {a n : Int} {h : Int → Int → Option Int} (H : Last M h) : Last (dropM M a n) (upd2 h a n none) := fun r hr k hk => by
  unfold upd2
  rw [if_neg (drop_ne hk)]
  exact H r hr k (mem_drop hk)
theorem last_flush {M : Nat → List Ln} {a : Int} {h : Int → Int → Option Int} (H : Last M h) : Last (flushM M a) h := last_sub H (fun _ _ hl => (List.mem_filter.1 hl).1)
theorem last_del {M : Nat → List Ln} {a n : Int} {h : Int → Int → Option Int} (H : Last (flushM M a) h) : Last (flushM M a) (upd2 h a n none) := fun r hr k hk => by
  unfold upd2
  have h1 := (List.mem_filter.1 hk).2
  rw [if_neg (fun e => by rw [e.1] at h1; simp at h1)]
  exact H r hr k hk
theorem last_evict {M : Nat → List Ln} {p : Int} {h : Int → Int → Option Int} (H : Last M h) : Last (evictM M p) h := by
  rcases evict_ways M p with e | ⟨l, e⟩
  · rw [e]; exact H
  · rw [e]; exact last_sub H (fun _ _ hl => mem_drop hl)
/-- The lines' pages, and what is said of them. -/
theorem upF_ne {M : Nat → List Ln} (h : InvL M) : ∀ k, k ≤ 4 → (upF M k).Pairwise pageNe
  | 0, _ => List.Pairwise.nil
  | k + 1, hk => by
    show (upF M k ++ M k).Pairwise _
    rw [List.pairwise_append]
    refine ⟨upF_ne h k (by omega), h.ne k (by omega), fun a ha b hb e => ?_⟩
    obtain ⟨q, hq, hl⟩ := mem_upF ha
    have h1 := h.inv.sets q (by omega) a hl
    have h2 := h.inv.sets k (by omega) b hb
    rw [e.2, h2] at h1
    omega
def seenS (L : List Ln) (k : Nat) : Int → Int → Bool := fun a n => (L.take k).any (fun l => (l.1 == a) && (l.2.1 == n))
theorem seen_step {L : List Ln} {k : Nat} {l : Ln} (hl : L[k]? = some l) : upd2 (seenS L k) l.1 l.2.1 true = seenS L (k + 1) := by
  funext a n
  unfold upd2 seenS
  rw [List.take_add_one, hl, List.any_append]
  by_cases e : a = l.1 ∧ n = l.2.1
  · obtain ⟨rfl, rfl⟩ := e
    rw [if_pos ⟨rfl, rfl⟩]
    simp
  · rw [if_neg e]
    have : ((l.1 == a) && (l.2.1 == n)) = false := by
      rw [Bool.and_eq_false_iff]
      by_cases e1 : l.1 = a
      · right
        simp
        intro e2
        exact e ⟨e1.symm, e2.symm⟩
      · left
        simpa using e1
    simp [this]
theorem not_seen {L : List Ln} (h : L.Pairwise pageNe) {k : Nat} {l : Ln} (hl : L[k]? = some l) : seenS L k l.1 l.2.1 = false := by
  unfold seenS
  rw [List.any_eq_false]
  intro x hx e
  obtain ⟨hk, rfl⟩ := List.getElem?_eq_some_iff.1 hl
  obtain ⟨j, hj, rfl⟩ := List.getElem_of_mem hx
  rw [List.length_take] at hj
  rw [List.getElem_take] at e
  have := List.pairwise_iff_getElem.1 h j k (by omega) hk (by omega)
  simp at e
  exact this e
theorem find_put {M : Nat → List Ln} {q : Nat} {l : Ln} : ∃ y, (putM M q l q).find? (pageQ l.1 l.2.1) = some y := by
  have hm : l ∈ putM M q l q := by
    rcases putM_ways M q l with e | ⟨x, _, e⟩ <;> rw [e] <;> unfold addM <;> rw [if_pos rfl] <;> simp
  cases hf : (putM M q l q).find? (pageQ l.1 l.2.1) with
  | some y => exact ⟨y, rfl⟩
  | none =>
    have := List.find?_eq_none.1 hf l hm
    simp [pageQ] at this
end Go.Proofs.Ytikdoknfcikfgaa
