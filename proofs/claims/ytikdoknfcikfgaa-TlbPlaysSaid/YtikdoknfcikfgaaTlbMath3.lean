/-
  The document's list is the four sets one behind the other: each step does the same to both.
-/
import Derived.Test.YtikdoknfcikfgaaTlbMath2
import Derived.Test.YtikdoknfcikfgaaTlbRef4
namespace Go.Proofs.Ytikdoknfcikfgaa
open Go.RowKit

theorem upF4 (M : Nat → List Ln) : upF M 4 = M 0 ++ (M 1 ++ (M 2 ++ M 3)) := by
  show ((([] ++ M 0) ++ M 1) ++ M 2) ++ M 3 = _
  simp
theorem upF_filter (M : Nat → List Ln) (p : Ln → Bool) : ∀ k, (upF M k).filter p = upF (fun q => (M q).filter p) k
  | 0 => rfl
  | k + 1 => by
    show (upF M k ++ M k).filter p = upF _ k ++ (M k).filter p
    rw [List.filter_append, upF_filter M p k]
theorem ref_drop (M : Nat → List Ln) (a n : Int) : rdropF a n (upF M 4) = upF (dropM M a n) 4 := upF_filter M _ 4
theorem ref_flush (M : Nat → List Ln) (a : Int) : rflushF a (upF M 4) = upF (flushM M a) 4 := upF_filter M _ 4
theorem ref_clear (M : Nat → List Ln) : upF (clearM M) 4 = [] := by
  rw [upF4]
  unfold clearM
  simp
theorem find_else {M : Nat → List Ln} (h : InSets M) {a n : Int} {q r : Nat} (hn : n % 4 = (q : Int)) (hr : r < 4) (hne : r ≠ q) : (M r).find? (pageQ a n) = none := by
  rw [List.find?_eq_none]
  intro l hl e
  have h1 := h r hr l hl
  unfold pageQ at e
  rw [Bool.and_eq_true] at e
  have e2 : l.2.1 = n := by simpa using e.2
  rw [e2, hn] at h1
  omega
theorem ref_look {M : Nat → List Ln} (h : InSets M) (a n : Int) (q : Nat) (hn : n % 4 = (q : Int)) (hq : q < 4) : (upF M 4).find? (pageQ a n) = (M q).find? (pageQ a n) := by
  rw [upF4, List.find?_append, List.find?_append, List.find?_append]
  have : q = 0 ∨ q = 1 ∨ q = 2 ∨ q = 3 := by omega
  rcases this with rfl | rfl | rfl | rfl
  · rw [find_else h hn (r := 1) (by omega) (by omega), find_else h hn (r := 2) (by omega) (by omega), find_else h hn (r := 3) (by omega) (by omega)]
    simp
  · rw [find_else h hn (r := 0) (by omega) (by omega), find_else h hn (r := 2) (by omega) (by omega), find_else h hn (r := 3) (by omega) (by omega)]
    simp
  · rw [find_else h hn (r := 0) (by omega) (by omega), find_else h hn (r := 1) (by omega) (by omega), find_else h hn (r := 3) (by omega) (by omega)]
    simp
  · rw [find_else h hn (r := 0) (by omega) (by omega), find_else h hn (r := 1) (by omega) (by omega), find_else h hn (r := 2) (by omega) (by omega)]
    simp
/-- Of lines of which no two are of one page, those but one page's are those but one place's. -/
theorem del_drop : ∀ (L : List Ln) (k : Nat) (l : Ln), L.Pairwise pageNe → L[k]? = some l → delF k L = rdropF l.1 l.2.1 L
  | [], k, l, _, h => by simp at h
  | x :: L, 0, l, hp, h => by
    simp only [List.getElem?_cons_zero, Option.some.injEq] at h
    subst h
    show L = List.filter _ (x :: L)
    rw [List.filter_cons_of_neg (by simp)]
    rw [List.filter_eq_self.2]
    intro y hy
    have := (List.pairwise_cons.1 hp).1 y hy
    by_cases e : y.1 = x.1
    · by_cases e2 : y.2.1 = x.2.1
      · exact absurd ⟨e.symm, e2.symm⟩ this
      · simp [e2]
    · simp [e]
  | x :: L, k + 1, l, hp, h => by
    have h1 : L[k]? = some l := by simpa using h
    have h2 := del_drop L k l (List.pairwise_cons.1 hp).2 h1
    have hx := (List.pairwise_cons.1 hp).1 l (List.mem_of_getElem? h1)
    show x :: (L.take k ++ L.drop (k + 1)) = List.filter _ (x :: L)
    rw [List.filter_cons_of_pos]
    · rw [show L.take k ++ L.drop (k + 1) = delF k L from rfl, h2]
      rfl
    · by_cases e : x.1 = l.1
      · by_cases e2 : x.2.1 = l.2.1
        · exact absurd ⟨e, e2⟩ hx
        · simp [e2]
      · simp [e]
theorem ref_evict {M : Nat → List Ln} (h : InvL M) (p : Int) (k : Nat) (h0 : 0 < (upF M 4).length) (hk : p % ((upF M 4).length : Int) = (k : Int)) : delF k (upF M 4) = upF (evictM M p) 4 := by
  have hlt : p % ((upF M 4).length : Int) < ((upF M 4).length : Int) := Int.emod_lt_of_pos _ (by omega)
  unfold evictM
  rw [hk, Int.toNat_natCast, List.getElem?_eq_getElem (by omega)]
  show _ = upF (dropM M _ _) 4
  rw [del_drop _ k _ (upF_ne h 4 (by omega)) (List.getElem?_eq_getElem (by omega)), ref_drop]
theorem ref_evict0 (M : Nat → List Ln) (p : Int) (h0 : upF M 4 = []) : upF (evictM M p) 4 = [] := by
  unfold evictM
  rw [h0]
  exact h0

/-! Put -/
theorem fold_lt (q : Int) : ∀ (B : List Ln) (n : Nat) (f : Int) (i : Nat), (∀ x ∈ B, x.2.1 % 4 < q) → B.foldl (stepF q) (n, f, i, i) = (n, f, i + B.length, i + B.length)
  | [], n, f, i, _ => rfl
  | x :: B, n, f, i, h => by
    have hx := h x (by simp)
    show B.foldl (stepF q) (stepF q (n, f, i, i) x) = _
    have e : stepF q (n, f, i, i) x = (n, f, i + 1, i + 1) := by
      unfold stepF
      rw [if_neg (by omega), if_neg (by omega), if_pos (by omega)]
    rw [e, fold_lt q B n f (i + 1) (fun y hy => h y (by simp [hy])), List.length_cons]
    simp only [Prod.mk.injEq, true_and]
    omega
theorem fold_eq (q : Int) : ∀ (B : List Ln) (n : Nat) (f : Int) (i : Nat), (∀ x ∈ B, x.2.1 % 4 = q) → B.foldl (stepF q) (n, f, i, i) = (n + B.length, if B = [] then f else if f < 0 then (i : Int) else f, i + B.length, i + B.length)
  | [], n, f, i, _ => by rw [if_pos rfl]; rfl
  | x :: B, n, f, i, h => by
    have hx := h x (by simp)
    show B.foldl (stepF q) (stepF q (n, f, i, i) x) = _
    have e : stepF q (n, f, i, i) x = (n + 1, if f < 0 then (i : Int) else f, i + 1, i + 1) := by
      unfold stepF
      dsimp only
      rw [if_pos hx, if_pos (by omega : x.2.1 % 4 ≤ q)]
      by_cases e : f < 0
      · rw [if_pos ⟨hx, e⟩, if_pos e]
      · rw [if_neg (fun h => e h.2), if_neg e]
    rw [e, fold_eq q B _ _ (i + 1) (fun y hy => h y (by simp [hy])), List.length_cons, if_neg (List.cons_ne_nil _ _)]
    refine Prod.ext ?_ (Prod.ext ?_ (Prod.ext ?_ ?_))
    · dsimp only; omega
    · dsimp only
      by_cases e1 : B = []
      · rw [if_pos e1]
      · rw [if_neg e1]
        by_cases e2 : f < 0
        · rw [if_pos e2, if_neg (by omega)]
        · rw [if_neg e2, if_neg e2]
    · dsimp only; omega
    · dsimp only; omega
theorem fold_gt (q : Int) : ∀ (B : List Ln) (n : Nat) (f : Int) (t i : Nat), (∀ x ∈ B, q < x.2.1 % 4) → B.foldl (stepF q) (n, f, t, i) = (n, f, t, i + B.length)
  | [], n, f, t, i, _ => rfl
  | x :: B, n, f, t, i, h => by
    have hx := h x (by simp)
    show B.foldl (stepF q) (stepF q (n, f, t, i) x) = _
    have e : stepF q (n, f, t, i) x = (n, f, t, i + 1) := by
      unfold stepF
      rw [if_neg (by omega), if_neg (by omega), if_neg (by omega)]
    rw [e, fold_gt q B n f t (i + 1) (fun y hy => h y (by simp [hy])), List.length_cons]
    simp only [Prod.mk.injEq, true_and]
    omega
theorem foldF_app (q : Int) (A B : List Ln) : foldF q (A ++ B) = B.foldl (stepF q) (foldF q A) := by
  unfold foldF
  rw [List.foldl_append]
theorem fold_low {D : Nat → List Ln} (h : InSets D) (q : Nat) : ∀ k, k ≤ q → k ≤ 4 → foldF q (upF D k) = (0, -1, (upF D k).length, (upF D k).length)
  | 0, _, _ => rfl
  | k + 1, hk, h4 => by
    show foldF q (upF D k ++ D k) = (0, -1, (upF D k ++ D k).length, (upF D k ++ D k).length)
    rw [foldF_app, fold_low h q k (by omega) (by omega), fold_lt _ _ _ _ _ (fun x hx => by rw [h k (by omega) x hx]; omega), List.length_append]
theorem fold_at {D : Nat → List Ln} (h : InSets D) (q : Nat) (hq : q < 4) : foldF q (upF D (q + 1)) = ((D q).length, if D q = [] then -1 else ((upF D q).length : Int), (upF D (q + 1)).length, (upF D (q + 1)).length) := by
  show foldF q (upF D q ++ D q) = (_, _, (upF D q ++ D q).length, (upF D q ++ D q).length)
  rw [foldF_app, fold_low h q q (Nat.le_refl _) (by omega), fold_eq _ _ _ _ _ (fun x hx => h q hq x hx), List.length_append, Nat.zero_add, if_pos (show (-1 : Int) < 0 by decide)]
theorem fold_all {D : Nat → List Ln} (h : InSets D) (q : Nat) (hq : q < 4) : ∀ k, q + 1 + k ≤ 4 → foldF q (upF D (q + 1 + k)) = ((D q).length, if D q = [] then -1 else ((upF D q).length : Int), (upF D (q + 1)).length, (upF D (q + 1 + k)).length)
  | 0, _ => fold_at h q hq
  | k + 1, hk => by
    show foldF q (upF D (q + 1 + k) ++ D (q + 1 + k)) = (_, _, _, (upF D (q + 1 + k) ++ D (q + 1 + k)).length)
    rw [foldF_app, fold_all h q hq k (by omega), fold_gt _ _ _ _ _ _ (fun x hx => by rw [h (q + 1 + k) (by omega) x hx]; omega), List.length_append]
theorem fold_upF {D : Nat → List Ln} (h : InSets D) (q : Nat) (hq : q < 4) : foldF q (upF D 4) = ((D q).length, if D q = [] then -1 else ((upF D q).length : Int), (upF D (q + 1)).length, (upF D 4).length) := by
  have := fold_all h q hq (3 - q) (by omega)
  rw [show q + 1 + (3 - q) = 4 by omega] at this
  exact this
theorem addM_else (D : Nat → List Ln) (q : Nat) (l : Ln) (r : Nat) (h : r ≠ q) : addM D q l r = D r := by unfold addM; rw [if_neg h]
theorem addM_same (D : Nat → List Ln) (q : Nat) (l : Ln) : addM D q l q = D q ++ [l] := by unfold addM; rw [if_pos rfl]
theorem upF_low (D : Nat → List Ln) (q : Nat) (l : Ln) : ∀ k, k ≤ q → upF (addM D q l) k = upF D k
  | 0, _ => rfl
  | k + 1, hk => by
    show upF (addM D q l) k ++ addM D q l k = upF D k ++ D k
    rw [upF_low D q l k (by omega), addM_else D q l k (by omega)]
theorem upF_high (D : Nat → List Ln) (q : Nat) (l : Ln) : ∀ k, ∃ E, upF D (q + 1 + k) = upF D (q + 1) ++ E ∧ upF (addM D q l) (q + 1 + k) = upF D (q + 1) ++ [l] ++ E
  | 0 => by
    refine ⟨[], (List.append_nil _).symm, ?_⟩
    show upF (addM D q l) q ++ addM D q l q = (upF D q ++ D q) ++ [l] ++ []
    rw [upF_low D q l q (Nat.le_refl _), addM_same]
    simp
  | k + 1 => by
    obtain ⟨E, h1, h2⟩ := upF_high D q l k
    refine ⟨E ++ D (q + 1 + k), ?_, ?_⟩
    · show upF D (q + 1 + k) ++ D (q + 1 + k) = _
      rw [h1, List.append_assoc]
    · show upF (addM D q l) (q + 1 + k) ++ addM D q l (q + 1 + k) = _
      rw [h2, addM_else D q l _ (by omega)]
      simp
theorem ins_upF (D : Nat → List Ln) (q : Nat) (hq : q < 4) (l : Ln) : insF (upF D (q + 1)).length l (upF D 4) = upF (addM D q l) 4 := by
  obtain ⟨E, h1, h2⟩ := upF_high D q l (3 - q)
  rw [show q + 1 + (3 - q) = 4 by omega] at h1 h2
  unfold insF
  rw [h1, h2, List.take_left, List.drop_left]
theorem upF_nth (D : Nat → List Ln) (q : Nat) (hq : q < 4) (x y l : Ln) (hD : D q = [x, y]) : (upF (addM D q l) 4)[(upF D q).length]? = some x := by
  obtain ⟨E, _, h2⟩ := upF_high D q l (3 - q)
  rw [show q + 1 + (3 - q) = 4 by omega] at h2
  rw [h2, show upF D (q + 1) = upF D q ++ D q from rfl, hD]
  rw [List.append_assoc, List.append_assoc, List.getElem?_append_right (Nat.le_refl _), Nat.sub_self]
  rfl
theorem upF_congr {M M' : Nat → List Ln} : ∀ k, (∀ q, q < k → M q = M' q) → upF M k = upF M' k
  | 0, _ => rfl
  | k + 1, h => by
    show upF M k ++ M k = upF M' k ++ M' k
    rw [upF_congr k (fun q hq => h q (by omega)), h k (by omega)]
theorem add_ne {D : Nat → List Ln} (h : InvL D) (q : Nat) (hq : q < 4) (l : Ln) (hl : l.2.1 % 4 = (q : Int)) (hne : ∀ k ∈ D q, pageNe k l) : (upF (addM D q l) 4).Pairwise pageNe := by
  obtain ⟨E, h1, h2⟩ := upF_high D q l (3 - q)
  rw [show q + 1 + (3 - q) = 4 by omega] at h1 h2
  have hp := upF_ne h 4 (by omega)
  have hall : ∀ k ∈ upF D 4, pageNe k l := fun k hk => by
    obtain ⟨r, hr, hm⟩ := mem_upF hk
    by_cases e : r = q
    · subst e
      exact hne k hm
    · rintro ⟨_, e2⟩
      have := h.inv.sets r hr k hm
      rw [e2, hl] at this
      omega
  rw [h1] at hp hall
  rw [h2, List.append_assoc, List.pairwise_append]
  obtain ⟨p1, p2, p3⟩ := List.pairwise_append.1 hp
  refine ⟨p1, ?_, fun a ha b hb => ?_⟩
  · rw [List.singleton_append, List.pairwise_cons]
    exact ⟨fun b hb e => hall b (by simp [hb]) ⟨e.1.symm, e.2.symm⟩, p2⟩
  · rcases List.mem_append.1 hb with hb | hb
    · rw [List.mem_singleton.1 hb]
      exact hall a (by simp [ha])
    · exact p3 a ha b hb
theorem ref_put {M : Nat → List Ln} (h : InvL M) (q : Nat) (hq : q < 4) (l : Ln) (hl : l.2.1 % 4 = (q : Int)) : putF (q : Int) l (upF M 4) = upF (putM M q l) 4 := by
  have hD := invl_drop l.1 l.2.1 h
  have hf := fold_upF hD.inv.sets q hq
  unfold putF
  rw [ref_drop, hf]
  dsimp only
  rw [ins_upF _ q hq l]
  unfold putM
  have hlen := hD.inv.len q hq
  have hnl : ∀ k ∈ dropM M l.1 l.2.1 q, pageNe k l := fun k hk => drop_ne hk
  generalize hg : dropM M l.1 l.2.1 = D at *
  match hm : D q, hlen with
  | [], _ => rw [if_neg (by simp)]
  | [x], _ => rw [if_neg (by simp)]
  | [x, y], _ =>
    rw [if_pos (show [x, y].length = 2 from rfl), if_neg (by simp), Int.toNat_natCast, del_drop _ _ _ (add_ne hD q hq l hl hnl) (upF_nth D q hq x y l hm)]
    show rdropF x.1 x.2.1 (upF (addM D q l) 4) = upF (addM (dropM D x.1 x.2.1) q l) 4
    rw [ref_drop]
    refine upF_congr 4 (fun r hr => ?_)
    by_cases e : r = q
    · subst e
      have hx := hnl x (by rw [hm]; simp)
      show (addM D r l r).filter _ = _
      rw [addM_same, addM_same, List.filter_append, List.filter_cons_of_pos]
      · rfl
      · by_cases e1 : l.1 = x.1
        · by_cases e2 : l.2.1 = x.2.1
          · exact absurd ⟨e1.symm, e2.symm⟩ hx
          · simp [e2]
        · simp [e1]
    · show (addM D q l r).filter _ = _
      rw [addM_else _ _ _ _ e, addM_else _ _ _ _ e]
      rfl
end Go.Proofs.Ytikdoknfcikfgaa
