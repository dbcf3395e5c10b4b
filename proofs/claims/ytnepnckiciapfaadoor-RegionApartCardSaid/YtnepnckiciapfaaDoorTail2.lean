/-
  A region that draws its order, all of whose operations but the last read, or call quietly, and whose last one (a store, mostly) waits for all the others, be it by way of others (XTail asks that it name them all itself): one walk of the lexical order serves every order. The last operation's place is held, in that walk, by one that does nothing. No program text here.
-/
import Derived.Deep.Quiet
import Derived.BigQuiet
namespace Go.Proofs.YtnepnckiciapfaaDoor
open Go

section
variable {P : Program} {md : Region.Mode} {C : World → Prop}
/-- An operation that waits for what o waits for, and does nothing. -/
def mute (o : Oper) : Oper := { o with op := .assign (.const (.bool false)), dst := none, guard := none }
def tailB (md : Region.Mode) (h : List Oper) (o : Oper) : Bool :=
  decide (o.dst = none) && o.guard.isNone && (List.range h.length).all (fun i => o.after.any (fun e => Region.binds md e && e.on == i) || (List.range h.length).any (fun j => match h[j]? with | some x => x.after.any (fun e => Region.binds md e && e.on == i) | none => false))
  && (List.range h.length).all (fun i => match h[i]? with | some x => x.after.all (fun e => !Region.binds md e || decide (e.on < i)) | none => true)
  && o.after.all (fun e => !Region.binds md e || decide (e.on < h.length))
structure TailOk (md : Region.Mode) (h : List Oper) (o : Oper) : Prop where
  dst : o.dst = none
  guard : o.guard = none
  all : ∀ i, i < h.length → (∃ e ∈ o.after, Region.binds md e = true ∧ e.on = i) ∨ ∃ (j : Nat) (x : Oper), h[j]? = some x ∧ ∃ e ∈ x.after, Region.binds md e = true ∧ e.on = i
  back : ∀ i x, h[i]? = some x → ∀ e ∈ x.after, Region.binds md e = true → e.on < i
  last : ∀ e ∈ o.after, Region.binds md e = true → e.on < h.length
theorem tail_ok {h : List Oper} {o : Oper} (hb : tailB md h o = true) : TailOk md h o := by
  simp only [tailB, Bool.and_eq_true, decide_eq_true_eq, List.all_eq_true, List.mem_range, Option.isNone_iff_eq_none] at hb
  obtain ⟨⟨⟨⟨h1, h2⟩, h3⟩, h4⟩, h5⟩ := hb
  refine ⟨h1, h2, fun i hi => ?_, fun i x hx e he hb => ?_, fun e he hb => ?_⟩
  · have h7 := h3 i hi
    rw [Bool.or_eq_true] at h7
    rcases h7 with h7 | h7
    · obtain ⟨e, he, h6⟩ := Array.any_eq_true'.1 h7
      simp only [Bool.and_eq_true, beq_iff_eq] at h6
      exact .inl ⟨e, he, h6⟩
    · obtain ⟨j, _, h8⟩ := List.any_eq_true.1 h7
      cases hx : h[j]? with
      | none => rw [hx] at h8; cases h8
      | some x =>
        rw [hx] at h8
        obtain ⟨e, he, h6⟩ := Array.any_eq_true'.1 h8
        simp only [Bool.and_eq_true, beq_iff_eq] at h6
        exact .inr ⟨j, x, hx, e, he, h6⟩
  · have hi : i < h.length := (List.getElem?_eq_some_iff.1 hx).1
    have h6 := h4 i hi
    rw [hx] at h6
    have h7 := Array.all_eq_true'.1 h6 e he
    rw [hb] at h7
    simpa using h7
  · have h7 := Array.all_eq_true'.1 h5 e he
    rw [hb] at h7
    simpa using h7
theorem at_lt {h : List Oper} {o : Oper} {i : Nat} (hi : i < h.length) : (h ++ [o]).toArray[i]? = h[i]? := by
  simp [List.getElem?_append_left hi]
theorem at_n {h : List Oper} {o : Oper} : (h ++ [o]).toArray[h.length]? = some o := by simp
theorem yielded_mute {h : List Oper} {o : Oper} (hd : o.dst = none) (tmps : Array Value) : yielded (h ++ [o]).toArray tmps = yielded (h ++ [mute o]).toArray tmps := by
  funext j
  unfold yielded
  have : ((h ++ [o]).toArray[j]?).bind (·.dst) = ((h ++ [mute o]).toArray[j]?).bind (·.dst) := by
    rcases Nat.lt_trichotomy j h.length with hj | hj | hj
    · rw [at_lt hj, at_lt hj]
    · subst hj
      rw [at_n, at_n]
      simp [hd, mute]
    · rw [Array.getElem?_eq_none (by simp; omega), Array.getElem?_eq_none (by simp; omega)]
  rw [this]
theorem mem_mute {h : List Oper} {o : Oper} {listed : Array Bool} {j : Nat} : j ∈ Region.ready md (h ++ [o]).toArray listed ↔ j ∈ Region.ready md (h ++ [mute o]).toArray listed := by
  rw [mem_ready, mem_ready]
  rcases Nat.lt_trichotomy j h.length with hj | hj | hj
  · rw [at_lt hj, at_lt hj]
  · subst hj
    rw [at_n, at_n]
    simp [mute]
  · rw [Array.getElem?_eq_none (by simp; omega), Array.getElem?_eq_none (by simp; omega)]
theorem get_set (listed : Array Bool) (i j : Nat) (hi : i < listed.size) (d : Bool) : (listed.setIfInBounds i true).getD j d = if i = j then true else listed.getD j d := by
  simp only [Array.getD_eq_getD_getElem?, Array.getElem?_setIfInBounds]
  split
  · rename_i e; subst e; rfl
  · rfl
/-- The first that is not listed yet is ready. -/
theorem first_ready {h : List Oper} {o : Oper} (ok : TailOk md h o) {listed : Array Bool} (hs : listed.size = h.length + 1) : ∀ d i, i ≤ h.length → d = i → listed.getD i true = false → Region.ready md (h ++ [o]).toArray listed ≠ [] := by
  intro d
  induction d using Nat.strongRecOn with
  | _ d ih =>
    intro i hi hd hun hnil
    by_cases hall : ∀ k, k < i → listed.getD k true = true
    · have hin : i ∈ Region.ready md (h ++ [o]).toArray listed := by
        rw [mem_ready]
        refine ⟨hun, ?_⟩
        have conv : ∀ k, k < i → listed.getD k false = true := fun k hk => by
          have := hall k hk
          have hk2 : k < listed.size := by omega
          simpa [hk2] using this
        rcases Nat.lt_or_eq_of_le hi with hlt | rfl
        · obtain ⟨x, hx⟩ : ∃ x, h[i]? = some x := ⟨h[i], by simp [hlt]⟩
          exact ⟨x, by rw [at_lt hlt, hx], fun e he hb => conv _ (ok.back i x hx e he hb)⟩
        · exact ⟨o, at_n, fun e he hb => conv _ (ok.last e he hb)⟩
      rw [hnil] at hin
      cases hin
    · have ⟨k, hk⟩ : ∃ k, ¬ (k < i → listed.getD k true = true) := Classical.not_forall.1 hall
      have hki : k < i := Classical.byContradiction fun h => hk fun h2 => absurd h2 h
      have hku : listed.getD k true = false := by
        cases e : listed.getD k true with
        | true => exact absurd (fun _ => e) hk
        | false => rfl
      exact ih k (by omega) k (by omega) rfl hku hnil
theorem any_tail {h : List Oper} {o : Oper} (ok : TailOk md h o) {Q : Exit → Act → World → Prop} :
    ∀ (f : Nat) (listed : Array Bool) (a : Act) (w : World), listed.size = h.length + 1 → listed.getD h.length true = false → (∀ (j : Nat) (x : Oper), h[j]? = some x → listed.getD j false = true → ∀ e ∈ x.after, Region.binds md e = true → listed.getD e.on false = true) → C w →
    wpAnyQ P md (h ++ [mute o]).toArray C (fun a' => ∀ w', C w' → wpList P (h ++ [o]).toArray Q [o] a' w') f listed a → wpAny P md (h ++ [o]).toArray Q f listed a w
  | 0, listed, a, w, hs, hun, _, hC, hh => by
    have := first_ready ok hs _ h.length (Nat.le_refl _) rfl hun
    refine absurd ?_ this
    have h2 := hh.1
    refine List.eq_nil_iff_forall_not_mem.2 fun j hj => ?_
    rw [mem_mute, h2] at hj
    cases hj
  | f + 1, listed, a, w, hs, hun, hcl, hC, hh => by
    refine ⟨fun h0 => absurd h0 (first_ready ok hs _ h.length (Nat.le_refl _) rfl hun), fun i hi => ?_⟩
    have hq := hh.2 i (mem_mute.1 hi)
    have hi2 := mem_ready.1 hi
    have hiL : i < listed.size := by
      refine Classical.byContradiction fun hn => ?_
      have := hi2.1
      simp [Nat.le_of_not_lt hn] at this
    rcases Nat.lt_or_eq_of_le (show i ≤ h.length by omega) with hlt | rfl
    · unfold qOp at hq
      unfold wpOp
      rw [at_lt hlt] at hq ⊢
      obtain ⟨x, hx⟩ : ∃ x, h[i]? = some x := ⟨h[i], by simp [hlt]⟩
      rw [hx] at hq ⊢
      simp only at hq ⊢
      rw [← yielded_mute ok.dst] at hq
      have hcl2 : ∀ (j : Nat) (y : Oper), h[j]? = some y → (listed.setIfInBounds i true).getD j false = true → ∀ e ∈ y.after, Region.binds md e = true → (listed.setIfInBounds i true).getD e.on false = true := by
        intro j y hy hj e he hb
        rw [get_set _ _ _ hiL] at hj ⊢
        split
        · rfl
        · split at hj
          · rename_i hij
            subst hij
            obtain ⟨o', ho', hall⟩ := hi2.2
            rw [at_lt hlt, hy] at ho'
            obtain rfl := Option.some.inj ho'
            exact hall e he hb
          · exact hcl j y hy hj e he hb
      have step : ∀ a' w', C w' → wpAnyQ P md (h ++ [mute o]).toArray C (fun a' => ∀ w', C w' → wpList P (h ++ [o]).toArray Q [o] a' w') f (listed.setIfInBounds i true) a' → wpAny P md (h ++ [o]).toArray Q f (listed.setIfInBounds i true) a' w' := fun a' w' hw' h3 =>
        any_tail ok f _ a' w' (by simpa using hs) (by rw [get_set _ _ _ hiL, if_neg (by omega)]; exact hun) hcl2 hw' h3
      split
      · rename_i hw
        rw [if_pos hw] at hq
        exact .inl (Oper.wp_of_quiet hC step hq)
      · rename_i hw
        rw [if_neg hw] at hq
        exact step _ _ hC hq
    · -- the last one: all others are listed
      have hl : ∀ j, (listed.setIfInBounds h.length true).getD j true = true := fun j => by
        rw [get_set _ _ _ hiL]
        split
        · rfl
        · rename_i hne
          rcases Nat.lt_or_ge j h.length with hj | hj
          · obtain ⟨o', ho', hall⟩ := hi2.2
            rw [at_n] at ho'
            obtain rfl := Option.some.inj ho'
            have key : ∀ d k, k < h.length → h.length - k ≤ d → listed.getD k false = true := by
              intro d
              induction d with
              | zero => intro k hk hd; omega
              | succ d ih =>
                intro k hk hd
                rcases ok.all k hk with ⟨e, he, hb, hon⟩ | ⟨m, x, hx, e, he, hb, hon⟩
                · have := hall e he hb
                  rw [hon] at this
                  exact this
                · have hm : m < h.length := (List.getElem?_eq_some_iff.1 hx).1
                  have hkm := ok.back m x hx e he hb
                  have := hcl m x hx (ih m hm (by omega)) e he hb
                  rw [hon] at this
                  exact this
            have := key (h.length) j hj (by omega)
            have hjs : j < listed.size := by omega
            simpa [hjs] using this
          · simp [show listed.size ≤ j by omega]
      have hnil : ∀ ops : Array Oper, Region.ready md ops (listed.setIfInBounds h.length true) = [] := fun ops => by
        refine List.eq_nil_iff_forall_not_mem.2 fun j hj => ?_
        have := (mem_ready.1 hj).1
        rw [hl j] at this
        cases this
      unfold qOp at hq
      rw [at_n] at hq
      simp only at hq
      have hw0 : ∀ y, Region.wanted (mute o) y = true := fun y => by simp [Region.wanted, mute]
      rw [if_pos (hw0 _)] at hq
      obtain ⟨v, _, h3⟩ := hq
      have hput : a.put (mute o).dst v = a := rfl
      rw [hput] at h3
      have hQ : wpList P (h ++ [o]).toArray Q [o] a w := by
        cases f with
        | zero => exact h3.2 w hC
        | succ f => exact h3.1 (hnil _) w hC
      unfold wpOp
      rw [at_n]
      simp only
      have hw1 : ∀ y, Region.wanted o y = true := fun y => by simp [Region.wanted, ok.guard]
      unfold wpList at hQ
      rw [if_pos (hw1 _)] at hQ ⊢
      refine hQ.imp (Oper.wp_mono (fun a'' w'' h4 => ?_)) id
      cases f with
      | zero => exact ⟨hnil _, h4⟩
      | succ f => exact ⟨fun _ => h4, fun i hi => by rw [hnil] at hi; cases hi⟩
/-- One walk of the lexical order, the last operation behind it. -/
theorem wp_region_tail {id : Nat} {Q : Exit → Act → World → Prop} {a : Act} {w : World} (h : List Oper) (o : Oper) (hm : P.follows .mixedOrders = true) (hB : Region.lexB .any (h ++ [mute o]).toArray = true) (hT : tailB .any h o = true)
    (hC : C { w with drawn := w.drawn + 1 }) (hh : wpQuiet P (h ++ [mute o]).toArray C (fun a' => ∀ w', C w' → wpList P (h ++ [o]).toArray Q [o] a' w') (h ++ [mute o]) a) : (Code.region id (h ++ [o]).toArray true).wp P Q a w := by
  simp only [Region.lexB, Bool.and_eq_true] at hB
  refine wp_region_any hm ?_
  have h2 := wpAnyQ_lex (C := C) (md := .any) hB.1 (h ++ [mute o]) 0 (Array.replicate (h ++ [mute o]).toArray.size false) a (by simp) (by simpa using hB.2) hh
  have h3 := any_tail (Q := Q) (tail_ok hT) _ _ a _ (by simp) (by simp) (fun j x _ hj => absurd hj (by simp only [Array.getD_eq_getD_getElem?, Array.getElem?_replicate]; split <;> simp)) hC h2
  simpa using h3
/-- The same for a region whose operations are written out: n of them ahead of the last one, o. -/
theorem wp_region_tail_lit {id : Nat} {Q : Exit → Act → World → Prop} {a : Act} {w : World} {l : List Oper} (n : Nat) (o : Oper) (hl : l = l.take n ++ [o]) (hm : P.follows .mixedOrders = true) (hB : Region.lexB .any (l.take n ++ [mute o]).toArray = true) (hT : tailB .any (l.take n) o = true)
    (hC : C { w with drawn := w.drawn + 1 }) (hh : wpQuiet P (l.take n ++ [mute o]).toArray C (fun a' => ∀ w', C w' → wpList P (l.take n ++ [o]).toArray Q [o] a' w') (l.take n ++ [mute o]) a) : (Code.region id l.toArray true).wp P Q a w := by
  have := wp_region_tail (id := id) (Q := Q) (l.take n) o hm hB hT hC hh
  rwa [← hl] at this
end
end Go.Proofs.YtnepnckiciapfaaDoor
