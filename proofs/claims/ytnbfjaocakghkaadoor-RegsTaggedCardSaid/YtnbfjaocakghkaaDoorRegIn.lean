/-
  A region that draws its order, in the body of a range over a function: one walk of the order of the text serves every order (a region that only reads, or calls what makes memory of its own; one whose last operation stores and waits for all the others). No program text here.
-/
import Derived.Test.YtnbfjaocakghkaaDoorTail
import Derived.Test.YtnbfjaocakghkaaDoorLong
import Derived.RangeFuncNested
import Derived.RangeFuncBound
import Derived.RangeFuncCalls
import Derived.RangeFuncLeaves
import Derived.OrdersIn
import Derived.OwnWalkIn
import Derived.Deep.RegionHeld3
namespace Go.Proofs.YtnbfjaocakghkaaDoor
open Go Go.RowKit

section
variable {P : Program} {md : Region.Mode} {C : World → Prop} {l n : Nat}
/-- An operation that is no defer statement. -/
def noDefer (o : Oper) : Bool := match o.op with | .defer _ => false | _ => true
theorem noDefer_spec {o : Oper} (h : noDefer o = true) : ∀ c, o.op ≠ .defer c := fun c hc => by
  unfold noDefer at h
  rw [hc] at h
  cases h
theorem rows_round {row : String} {args : Array Value} {w : World} {R : Value → World → Prop} (h : Rows P row args w R) : RowsIn (Fence.wide.inRound l) n P row args w R := fun c cs _ => by
  obtain ⟨v, w', r, s⟩ := h c cs
  exact ⟨v, w', r, by rw [fenced_inRound]; exact stepsIn_wide.2 s⟩
theorem oper_in {o : Oper} {a : Act} {w : World} {K : Act → World → Prop} {Q : Exit → Act → World → Prop} (hd : noDefer o = true) (h : o.wp P a w K Q) : o.wpIn (Fence.wide.inRound l) n P a w K Q := by
  refine ⟨fun _ _ => trivial, ?_⟩
  rw [Oper.semAt_eq _ _ _ (noDefer_spec hd)]
  unfold Oper.wp at h
  generalize (execOp a.eval o).run P w = r at h ⊢
  have hw : (Fence.wide.inRound l).depth.isSome = true → 1 ≤ n := fun hx => by cases hx
  cases r with
  | ok x w' =>
    cases x <;> simp only [Oper.upon, Oper.uponIn] at h ⊢ <;>
      first
        | exact h
        | exact ⟨hw, CallsIn.inRound l (callsIn_wide.2 h)⟩
        | exact ⟨hw, rows_round h⟩
        | exact h.elim
  | halt x w' => cases x <;> simp only [Oper.upon, Oper.uponIn] at h ⊢ <;> exact h
theorem anyIn_of_quiet {ops : Array Oper} {Q : Act → Prop} {QQ : Exit → Act → World → Prop} (hq : ∀ a w, C w → Q a → QQ .normal a w) (hnd : ∀ (i : Nat) (o : Oper), ops[i]? = some o → noDefer o = true) :
    ∀ (f : Nat) (listed : Array Bool) (a : Act) (w : World), C w → wpAnyQ P md ops C Q f listed a → wpAnyIn (Fence.wide.inRound l) n P md ops QQ f listed a w
  | 0, _, _, _, hC, h => ⟨h.1, hq _ _ hC h.2⟩
  | f + 1, listed, a, w, hC, h => by
    refine ⟨fun h0 => hq _ _ hC (h.1 h0), fun i hi => ?_⟩
    have h2 := h.2 i hi
    unfold qOp at h2
    unfold wpOpIn
    cases ho : ops[i]? with
    | none =>
      simp only [ho] at h2 ⊢
      exact anyIn_of_quiet hq hnd f _ a w hC h2
    | some o =>
      simp only [ho] at h2 ⊢
      split
      · rename_i hw
        rw [if_pos hw] at h2
        exact oper_in (hnd i o ho) (Oper.wp_of_quiet hC (fun a' w' hw' hK => anyIn_of_quiet hq hnd f _ a' w' hw' hK) h2)
      · rename_i hw
        rw [if_neg hw] at h2
        exact ⟨fun _ _ => trivial, anyIn_of_quiet hq hnd f _ _ w hC h2⟩
theorem nd_list {l : List Oper} (h : l.all noDefer = true) : ∀ (i : Nat) (o : Oper), l.toArray[i]? = some o → noDefer o = true := fun i o ho => by
  rw [List.getElem?_toArray] at ho
  exact List.all_eq_true.1 h o (List.mem_of_getElem? ho)
theorem round_quiet {id : Nat} {ops : List Oper} {Q : Exit → Act → World → Prop} {a : Act} {w : World} (hm : P.follows .mixedOrders = true) (hB : Region.lexB .any ops.toArray = true) (hnd : ops.all noDefer = true) (hC : C { w with drawn := w.drawn + 1 })
    (h : wpQuiet P ops.toArray C (fun a' => ∀ w', C w' → Q .normal a' w') ops a) : (Code.region id ops.toArray true).wpIn (Fence.wide.inRound l) n P Q a w := by
  simp only [Region.lexB, Bool.and_eq_true] at hB
  refine wpIn_region_any hm (anyIn_of_quiet (C := C) (Q := fun a' => ∀ w', C w' → Q .normal a' w') (fun _ w' hw' h => h w' hw') (nd_list hnd) _ _ _ _ hC ?_)
  have := wpAnyQ_lex (C := C) (md := .any) hB.1 ops 0 (Array.replicate ops.toArray.size false) a (by simp) (by simpa using hB.2) h
  simpa using this
/-- A region that calls what makes memory of its own, in a round. -/
theorem round_behind {id : Nat} {Q : Exit → Act → World → Prop} {a : Act} {w : World} {ops : List Oper} (w0 : World) (hm : P.follows .mixedOrders = true) (hB : Region.lexB .any ops.toArray = true) (hnd : ops.all noDefer = true) (hC : Below w0.heap.size w0 w)
    (h : wpQuiet P ops.toArray (fun w' => ∃ y : Behind w0.heap.size w0, w' = y.world) (fun a' => ∀ w', (∃ y : Behind w0.heap.size w0, w' = y.world) → Q .normal a' w') ops a) : (Code.region id ops.toArray true).wpIn (Fence.wide.inRound l) n P Q a w :=
  round_quiet (C := fun w' => ∃ y : Behind w0.heap.size w0, w' = y.world) hm hB hnd ⟨⟨w.drew, hC.drew⟩, rfl⟩ h
theorem any_tail_in {h : List Oper} {o : Oper} (ok : TailOk md h o) (hnd : ∀ (i : Nat) (x : Oper), h[i]? = some x → noDefer x = true) {Q : Exit → Act → World → Prop} :
    ∀ (f : Nat) (listed : Array Bool) (a : Act) (w : World), listed.size = h.length + 1 → listed.getD h.length true = false → C w →
    wpAnyQ P md (h ++ [mute o]).toArray C (fun a' => ∀ w', C w' → wpListIn (Fence.wide.inRound l) n P (h ++ [o]).toArray Q [o] a' w') f listed a → wpAnyIn (Fence.wide.inRound l) n P md (h ++ [o]).toArray Q f listed a w
  | 0, listed, a, w, hs, hun, hC, hh => by
    have := first_ready ok hs _ h.length (Nat.le_refl _) rfl hun
    refine absurd ?_ this
    have h2 := hh.1
    refine List.eq_nil_iff_forall_not_mem.2 fun j hj => ?_
    rw [mem_mute, h2] at hj
    cases hj
  | f + 1, listed, a, w, hs, hun, hC, hh => by
    refine ⟨fun h0 => absurd h0 (first_ready ok hs _ h.length (Nat.le_refl _) rfl hun), fun i hi => ?_⟩
    have hq := hh.2 i (mem_mute.1 hi)
    have hi2 := mem_ready.1 hi
    have hiL : i < listed.size := by
      refine Classical.byContradiction fun hn => ?_
      have := hi2.1
      simp [Nat.le_of_not_lt hn] at this
    rcases Nat.lt_or_eq_of_le (show i ≤ h.length by omega) with hlt | rfl
    · unfold qOp at hq
      unfold wpOpIn
      rw [at_lt hlt] at hq ⊢
      obtain ⟨x, hx⟩ : ∃ x, h[i]? = some x := ⟨h[i], by simp [hlt]⟩
      rw [hx] at hq ⊢
      simp only at hq ⊢
      rw [← yielded_mute ok.dst] at hq
      have step : ∀ a' w', C w' → wpAnyQ P md (h ++ [mute o]).toArray C (fun a' => ∀ w', C w' → wpListIn (Fence.wide.inRound l) n P (h ++ [o]).toArray Q [o] a' w') f (listed.setIfInBounds i true) a' → wpAnyIn (Fence.wide.inRound l) n P md (h ++ [o]).toArray Q f (listed.setIfInBounds i true) a' w' := fun a' w' hw' h3 =>
        any_tail_in ok hnd f _ a' w' (by simpa using hs) (by rw [get_set _ _ _ hiL, if_neg (by omega)]; exact hun) hw' h3
      split
      · rename_i hw
        rw [if_pos hw] at hq
        exact oper_in (hnd i x hx) (Oper.wp_of_quiet hC step hq)
      · rename_i hw
        rw [if_neg hw] at hq
        exact ⟨fun _ _ => trivial, step _ _ hC hq⟩
    · have hl : ∀ j, (listed.setIfInBounds h.length true).getD j true = true := fun j => by
        rw [get_set _ _ _ hiL]
        split
        · rfl
        · rename_i hne
          rcases Nat.lt_or_ge j h.length with hj | hj
          · obtain ⟨o', ho', hall⟩ := hi2.2
            rw [at_n] at ho'
            obtain rfl := Option.some.inj ho'
            obtain ⟨e, he, hb, hon⟩ := ok.all j hj
            have := hall e he hb
            rw [hon] at this
            have hjs : j < listed.size := by omega
            simpa [hjs] using this
          · simp [show listed.size ≤ j by omega]
      have hnil : ∀ ops : Array Oper, Region.ready md ops (listed.setIfInBounds h.length true) = [] := fun ops => by
        refine List.eq_nil_iff_forall_not_mem.2 fun j hj => ?_
        have := (mem_ready.1 hj).1
        rw [hl j] at this
        cases this
      unfold qOp at hq
      rw [at_n] at hq
      simp only at hq
      have hw0 : ∀ y, Region.wanted (mute o) y = true := fun y => by simp [Region.wanted, mute]
      rw [if_pos (hw0 _)] at hq
      obtain ⟨v, _, h3⟩ := hq
      have hput : a.put (mute o).dst v = a := rfl
      rw [hput] at h3
      have hQ : wpListIn (Fence.wide.inRound l) n P (h ++ [o]).toArray Q [o] a w := by
        cases f with
        | zero => exact h3.2 w hC
        | succ f => exact h3.1 (hnil _) w hC
      unfold wpOpIn
      rw [at_n]
      simp only
      have hw1 : ∀ y, Region.wanted o y = true := fun y => by simp [Region.wanted, ok.guard]
      unfold wpListIn at hQ
      rw [if_pos (hw1 _)] at hQ ⊢
      refine Oper.wpIn_mono (fun a'' w'' h4 => ?_) hQ
      cases f with
      | zero => exact ⟨hnil _, h4⟩
      | succ f => exact ⟨fun _ => h4, fun i hi => by rw [hnil] at hi; cases hi⟩
/-- A region whose last operation stores and waits for all the others, in a round: n0 of them ahead of it. -/
theorem round_tail {id : Nat} {Q : Exit → Act → World → Prop} {a : Act} {w : World} {ops : List Oper} (n0 : Nat) (o : Oper) (hl : ops = ops.take n0 ++ [o]) (hm : P.follows .mixedOrders = true) (hB : Region.lexB .any (ops.take n0 ++ [mute o]).toArray = true) (hT : tailB .any (ops.take n0) o = true) (hnd : (ops.take n0).all noDefer = true)
    (hC : C { w with drawn := w.drawn + 1 }) (hh : wpQuiet P (ops.take n0 ++ [mute o]).toArray C (fun a' => ∀ w', C w' → wpListIn (Fence.wide.inRound l) n P (ops.take n0 ++ [o]).toArray Q [o] a' w') (ops.take n0 ++ [mute o]) a) : (Code.region id ops.toArray true).wpIn (Fence.wide.inRound l) n P Q a w := by
  simp only [Region.lexB, Bool.and_eq_true] at hB
  rw [hl]
  refine wpIn_region_any hm ?_
  have h2 := wpAnyQ_lex (C := C) (md := .any) hB.1 (ops.take n0 ++ [mute o]) 0 (Array.replicate (ops.take n0 ++ [mute o]).toArray.size false) a (by simp) (by simpa using hB.2) hh
  have h3 := any_tail_in (l := l) (n := n) (Q := Q) (tail_ok hT) (fun i x hx => List.all_eq_true.1 hnd x (List.mem_of_getElem? hx)) _ _ a _ (by simp) (by simp) hC h2
  simpa using h3
end

/-- An operation without a guard comes up. -/
theorem wpOp_plain {P : Program} {ops : Array Oper} {Q : Exit → Act → World → Prop} {i : Nat} {o : Oper} {K : Act → World → Prop} {a : Act} {w : World} (hi : ops[i]? = some o) (hg : o.guard = none) (h : o.wp P a w K Q) : wpOp P ops Q i K a w := by
  unfold wpOp
  rw [hi]
  have hw : Region.wanted o (yielded ops a.tmps) = true := by simp [Region.wanted, hg]
  simp only [hw, if_true]
  exact .inl h
/-- A region of four: two reads, a store that waits for the first, and what waits for all of them. -/
theorem region_two {P : Program} {id : Nat} {o0 o1 o2 o3 : Oper} {a a1 a2 : Act} {w : World} {Q : Exit → Act → World → Prop} {v0 v1 v3 : Value} (S : World → Prop) (hm : P.follows .mixedOrders = true) (hs : Region.noSelect #[o0, o1, o2, o3] = true)
    (f0 : Region.free .any #[o0, o1, o2, o3] #[false, false, false, false] 0 = true) (r0 : (Region.ready .any #[o0, o1, o2, o3] #[false, false, false, false]).contains 0 = true)
    (f1 : Region.free .any #[o0, o1, o2, o3] #[true, false, false, false] 1 = true) (r1 : (Region.ready .any #[o0, o1, o2, o3] #[true, false, false, false]).contains 1 = true)
    (r2 : Region.ready .any #[o0, o1, o2, o3] #[true, true, false, false] = [2]) (f3 : Region.free .any #[o0, o1, o2, o3] #[true, true, true, false] 3 = true) (r3 : (Region.ready .any #[o0, o1, o2, o3] #[true, true, true, false]).contains 3 = true)
    (r4 : Region.ready .any #[o0, o1, o2, o3] #[true, true, true, true] = []) (g2 : o2.guard = none) (hS : S w.drew) (y0 : YieldsIf P #[o0, o1, o2, o3] S o0 v0 a) (e1 : a.put o0.dst v0 = a1) (y1 : YieldsIf P #[o0, o1, o2, o3] S o1 v1 a1) (e2 : a1.put o1.dst v1 = a2)
    {a3 : Act} {w3 : World} (hrun : (execOp a2.eval o2).run P w.drew = .ok .skip w3) (e3 : a2.put o2.dst undef = a3) (hS3 : S w3) (y3 : YieldsIf P #[o0, o1, o2, o3] S o3 v3 a3) (hend : Q .normal (a3.put o3.dst v3) w3) : (Code.region id #[o0, o1, o2, o3] true).wp P Q a w := by
  refine wp_region_noPanic ?_
  refine wp_region_held (S := S) hm ?_
  refine wpAnyH_take (i := 0) (oi := o0) (fuel := 3) (listed := #[false, false, false, false]) rfl hs f0 r0 (fun _ _ _ h => h) y0 hS ?_
  rw [e1]
  refine wpAnyH_take (i := 1) (oi := o1) (fuel := 2) (listed := #[true, false, false, false]) rfl hs f1 r1 (fun _ _ _ h => h) y1 hS ?_
  rw [e2]
  refine wpAnyH_all (fuel := 1) (listed := #[true, true, false, false]) (rs := [2]) r2 (by simp) (fun i hi => ?_)
  obtain rfl : i = 2 := by simpa using hi
  refine wpOp_plain (o := o2) rfl g2 ?_
  unfold Oper.wp
  have hrun2 : (execOp a2.eval o2).run P { w with drawn := w.drawn + 1 } = .ok .skip w3 := hrun
  rw [hrun2]
  show S w3 ∧ wpAnyH P .any #[o0, o1, o2, o3] (NoPanic Q) S 1 _ (a2.put o2.dst undef) w3
  rw [e3]
  refine ⟨hS3, ?_⟩
  refine wpAnyH_take (i := 3) (oi := o3) (fuel := 0) (listed := #[true, true, true, false]) rfl hs f3 r3 (fun _ _ _ h => h) y3 hS3 ?_
  exact wpAnyH_done (Q := NoPanic Q) r4 hend 0
/-- What was there below lies as it lay: whatever is no cells, too. -/
theorem keeps_below {B : Nat} {W W' : World} (h : Below W.heap.size W W') : KeepsFrom B W W' :=
  ⟨h.size, fun k _ _ hk _ => (h.block k (Array.getElem?_eq_some_iff.1 hk).1).trans hk⟩
theorem keeps_setCells {B b : Nat} : ∀ (vs : List Value) (o : Nat) (W : World), KeepsFrom B W (W.setCells b o vs)
  | [], _, W => KeepsFrom.refl B W
  | v :: r, o, W => by
    rw [World.setCells]
    exact ((KeepsOthers.setCell W ⟨b, o, none⟩ v).from B).trans (keeps_setCells r (o + 1) _)

section
variable {F : Fence} {n : Nat} {P : Program}
theorem wpListIn_load_mid {ops : Array Oper} {rest : List Oper} {op : Oper} {a : Act} {w : World} {Q : Exit → Act → World → Prop} (hgd : op.guard = none) (ty : TypeId) (x : Operand) (ho : op.op = .load ty x)
    (b o : Nat) (hx : a.eval x = .pointer (some ⟨b, o, none⟩)) (cs : List Value) (d : TypeDesc) (hc : w.rangeAt b o cs)
    (hu : P.underlying ty = some d) (hd : d.isRow = true) (hi : (P.info? ty).map (·.size) = some cs.length)
    (h : wpListIn F n P ops Q rest (a.put op.dst (.agg cs.toArray)) w) : wpListIn F n P ops Q (op :: rest) a w :=
  wpListIn_plain hgd fun _ hK => by
    refine ⟨fun f hf => ?_, ?_⟩
    · simp [Oper.about, ho] at hf
    · rw [Oper.semAt_plain F _ _ (by rw [ho]; intro c hc'; cases hc')]
      unfold execOp
      simp only [ho, hx, Instr.loadAt, Instr.sureAddr, Sem.run_bind, Sem.run_pure, Result.andThen_ok, run_loadVar_mid w b o ty cs d hc hu hd hi]
      exact hK _ _ h
theorem wpListIn_store_mid {ops : Array Oper} {rest : List Oper} {op : Oper} {a : Act} {w : World} {Q : Exit → Act → World → Prop} (hgd : op.guard = none) (ty : TypeId) (x y : Operand) (ho : op.op = .store ty x y)
    (b o : Nat) (cells : Array Value) (hx : a.eval x = .pointer (some ⟨b, o, none⟩)) (hy : a.eval y = .agg cells)
    (ht : w.there b o cells.size) (hi : (P.info? ty).map (·.size) = some cells.size) (h1 : cells.all (·.oneCell') = true)
    (h : wpListIn F n P ops Q rest (a.put op.dst undef) (w.setCells b o cells.toList)) : wpListIn F n P ops Q (op :: rest) a w :=
  wpListIn_plain hgd fun _ hK => by
    refine ⟨fun f hf => ?_, ?_⟩
    · simp [Oper.about, ho] at hf
    · rw [Oper.semAt_plain F _ _ (by rw [ho]; intro c hc'; cases hc')]
      unfold execOp
      simp only [ho, hx, hy, Instr.storeAt, Instr.sureAddr, Sem.run_bind, Sem.run_pure, Result.andThen_ok, run_storeVar_mid w b o ty cells ht hi h1]
      exact hK _ _ h
end
end Go.Proofs.YtnbfjaocakghkaaDoor
