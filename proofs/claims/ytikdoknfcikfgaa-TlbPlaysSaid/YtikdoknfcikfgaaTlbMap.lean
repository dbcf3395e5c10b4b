/-
  Two maps keyed by a page: to numbers (MapU) and to bools (MapB), as functions; what a look-up, a store, a delete does.
-/
import Derived.Test.YtikdoknfcikfgaaTlbMem
import Derived.Maps.OwnSet
import Derived.DeepKeys4
import Derived.Deep.RegionLaw
namespace Go.Proofs.Ytikdoknfcikfgaa
open Go.RowKit

open Go.Maps
/-- A number that a uint64 can be. -/
def Wf (x : Int) : Prop := 0 ≤ x ∧ x < 18446744073709551616
theorem wf_lit {x : Int} (h : Wf x) : (Lit.int .u64 x).wf = true := by
  obtain ⟨h1, h2⟩ := h
  have e1 : IntKind.u64.min = 0 := by decide
  have e2 : IntKind.u64.max = 18446744073709551615 := by decide
  simp only [Lit.wf, e1, e2, Bool.and_eq_true, decide_eq_true_eq]
  omega
def KL (a n : Int) : Lit := .string (keyBytes [.int .u64 a, .int .u64 n])
theorem key_wide : (match Try.prog.underlying 61 with | some (.array _ _) | some (.struct _) => true | _ => false) = true := by kernel_rfl
theorem key_law : WideMaps.KeyLaw Try.prog 61 := deep_law_laid (by kernel_rfl) (m := 2) (by omega) (of_decide_eq_true (by kernel_rfl)) (by kernel_rfl) key_wide
theorem key_keyed : Keyed Try.prog 61 := Keyed.of_law key_law
theorem key_mk {A N : Int} (ha : Wf A) (hn : Wf N) : keyOf Try.prog 61 (.agg #[.int .u64 A, .int .u64 N]) = some (KL A N) := by
  have h1 := wf_lit ha
  have h2 := wf_lit hn
  have hk : ∀ d, Try.prog.keyLits (d + 2) 61 [.int .u64 A, .int .u64 N] = some [.int .u64 A, .int .u64 N] := fun d => by
    have c1 : Try.prog.cellsOf 61 = 2 := by kernel_rfl
    have c2 : Try.prog.cellsOf 23 = 1 := by kernel_rfl
    have u : ∀ x : Int, (Lit.int .u64 x).wf = true → Try.prog.keyLits (d + 1) 23 [.int .u64 x] = some [.int .u64 x] := fun x hx => by
      unfold Program.keyLits
      rw [Try.underlying23]
      simp [hx]
    unfold Program.keyLits
    rw [Try.underlying61]
    simp [c1, c2, u A h1, u N h2]
  obtain ⟨d, hd⟩ : ∃ d, Try.prog.types.size + 1 = d + 2 := ⟨Try.prog.types.size - 1, by have : (0 : Nat) < Try.prog.types.size := of_decide_eq_true (by kernel_rfl); omega⟩
  unfold keyOf
  rw [Try.underlying61]
  dsimp only
  rw [if_pos (by rw [show Try.prog.keyType 61 = true by kernel_rfl]; simp [Value.formed, Try.underlying61, show Try.prog.cellsOf 61 = 2 by kernel_rfl]), hd]
  show (Try.prog.keyLits (d + 2) 61 [.int .u64 A, .int .u64 N]).map _ = _
  rw [hk]
  rfl
theorem key_inj {A N B M : Int} (ha : Wf A) (hn : Wf N) (hb : Wf B) (hm : Wf M) (h : KL A N = KL B M) : A = B ∧ N = M := by
  have := key_law.inj (key_mk ha hn) (h ▸ key_mk hb hm)
  simpa using this
theorem key_is {A N : Int} : WideAt.IsKeyLit (KL A N) := trivial

abbrev ED := DataW Unit
def upd2 {α : Type} (h : Int → Int → α) (a n : Int) (x : α) : Int → Int → α := fun b m => if b = a ∧ m = n then x else h b m
/-- Block b is a map from pages to numbers, of at most k entries. -/
def MapU (W : World) (b k : Nat) (h : Int → Int → Option Int) : Prop := ∃ D : ED, W.ownsMap Try.prog 61 (plainElem Try.prog 23) b k D ∧ ∀ a n, Wf a → Wf n → Maps.has D (KL a n) = (h a n).isSome ∧ ∀ x, h a n = some x → D.atKey (KL a n) (.lit (.int .u64 0)) = .lit (.int .u64 x)
def MapB (W : World) (b k : Nat) (s : Int → Int → Bool) : Prop := ∃ D : ED, W.ownsMap Try.prog 61 (plainElem Try.prog 4) b k D ∧ ∀ a n, Wf a → Wf n → D.atKey (KL a n) (.lit (.bool false)) = .lit (.bool (s a n))
theorem mu_block {W W' : World} {b k : Nat} {h : Int → Int → Option Int} (hb : W'.heap[b]? = W.heap[b]?) (H : MapU W b k h) : MapU W' b k h := by
  obtain ⟨D, ⟨es, cl, h1, h2⟩, h3⟩ := H
  exact ⟨D, ⟨es, cl, hb.trans h1, h2⟩, h3⟩
theorem mb_block {W W' : World} {b k : Nat} {s : Int → Int → Bool} (hb : W'.heap[b]? = W.heap[b]?) (H : MapB W b k s) : MapB W' b k s := by
  obtain ⟨D, ⟨es, cl, h1, h2⟩, h3⟩ := H
  exact ⟨D, ⟨es, cl, hb.trans h1, h2⟩, h3⟩
theorem MapU.lt {W : World} {b k : Nat} {h : Int → Int → Option Int} (H : MapU W b k h) : b < W.heap.size := by
  obtain ⟨D, h1, _⟩ := H
  exact h1.lt
theorem MapB.lt {W : World} {b k : Nat} {s : Int → Int → Bool} (H : MapB W b k s) : b < W.heap.size := by
  obtain ⟨D, h1, _⟩ := H
  exact h1.lt
theorem mu_bn {n b k : Nat} {W W' : World} {h : Int → Int → Option Int} (hb : Below n W W') (hlt : b < n) (H : MapU W b k h) : MapU W' b k h := mu_block (hb.block b hlt) H
theorem mu_be {b k : Nat} {W W' : World} {h : Int → Int → Option Int} (hb : Below W.heap.size W W') (H : MapU W b k h) : MapU W' b k h := mu_bn hb H.lt H
theorem mu_al {b k : Nat} {W : World} {h : Int → Int → Option Int} (ob : Obj) (H : MapU W b k h) : MapU (W.alloc ob) b k h := mu_be (below_alloc (Below.refl _ _) (Nat.le_refl _) ob) H
theorem mu_dr {b k : Nat} {W : World} {h : Int → Int → Option Int} (n : Nat) (H : MapU W b k h) : MapU (W.drewN n) b k h := H
theorem mu_d1 {b k : Nat} {W : World} {h : Int → Int → Option Int} (H : MapU W b k h) : MapU W.drew b k h := H
theorem mu_out {N b k : Nat} {W W' : World} {h : Int → Int → Option Int} (ho : Out1 N W W') (hne : b ≠ N) (H : MapU W b k h) : MapU W' b k h := mu_block (ho.block b H.lt hne) H
theorem mu_set {b k : Nat} {W : World} {h : Int → Int → Option Int} {p : Addr} {u : Value} (hne : b ≠ p.block) (H : MapU W b k h) : MapU (W.setCell p u) b k h := mu_block (Below.heap_setCell _ _ _ _ hne) H
theorem mb_bn {n b k : Nat} {W W' : World} {s : Int → Int → Bool} (hb : Below n W W') (hlt : b < n) (H : MapB W b k s) : MapB W' b k s := mb_block (hb.block b hlt) H
theorem mb_be {b k : Nat} {W W' : World} {s : Int → Int → Bool} (hb : Below W.heap.size W W') (H : MapB W b k s) : MapB W' b k s := mb_bn hb H.lt H
theorem mb_al {b k : Nat} {W : World} {s : Int → Int → Bool} (ob : Obj) (H : MapB W b k s) : MapB (W.alloc ob) b k s := mb_be (below_alloc (Below.refl _ _) (Nat.le_refl _) ob) H
theorem mb_dr {b k : Nat} {W : World} {s : Int → Int → Bool} (n : Nat) (H : MapB W b k s) : MapB (W.drewN n) b k s := H
theorem mb_d1 {b k : Nat} {W : World} {s : Int → Int → Bool} (H : MapB W b k s) : MapB W.drew b k s := H
theorem mb_out {N b k : Nat} {W W' : World} {s : Int → Int → Bool} (ho : Out1 N W W') (hne : b ≠ N) (H : MapB W b k s) : MapB W' b k s := mb_block (ho.block b H.lt hne) H
theorem mb_set {b k : Nat} {W : World} {s : Int → Int → Bool} {p : Addr} {u : Value} (hne : b ≠ p.block) (H : MapB W b k s) : MapB (W.setCell p u) b k s := mb_block (Below.heap_setCell _ _ _ _ hne) H
theorem out_grown {b : Nat} {W W' : World} (h : W.grownBy W' (some b)) : Out1 b W W' := ⟨h.os, h.tape, h.output, h.size, fun k hk hne => h.block k hk (fun e => hne (by injection e))⟩
theorem mu_made (w : World) : MapU (w.alloc (.map #[] 0)) w.heap.size 0 (fun _ _ => none) := ⟨.map [], World.ownsMap_made _ _ _ _, fun a n _ _ => ⟨rfl, fun x hx => by cases hx⟩⟩
theorem mb_made (w : World) : MapB (w.alloc (.map #[] 0)) w.heap.size 0 (fun _ _ => false) := ⟨.map [], World.ownsMap_made _ _ _ _, fun _ _ _ _ => rfl⟩

section
variable {w : World} {ops : Array Oper} {rest : List Oper} {o : Oper} {a : Act} {Q : Exit → Act → World → Prop} {b k : Nat} {A N : Int}
theorem wpList_look_mu {h : Int → Int → Option Int} (hg : o.guard = none) (m x : Operand) (hop : o.op = Op.lookup 59 m x true) (hm : a.eval m = .map (some b)) (H : MapU w b k h) (ha : Wf A) (hn : Wf N) (hx : a.eval x = .agg #[.int .u64 A, .int .u64 N])
    (hK : ∀ c : Int, (∀ x, h A N = some x → c = x) → wpList Try.prog ops Q rest (a.put o.dst (.tuple #[.int .u64 c, .bool (h A N).isSome])) w) : wpList Try.prog ops Q (o :: rest) a w := by
  obtain ⟨D, h1, h2⟩ := H
  obtain ⟨e1, e2⟩ := h2 A N ha hn
  refine wpList_lookup_own_ok_int w hg m x 59 hop 61 23 .u64 key_keyed Try.underlying59 Try.underlying23 (by kernel_rfl) b k D hm h1 _ _ hx (key_mk ha hn) ?_
  intro c hc _
  rw [e1]
  refine hK c fun x hx => ?_
  have := e2 x hx
  rw [hc] at this
  simpa using this
theorem wpList_look_mb {s : Int → Int → Bool} (hg : o.guard = none) (m x : Operand) (hop : o.op = Op.lookup 62 m x false) (hm : a.eval m = .map (some b)) (H : MapB w b k s) (ha : Wf A) (hn : Wf N) (hx : a.eval x = .agg #[.int .u64 A, .int .u64 N])
    (hK : wpList Try.prog ops Q rest (a.put o.dst (.bool (s A N))) w) : wpList Try.prog ops Q (o :: rest) a w := by
  obtain ⟨D, h1, h2⟩ := H
  have e1 := h2 A N ha hn
  obtain ⟨v, ps, hrun, hv⟩ := h1.lookup key_keyed Try.underlying62 (z := .bool false) (by kernel_rfl) (plainElem_bool Try.underlying4 false) (key_mk ha hn)
  rw [e1] at hv
  have hvb : v = .bool (s A N) := by
    unfold plainElem at hv
    rw [Try.underlying4] at hv
    split at hv <;> simp_all
  subst hvb
  refine wpList_plain hg fun K' hK' => ?_
  unfold Oper.wp
  simp [execOp, hop, hm, hx, hrun, Result.andThen]
  exact hK' _ _ hK
theorem wpList_store_mu {h : Int → Int → Option Int} (hg : o.guard = none) (m x v : Operand) (hop : o.op = Op.mapUpdate 59 m x v) (hm : a.eval m = .map (some b)) (H : MapU w b k h) (hk : k < 1000) (ha : Wf A) (hn : Wf N) (X : Int) (hX : Wf X) (hx : a.eval x = .agg #[.int .u64 A, .int .u64 N]) (hv : a.eval v = .int .u64 X)
    (hK : ∀ w', MapU w' b (k + 1) (upd2 h A N (some X)) → Out1 b w w' → wpList Try.prog ops Q rest (a.put o.dst undef) w') : wpList Try.prog ops Q (o :: rest) a w := by
  obtain ⟨D, h1, h2⟩ := H
  refine wpList_mapUpdate_own w hg m x v 59 hop 61 23 key_keyed Try.underlying59 (plainElem Try.prog 23) b k D hm h1 (by unfold maxLen; omega) _ _ (KL A N) hx hv (key_mk ha hn) (.lit (.int .u64 X)) [] (plainElem_int Try.underlying23 (wf_lit hX)) ?_
  intro w' r1 r2
  refine hK w' ⟨_, r1, fun a n wa wn => ?_⟩ (out_grown r2)
  unfold upd2
  by_cases e : a = A ∧ n = N
  · obtain ⟨rfl, rfl⟩ := e
    rw [if_pos ⟨rfl, rfl⟩]
    refine ⟨has_put_same h1.isMap key_is _, fun x hx => ?_⟩
    injection hx with hx
    subst hx
    exact atKey_put_same h1.isMap key_is _ _
  · rw [if_neg e]
    have hne : KL a n ≠ KL A N := fun x => e (key_inj wa wn ha hn x)
    rw [has_put_other hne]
    refine ⟨(h2 a n wa wn).1, fun x hx => ?_⟩
    rw [atKey_put_other hne]
    exact (h2 a n wa wn).2 x hx
theorem wpList_store_mb {s : Int → Int → Bool} (hg : o.guard = none) (m x v : Operand) (hop : o.op = Op.mapUpdate 62 m x v) (hm : a.eval m = .map (some b)) (H : MapB w b k s) (hk : k < 1000) (ha : Wf A) (hn : Wf N) (hx : a.eval x = .agg #[.int .u64 A, .int .u64 N]) (hv : a.eval v = .bool true)
    (hK : ∀ w', MapB w' b (k + 1) (upd2 s A N true) → Out1 b w w' → wpList Try.prog ops Q rest (a.put o.dst undef) w') : wpList Try.prog ops Q (o :: rest) a w := by
  obtain ⟨D, h1, h2⟩ := H
  refine wpList_mapUpdate_own w hg m x v 62 hop 61 4 key_keyed Try.underlying62 (plainElem Try.prog 4) b k D hm h1 (by unfold maxLen; omega) _ _ (KL A N) hx hv (key_mk ha hn) (.lit (.bool true)) [] (plainElem_bool Try.underlying4 true) ?_
  intro w' r1 r2
  refine hK w' ⟨_, r1, fun a n wa wn => ?_⟩ (out_grown r2)
  unfold upd2
  by_cases e : a = A ∧ n = N
  · obtain ⟨rfl, rfl⟩ := e
    rw [if_pos ⟨rfl, rfl⟩]
    exact atKey_put_same h1.isMap key_is _ _
  · rw [if_neg e, atKey_put_other (fun x => e (key_inj wa wn ha hn x))]
    exact h2 a n wa wn
theorem mu_drop {h : Int → Int → Option Int} (H : MapU w b k h) (ha : Wf A) (hn : Wf N) (ty : TypeId) : ∃ w', (Builtin.delete_ #[59, 61] ty #[.map (some b), .agg #[.int .u64 A, .int .u64 N]]).run Try.prog w = .ok (.tuple #[]) w' ∧ MapU w' b k (upd2 h A N none) ∧ Out1 b w w' := by
  obtain ⟨D, h1, h2⟩ := H
  obtain ⟨w', hrun, r1, r2⟩ := h1.drop key_keyed Try.underlying59 (key_mk ha hn) ty
  refine ⟨w', hrun, ⟨_, r1, fun a n wa wn => ?_⟩, out_grown r2.grown⟩
  unfold upd2
  by_cases e : a = A ∧ n = N
  · obtain ⟨rfl, rfl⟩ := e
    rw [if_pos ⟨rfl, rfl⟩, has_del_same]
    exact ⟨rfl, fun x hx => by cases hx⟩
  · rw [if_neg e]
    have hne : KL a n ≠ KL A N := fun x => e (key_inj wa wn ha hn x)
    rw [has_del_other hne]
    refine ⟨(h2 a n wa wn).1, fun x hx => ?_⟩
    rw [atKey_del_other hne]
    exact (h2 a n wa wn).2 x hx
theorem wpList_del_mu {h : Int → Int → Option Int} (hg : o.guard = none) (m x : Operand) (hop : o.op = Op.call { callee := Callee.builtin Builtin.delete, args := #[m, x], argTypes := #[59, 61] }) (hm : a.eval m = .map (some b)) (H : MapU w b k h) (ha : Wf A) (hn : Wf N) (hx : a.eval x = .agg #[.int .u64 A, .int .u64 N])
    (hK : ∀ w', MapU w' b k (upd2 h A N none) → Out1 b w w' → wpList Try.prog ops Q rest (a.put o.dst (.tuple #[])) w') : wpList Try.prog ops Q (o :: rest) a w := by
  refine wpList_plain hg fun K' hK' => ?_
  obtain ⟨w', hrun, r1, r2⟩ := mu_drop H ha hn o.type
  unfold Oper.wp
  simp [execOp, hop, resolve, invoke, builtin, hm, hx, hrun, Result.andThen]
  exact hK' _ _ (hK w' r1 r2)
theorem step_del_mu {K : Act → World → Prop} {E : Prop} {h : Int → Int → Option Int} (hg : o.guard = none) (m x : Operand) (hop : o.op = Op.call { callee := Callee.builtin Builtin.delete, args := #[m, x], argTypes := #[59, 61] }) (hm : a.eval m = .map (some b)) (H : MapU w b k h) (ha : Wf A) (hn : Wf N) (hx : a.eval x = .agg #[.int .u64 A, .int .u64 N])
    (hK : ∀ w', MapU w' b k (upd2 h A N none) → Out1 b w w' → K (a.put o.dst (.tuple #[])) w') : if Region.wanted o (yielded ops a.tmps) = true then Oper.wp Try.prog o a w K Q else E := by
  have hw : Region.wanted o (yielded ops a.tmps) = true := by simp [Region.wanted, hg]
  rw [if_pos hw]
  obtain ⟨w', hrun, r1, r2⟩ := mu_drop H ha hn o.type
  unfold Oper.wp
  simp [execOp, hop, resolve, invoke, builtin, hm, hx, hrun, Result.andThen]
  exact hK w' r1 r2
end
end Go.Proofs.Ytikdoknfcikfgaa
