/-
  A map from numbers to bools, as a word: of each number below 64 whether it is in.
-/
import Derived.Test.YtkblpbnppkfjnaaOwn
import Derived.Test.YtkblpbnppkfjnaaFrmMath2
import Derived.Maps.OwnSet
import Derived.Maps.Views
import Derived.Deep.RegionLaw
import Derived.OrdersHeld
namespace Go.Proofs.Ytkblpbnppkfjnaa
open Go.RowKit Go.Maps Words ScaleMath FrmMath

abbrev ED := DataW Unit
theorem lit_wf (a : Nat) (h : a < 64) : (Lit.int .i64 (a : Int)).wf = true := by
  have e1 : IntKind.i64.min = -9223372036854775808 := by decide
  have e2 : IntKind.i64.max = 9223372036854775807 := by decide
  simp only [Lit.wf, e1, e2, Bool.and_eq_true, decide_eq_true_eq]
  omega
theorem key_keyed : Keyed Try.prog 3 := int_keyed Try.underlying3
theorem key_mk (a : Nat) (h : a < 64) : keyOf Try.prog 3 (.int .i64 (a : Int)) = some (.int .i64 (a : Int)) := keyOf_int_mk Try.underlying3 (lit_wf a h)
theorem key_is (a : Int) : WideAt.IsKeyLit (.int .i64 a) := trivial
theorem key_ne {a b : Nat} (h : ¬ a = b) : (Lit.int .i64 (a : Int)) ≠ .int .i64 (b : Int) := fun e => h (by injection e with _ e; omega)

/-- Block b is a map, of at most k entries: it has the numbers of G, each true. -/
def MapG (W : World) (b k : Nat) (G : BitVec 64) : Prop := ∃ D : ED, W.ownsMap Try.prog 3 (plainElem Try.prog 4) b k D ∧ Maps.size D = (onesL G).length ∧ ∀ a : Nat, a < 64 → Maps.has D (.int .i64 (a : Int)) = G.getLsbD a ∧ D.atKey (.int .i64 (a : Int)) (.lit (.bool false)) = .lit (.bool (G.getLsbD a))
theorem mg_block {W W' : World} {b k : Nat} {G : BitVec 64} (hb : W'.heap[b]? = W.heap[b]?) (H : MapG W b k G) : MapG W' b k G := by
  obtain ⟨D, ⟨es, cl, h1, h2⟩, h3⟩ := H
  exact ⟨D, ⟨es, cl, hb.trans h1, h2⟩, h3⟩
theorem MapG.lt {W : World} {b k : Nat} {G : BitVec 64} (H : MapG W b k G) : b < W.heap.size := by
  obtain ⟨D, h1, _⟩ := H
  exact h1.lt
theorem mg_bn {n b k : Nat} {W W' : World} {G : BitVec 64} (hb : Below n W W') (hlt : b < n) (H : MapG W b k G) : MapG W' b k G := mg_block (hb.block b hlt) H
theorem mg_be {b k : Nat} {W W' : World} {G : BitVec 64} (hb : Below W.heap.size W W') (H : MapG W b k G) : MapG W' b k G := mg_bn hb H.lt H
theorem mg_al {b k : Nat} {W : World} {G : BitVec 64} (ob : Obj) (H : MapG W b k G) : MapG (W.alloc ob) b k G := mg_be (below_alloc (Below.refl _ _) (Nat.le_refl _) ob) H
theorem mg_dr {b k : Nat} {W : World} {G : BitVec 64} (n : Nat) (H : MapG W b k G) : MapG (W.drewN n) b k G := H
theorem mg_d1 {b k : Nat} {W : World} {G : BitVec 64} (H : MapG W b k G) : MapG W.drew b k G := H
theorem mg_out {N b k : Nat} {W W' : World} {G : BitVec 64} (ho : OutB N W W') (hne : b ≠ N) (H : MapG W b k G) : MapG W' b k G := mg_block (ho.block b H.lt hne) H
theorem mg_made (w : World) : MapG (w.alloc (.map #[] 0)) w.heap.size 0 0#64 := ⟨.map [], World.ownsMap_made _ _ _ _, rfl, fun a _ => ⟨by simp [Maps.has], by simp [DataW.atKey]⟩⟩

section
variable {w : World} {ops : Array Oper} {rest : List Oper} {o : Oper} {a : Act} {Q : Exit → Act → World → Prop} {b k : Nat} {G : BitVec 64}
theorem lookup_mg (H : MapG w b k G) (j : Nat) (hj : j < 64) : (Instr.lookup 44 (.map (some b)) (.int .i64 (j : Int)) false).run Try.prog w = .ok (.bool (G.getLsbD j)) w := by
  obtain ⟨D, h1, _, h2⟩ := H
  have e1 := (h2 j hj).2
  obtain ⟨v, ps, hrun, hv⟩ := h1.lookup key_keyed Try.underlying44 (z := .bool false) (by kernel_rfl) (plainElem_bool Try.underlying4 false) (key_mk j hj)
  rw [e1] at hv
  have hvb : v = .bool (G.getLsbD j) := by
    unfold plainElem at hv
    rw [Try.underlying4] at hv
    split at hv <;> simp_all
  subst hvb
  exact hrun
theorem run_look_mg (H : MapG w b k G) (j : Nat) (hj : j < 64) {m x : Operand} (hop : o.op = Op.lookup 44 m x false) (hm : a.eval m = .map (some b)) (hx : a.eval x = .int .i64 (j : Int)) : (execOp a.eval o).run Try.prog w = .ok (.value (.bool (G.getLsbD j))) w := by
  have hrun := lookup_mg H j hj
  simp [execOp, hop, hm, hx, hrun, Result.andThen]
theorem yields_look (j : Nat) (hj : j < 64) (hg : o.guard = none) (m x : Operand) (hop : o.op = Op.lookup 44 m x false) (hm : a.eval m = .map (some b)) (hx : a.eval x = .int .i64 (j : Int)) : YieldsIf Try.prog ops (fun W => MapG W b k G) o (.bool (G.getLsbD j)) a :=
  .inl ⟨by simp [Region.wanted, hg], fun _ hW => run_look_mg hW j hj hop hm hx⟩
theorem wpList_look_mg (j : Nat) (hj : j < 64) (hw : Region.wanted o (yielded ops a.tmps) = true) (m x : Operand) (hop : o.op = Op.lookup 44 m x false) (hm : a.eval m = .map (some b)) (H : MapG w b k G) (hx : a.eval x = .int .i64 (j : Int))
    (hK : wpList Try.prog ops Q rest (a.put o.dst (.bool (G.getLsbD j))) w) : wpList Try.prog ops Q (o :: rest) a w := by
  have hrun := run_look_mg H j hj hop hm hx
  unfold wpList
  rw [if_pos hw]
  refine .inl ?_
  unfold Oper.wp
  rw [hrun]
  exact hK
theorem wpList_store_mg (j : Nat) (hj : j < 64) (hg : o.guard = none) (m x v : Operand) (hop : o.op = Op.mapUpdate 44 m x v) (hm : a.eval m = .map (some b)) (H : MapG w b k G) (hk : k < 1000) (hx : a.eval x = .int .i64 (j : Int)) (hv : a.eval v = .bool true)
    (hK : ∀ w', MapG w' b (k + 1) (setW G (j : Int)) → OutB b w w' → wpList Try.prog ops Q rest (a.put o.dst undef) w') : wpList Try.prog ops Q (o :: rest) a w := by
  obtain ⟨D, h1, hs, h2⟩ := H
  refine wpList_mapUpdate_own w hg m x v 44 hop 3 4 key_keyed Try.underlying44 (plainElem Try.prog 4) b k D hm h1 (by unfold maxLen; omega) _ _ (.int .i64 (j : Int)) hx hv (key_mk j hj) (.lit (.bool true)) [] (plainElem_bool Try.underlying4 true) ?_
  intro w' r1 r2
  refine hK w' ⟨_, r1, ?_, fun a ha => ?_⟩ (outB_grown r2)
  · rw [size_put (h1.tidy key_keyed), (h2 j hj).1, count_set G j hj, hs]
  · rw [set_bit _ _ _ ha, Int.toNat_natCast]
    by_cases e : a = j
    · subst e
      simp only [decide_true, Bool.or_true]
      exact ⟨has_put_same h1.isMap (key_is _) _, atKey_put_same h1.isMap (key_is _) _ _⟩
    · rw [has_put_other (key_ne e), atKey_put_other (key_ne e)]
      simp only [e, decide_false, Bool.or_false]
      exact h2 a ha
theorem wpList_len_mg (hg : o.guard = none) (m : Operand) (hop : o.op = Op.call { callee := Callee.builtin Builtin.len, args := #[m], argTypes := #[44] }) (hm : a.eval m = .map (some b)) (H : MapG w b k G)
    (hK : wpList Try.prog ops Q rest (a.put o.dst (.int .i64 ((onesL G).length : Int))) w) : wpList Try.prog ops Q (o :: rest) a w := by
  obtain ⟨D, h1, hs, _⟩ := H
  refine wpList_len_own (w := w) hg m 44 hop _ _ Try.underlying44 _ b k D hm h1 ?_
  rw [hs]
  exact hK
end
end Go.Proofs.Ytkblpbnppkfjnaa
