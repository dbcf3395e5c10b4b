/-
  A map from texts to places (how many instructions are ahead, how many marks have the name), as a function; what a look-up and a store do.
-/
import Derived.Test.YtlommbeokbicjaaGreatDoorAsmRead
import Derived.Maps.OwnSet
import Derived.StringKeys
namespace Go.Proofs.YtlommbeokbicjaaGreatDoor
open Go.RowKit InstMath AsmMath
open Go.Maps Go.WideMaps

abbrev ED := DataW Unit
/-- How a place reads. -/
def plElem : Value → Option (ED × List MemPlace)
  | .agg ⟨[.int .i64 a, .int .i64 t]⟩ => some (.agg [.lit (.int .i64 a), .lit (.int .i64 t)], [])
  | _ => none
def plV (x : Int × Int) : Value := .agg #[.int .i64 x.1, .int .i64 x.2]
def plD (x : Int × Int) : ED := .agg [.lit (.int .i64 x.1), .lit (.int .i64 x.2)]
theorem plElem_mk (x : Int × Int) : plElem (plV x) = some (plD x, []) := rfl
theorem plElem_inv {v : Value} {x : Int × Int} {ps : List MemPlace} (h : plElem v = some (plD x, ps)) : v = plV x := by
  unfold plElem at h
  split at h
  · simp [plD] at h
    obtain ⟨⟨h1, h2⟩, _⟩ := h
    subst h1 h2
    rfl
  · cases h
theorem zero_place (W : World) : (zeroValue 116).run Tryz.prog W = .ok (plV (0, 0)) W := by kernel_rfl
theorem key_str : Keyed Tryz.prog 9 := string_keyed Tryz.underlying9
def KS (s : List UInt8) : Lit := .string s
theorem key_mk {s : List UInt8} (h : s.length ≤ 1000000) : keyOf Tryz.prog 9 (.string (str s)) = some (KS s) := by
  rw [keyOf_string_mk Tryz.underlying9 (by rw [str_size]; unfold maxLen; omega), str_data]
  rfl
theorem KS_inj {s t : List UInt8} (h : KS s = KS t) : s = t := by unfold KS at h; injection h
/-- Block b is a map from texts to places, of at most k entries. -/
def MapS (W : World) (b k : Nat) (h : List UInt8 → Option (Int × Int)) : Prop :=
  ∃ D : ED, W.ownsMap Tryz.prog 9 plElem b k D ∧ ∀ s, Maps.has D (KS s) = (h s).isSome ∧ D.atKey (KS s) (plD (0, 0)) = plD ((h s).getD (0, 0))
def updS (h : List UInt8 → Option (Int × Int)) (s : List UInt8) (x : Int × Int) : List UInt8 → Option (Int × Int) := fun t => if t = s then some x else h t
theorem ms_block {W W' : World} {b k : Nat} {h : List UInt8 → Option (Int × Int)} (hb : W'.heap[b]? = W.heap[b]?) (H : MapS W b k h) : MapS W' b k h := by
  obtain ⟨D, ⟨es, cl, h1, h2⟩, h3⟩ := H
  exact ⟨D, ⟨es, cl, hb.trans h1, h2⟩, h3⟩
theorem MapS.lt {W : World} {b k : Nat} {h : List UInt8 → Option (Int × Int)} (H : MapS W b k h) : b < W.heap.size := by
  obtain ⟨D, h1, _⟩ := H
  exact h1.lt
theorem ms_be {b k : Nat} {W W' : World} {h : List UInt8 → Option (Int × Int)} (hb : Below W.heap.size W W') (H : MapS W b k h) : MapS W' b k h := ms_block (hb.block b H.lt) H
theorem ms_al {b k : Nat} {W : World} {h : List UInt8 → Option (Int × Int)} (ob : Obj) (H : MapS W b k h) : MapS (W.alloc ob) b k h := ms_be (below_alloc (Below.refl _ _) (Nat.le_refl _) ob) H
theorem ms_dr {b k : Nat} {W : World} {h : List UInt8 → Option (Int × Int)} (n : Nat) (H : MapS W b k h) : MapS (W.drewN n) b k h := H
theorem ms_d1 {b k : Nat} {W : World} {h : List UInt8 → Option (Int × Int)} (H : MapS W b k h) : MapS W.drew b k h := H
theorem ms_ob {N b k : Nat} {W W' : World} {h : List UInt8 → Option (Int × Int)} (ho : OutB N W W') (hne : b ≠ N) (H : MapS W b k h) : MapS W' b k h := ms_block (ho.block b H.lt hne) H
theorem ms_set {b k : Nat} {W : World} {h : List UInt8 → Option (Int × Int)} {p : Addr} {u : Value} (hne : p.block ≠ b) (H : MapS W b k h) : MapS (W.setCell p u) b k h := ms_block (Below.heap_setCell _ _ _ _ (Ne.symm hne)) H
theorem ms_made (w : World) : MapS (w.alloc (.map #[] 0)) w.heap.size 0 (fun _ => none) := ⟨.map [], World.ownsMap_made _ _ _ _, fun _ => ⟨rfl, rfl⟩⟩

section
variable {w : World} {ops : Array Oper} {rest : List Oper} {o : Oper} {a : Act} {Q : Exit → Act → World → Prop} {b k : Nat} {s : List UInt8}
theorem wpList_look_ms {h : List UInt8 → Option (Int × Int)} (hg : o.guard = none) (m x : Operand) (hop : o.op = Op.lookup 61 m x false) (hm : a.eval m = .map (some b)) (H : MapS w b k h) (hs : s.length ≤ 1000000) (hx : a.eval x = .string (str s))
    (hK : wpList Tryz.prog ops Q rest (a.put o.dst (plV ((h s).getD (0, 0)))) w) : wpList Tryz.prog ops Q (o :: rest) a w := by
  obtain ⟨D, h1, h2⟩ := H
  obtain ⟨e1, e2⟩ := h2 s
  obtain ⟨v, ps, hrun, hv⟩ := h1.lookup key_str Tryz.underlying61 (zero_place w) (plElem_mk (0, 0)) (key_mk hs)
  rw [e2] at hv
  obtain rfl := plElem_inv hv
  refine wpList_plain hg fun K' hK' => ?_
  unfold Oper.wp
  simp [execOp, hop, hm, hx, hrun, Result.andThen]
  exact hK' _ _ hK
theorem wpList_looko_ms {h : List UInt8 → Option (Int × Int)} (hg : o.guard = none) (m x : Operand) (hop : o.op = Op.lookup 61 m x true) (hm : a.eval m = .map (some b)) (H : MapS w b k h) (hs : s.length ≤ 1000000) (hx : a.eval x = .string (str s))
    (hK : wpList Tryz.prog ops Q rest (a.put o.dst (.tuple #[plV ((h s).getD (0, 0)), .bool (h s).isSome])) w) : wpList Tryz.prog ops Q (o :: rest) a w := by
  obtain ⟨D, h1, h2⟩ := H
  obtain ⟨e1, e2⟩ := h2 s
  refine wpList_lookup_own_ok w hg m x 61 hop 9 116 key_str Tryz.underlying61 plElem (zero_place w) (plD (0, 0)) [] (plElem_mk (0, 0)) b k D hm h1 _ _ hx (key_mk hs) ?_
  intro v ps hv
  rw [e2] at hv
  rw [plElem_inv hv, e1]
  exact hK
theorem wpList_store_ms {h : List UInt8 → Option (Int × Int)} (hg : o.guard = none) (m x v : Operand) (hop : o.op = Op.mapUpdate 61 m x v) (hm : a.eval m = .map (some b)) (H : MapS w b k h) (hk : k < 100000) (hs : s.length ≤ 1000000) (X : Int × Int) (hx : a.eval x = .string (str s)) (hv : a.eval v = plV X)
    (hK : ∀ w', MapS w' b (k + 1) (updS h s X) → OutB b w w' → wpList Tryz.prog ops Q rest (a.put o.dst undef) w') : wpList Tryz.prog ops Q (o :: rest) a w := by
  obtain ⟨D, h1, h2⟩ := H
  refine wpList_mapUpdate_own w hg m x v 61 hop 9 116 key_str Tryz.underlying61 plElem b k D hm h1 (by unfold maxLen; omega) _ _ (KS s) hx hv (key_mk hs) (plD X) [] (plElem_mk X) ?_
  intro w' r1 r2
  refine hK w' ⟨_, r1, fun t => ?_⟩ (outB_grown r2)
  have hkl : WideAt.IsKeyLit (KS s) := trivial
  unfold updS
  by_cases e : t = s
  · subst e
    rw [if_pos rfl]
    exact ⟨has_put_same h1.isMap hkl _, atKey_put_same h1.isMap hkl _ _⟩
  · rw [if_neg e]
    have hne : KS t ≠ KS s := fun x => e (KS_inj x)
    rw [has_put_other hne, atKey_put_other hne]
    exact h2 t
end
end Go.Proofs.YtlommbeokbicjaaGreatDoor
