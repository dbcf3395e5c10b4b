/-
  Blocks as lists of bytes; a map from numbers to arrays of bytes, as a function; a device as it lies in a block.
-/
import Derived.Test.YtadhjgjemndnpaaOwn
import Derived.Test.YtadhjgjemndnpaaLong
import Derived.Maps.OwnSet
import Derived.Maps.Views
import Derived.Deep.WholeRow
import Derived.Laws.IdiomStrings
import Derived.DeepKeys
namespace Go.Proofs.Ytadhjgjemndnpaa
open Go.RowKit Go.Maps

/-- The cells of bytes. -/
def cellsB (l : List UInt8) : List Value := l.map (fun b => Value.int .u8 (b.toNat : Int))
theorem cellsB_length (l : List UInt8) : (cellsB l).length = l.length := by simp [cellsB]
theorem cellsB_at {l : List UInt8} {j : Nat} {v : Value} (h : (cellsB l)[j]? = some v) : ∃ b, l[j]? = some b ∧ v = .int .u8 (b.toNat : Int) := by
  unfold cellsB at h
  rw [List.getElem?_map] at h
  cases e : l[j]? with
  | none => rw [e] at h; cases h
  | some b => rw [e] at h; exact ⟨b, rfl, by simpa using h.symm⟩
theorem cellsB_get {l : List UInt8} {j : Nat} {b : UInt8} (h : l[j]? = some b) : (cellsB l)[j]? = some (.int .u8 (b.toNat : Int)) := by simp [cellsB, h]
theorem cellsB_one (l : List UInt8) : (cellsB l).toArray.all (·.oneCell') = true := by
  refine all_oneCell_toArray fun v hv => ?_
  obtain ⟨b, _, rfl⟩ := List.mem_map.1 hv
  rfl
/-- A text of these bytes. -/
def str (l : List UInt8) : ByteArray := ⟨l.toArray⟩
theorem str_size (l : List UInt8) : (str l).size = l.length := by simp [str, ByteArray.size]
theorem str_inj {a b : List UInt8} (h : str a = str b) : a = b := by
  have := congrArg (fun s => s.data.toList) h
  simpa [str] using this
theorem str_add (a b : List UInt8) : str a ++ str b = str (a ++ b) := by
  unfold str
  apply ByteArray.ext
  simp
/-- Zeros. -/
def zeroB : List UInt8 := List.replicate 4096 0
theorem zeroB_length : zeroB.length = 4096 := List.length_replicate

set_option maxRecDepth 100000 in
theorem arr_zero : (Try.prog.info? 54).map (fun i => (i.zero, i.size)) = some (some (.agg (cellsB zeroB).toArray), 4096) := by kernel_rfl
theorem arr_zeroV (w : World) : (zeroValue 54).run Try.prog w = .ok (.agg (cellsB zeroB).toArray) w := (zero_of_info arr_zero).1 w
theorem arr_size : (Try.prog.info? 54).map (·.size) = some 4096 := (zero_of_info arr_zero).2

abbrev ED := DataW Value
/-- An element of the map is told by itself. -/
def selfR (v : Value) : Option (ED × List MemPlace) := some (.held v, [])
theorem lit_wf (a : Nat) (h : a < 64) : (Lit.int .i64 (a : Int)).wf = true := by
  have e1 : IntKind.i64.min = -9223372036854775808 := by decide
  have e2 : IntKind.i64.max = 9223372036854775807 := by decide
  simp only [Lit.wf, e1, e2, Bool.and_eq_true, decide_eq_true_eq]
  omega
theorem key_keyed : Keyed Try.prog 3 := int_keyed Try.underlying3
theorem key_mk (a : Nat) (h : a < 64) : keyOf Try.prog 3 (.int .i64 (a : Int)) = some (.int .i64 (a : Int)) := keyOf_int_mk Try.underlying3 (lit_wf a h)
theorem key_is (a : Int) : WideAt.IsKeyLit (.int .i64 a) := trivial
theorem key_ne {a b : Nat} (h : ¬ a = b) : (Lit.int .i64 (a : Int)) ≠ .int .i64 (b : Int) := fun e => h (by injection e with _ e; omega)

/-- Block b is a map, of at most k entries: to the number i belongs C i. -/
def MapB (W : World) (b k : Nat) (C : Nat → List UInt8) : Prop := ∃ D : ED, W.ownsMap Try.prog 3 selfR b k D ∧ ∀ a : Nat, a < 64 → D.atKey (.int .i64 (a : Int)) (.held (.agg (cellsB zeroB).toArray)) = .held (.agg (cellsB (C a)).toArray)
def setC (C : Nat → List UInt8) (i : Nat) (l : List UInt8) : Nat → List UInt8 := fun j => if j = i then l else C j
theorem mb_block {W W' : World} {b k : Nat} {C : Nat → List UInt8} (hb : W'.heap[b]? = W.heap[b]?) (H : MapB W b k C) : MapB W' b k C := by
  obtain ⟨D, ⟨es, cl, h1, h2⟩, h3⟩ := H
  exact ⟨D, ⟨es, cl, hb.trans h1, h2⟩, h3⟩
theorem MapB.lt {W : World} {b k : Nat} {C : Nat → List UInt8} (H : MapB W b k C) : b < W.heap.size := by
  obtain ⟨D, h1, _⟩ := H
  exact h1.lt
theorem MapB.mono {W : World} {b k n : Nat} {C : Nat → List UInt8} (H : MapB W b k C) (h : k ≤ n) : MapB W b n C := by
  obtain ⟨D, h1, h2⟩ := H
  exact ⟨D, h1.mono h, h2⟩
theorem mb_bn {n b k : Nat} {W W' : World} {C : Nat → List UInt8} (hb : Below n W W') (hlt : b < n) (H : MapB W b k C) : MapB W' b k C := mb_block (hb.block b hlt) H
theorem mb_be {b k : Nat} {W W' : World} {C : Nat → List UInt8} (hb : Below W.heap.size W W') (H : MapB W b k C) : MapB W' b k C := mb_bn hb H.lt H
theorem mb_al {b k : Nat} {W : World} {C : Nat → List UInt8} (ob : Obj) (H : MapB W b k C) : MapB (W.alloc ob) b k C := mb_be (below_alloc (Below.refl _ _) (Nat.le_refl _) ob) H
theorem mb_dr {b k : Nat} {W : World} {C : Nat → List UInt8} (n : Nat) (H : MapB W b k C) : MapB (W.drewN n) b k C := H
theorem mb_d1 {b k : Nat} {W : World} {C : Nat → List UInt8} (H : MapB W b k C) : MapB W.drew b k C := H
theorem mb_out {N b k : Nat} {W W' : World} {C : Nat → List UInt8} (ho : OutB N W W') (hne : b ≠ N) (H : MapB W b k C) : MapB W' b k C := mb_block (ho.block b H.lt hne) H
theorem mb_set {W : World} {b k : Nat} {p : Addr} {u : Value} {C : Nat → List UInt8} (hne : b ≠ p.block) (h : MapB W b k C) : MapB (W.setCell p u) b k C := mb_block (Below.heap_setCell _ _ _ _ hne) h
theorem mb_made (w : World) : MapB (w.alloc (.map #[] 0)) w.heap.size 0 (fun _ => zeroB) := ⟨.map [], World.ownsMap_made _ _ _ _, fun a _ => by simp [DataW.atKey]⟩

section
variable {w : World} {ops : Array Oper} {rest : List Oper} {o : Oper} {a : Act} {Q : Exit → Act → World → Prop} {b k : Nat} {C : Nat → List UInt8}
theorem lookup_mb (H : MapB w b k C) (j : Nat) (hj : j < 64) : (Instr.lookup 45 (.map (some b)) (.int .i64 (j : Int)) false).run Try.prog w = .ok (.agg (cellsB (C j)).toArray) w := by
  obtain ⟨D, h1, h2⟩ := H
  obtain ⟨v, ps, hrun, hv⟩ := h1.lookup key_keyed Try.underlying45 (z := .agg (cellsB zeroB).toArray) (arr_zeroV w) (by rfl) (key_mk j hj)
  rw [h2 j hj] at hv
  have hvb : v = .agg (cellsB (C j)).toArray := by
    unfold selfR at hv
    injection hv with hv
    injection hv with hv _
    injection hv
  subst hvb
  exact hrun
theorem wpList_store_mb (j : Nat) (hj : j < 64) (l : List UInt8) (hg : o.guard = none) (m x v : Operand) (hop : o.op = Op.mapUpdate 45 m x v) (hm : a.eval m = .map (some b)) (H : MapB w b k C) (hk : k < 1000) (hx : a.eval x = .int .i64 (j : Int)) (hv : a.eval v = .agg (cellsB l).toArray)
    (hK : ∀ w', MapB w' b (k + 1) (setC C j l) → OutB b w w' → wpList Try.prog ops Q rest (a.put o.dst undef) w') : wpList Try.prog ops Q (o :: rest) a w := by
  obtain ⟨D, h1, h2⟩ := H
  refine wpList_mapUpdate_own w hg m x v 45 hop 3 54 key_keyed Try.underlying45 selfR b k D hm h1 (by unfold maxLen; omega) _ _ (.int .i64 (j : Int)) hx hv (key_mk j hj) (.held (.agg (cellsB l).toArray)) [] rfl ?_
  intro w' r1 r2
  refine hK w' ⟨_, r1, fun a ha => ?_⟩ (outB_grown r2)
  unfold setC
  by_cases e : a = j
  · subst e
    rw [if_pos rfl]
    exact atKey_put_same h1.isMap (key_is _) _ _
  · rw [if_neg e, atKey_put_other (key_ne e)]
    exact h2 a ha
end

/-- The device in block b: how many blocks, its map, how many calls are to fail. -/
def DevAt (W : World) (b : Nat) (n : Int) (m : Nat) (f : Int) : Prop := W.heap[b]? = some (.cells #[.int .i64 n, .map (some m), .int .i64 f] 47 (0, 0))
/-- A device that nobody made. -/
def DevZero (W : World) (b : Nat) : Prop := W.heap[b]? = some (.cells #[.int .i64 0, .map none, .int .i64 0] 47 (0, 0))
section
variable {W W' : World} {b m N : Nat} {n f : Int}
theorem DevAt.lt (h : DevAt W b n m f) : b < W.heap.size := (Array.getElem?_eq_some_iff.1 h).1
theorem DevAt.c0 (h : DevAt W b n m f) : W.cell? ⟨b, 0, none⟩ = some (.int .i64 n) := by simp [World.cell?, show W.heap[b]? = _ from h]
theorem DevAt.c1 (h : DevAt W b n m f) : W.cell? ⟨b, 1, none⟩ = some (.map (some m)) := by simp [World.cell?, show W.heap[b]? = _ from h]
theorem DevAt.c2 (h : DevAt W b n m f) : W.cell? ⟨b, 2, none⟩ = some (.int .i64 f) := by simp [World.cell?, show W.heap[b]? = _ from h]
theorem DevAt.fz {i : Nat} (h : DevAt W b n m f) : W.frozen? ⟨b, i, none⟩ = false := by simp [World.frozen?, show W.heap[b]? = _ from h]
theorem dev_block (hb : W'.heap[b]? = W.heap[b]?) (h : DevAt W b n m f) : DevAt W' b n m f := hb.trans h
theorem dev_be (hb : Below W.heap.size W W') (h : DevAt W b n m f) : DevAt W' b n m f := dev_block (hb.block b h.lt) h
theorem dev_al (ob : Obj) (h : DevAt W b n m f) : DevAt (W.alloc ob) b n m f := dev_be (below_alloc (Below.refl _ _) (Nat.le_refl _) ob) h
theorem dev_dr (k : Nat) (h : DevAt W b n m f) : DevAt (W.drewN k) b n m f := h
theorem dev_d1 (h : DevAt W b n m f) : DevAt W.drew b n m f := h
theorem dev_out (ho : OutB N W W') (hne : b ≠ N) (h : DevAt W b n m f) : DevAt W' b n m f := dev_block (ho.block b h.lt hne) h
theorem dev_set {p : Addr} {u : Value} (hne : b ≠ p.block) (h : DevAt W b n m f) : DevAt (W.setCell p u) b n m f := dev_block (Below.heap_setCell _ _ _ _ hne) h
/-- Other calls are to fail. -/
theorem dev_put (g : Int) (h : DevAt W b n m f) : DevAt (W.setCell ⟨b, 2, none⟩ (.int .i64 g)) b n m g := by
  show (W.setCell ⟨b, 2, none⟩ _).heap[b]? = _
  unfold World.setCell
  simp only [Array.getElem?_modify]
  rw [show W.heap[b]? = _ from h]
  simp
theorem DevZero.lt (h : DevZero W b) : b < W.heap.size := (Array.getElem?_eq_some_iff.1 h).1
theorem DevZero.c0 (h : DevZero W b) : W.cell? ⟨b, 0, none⟩ = some (.int .i64 0) := by simp [World.cell?, show W.heap[b]? = _ from h]
theorem dz_be (hb : Below W.heap.size W W') (h : DevZero W b) : DevZero W' b := (hb.block b h.lt).trans h
theorem dz_al (ob : Obj) (h : DevZero W b) : DevZero (W.alloc ob) b := dz_be (below_alloc (Below.refl _ _) (Nat.le_refl _) ob) h
theorem dz_dr (k : Nat) (h : DevZero W b) : DevZero (W.drewN k) b := h
end
end Go.Proofs.Ytadhjgjemndnpaa
