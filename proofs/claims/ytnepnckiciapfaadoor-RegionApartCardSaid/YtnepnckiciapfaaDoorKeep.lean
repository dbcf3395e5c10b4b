/-
  What a cell holds stays: behind a draw, behind new memory, behind a store into another block, behind a call that keeps what was there; rules for a walk, one step each. No program text here.
-/
import Derived.Test.YtnepnckiciapfaaDoorGrows
namespace Go.Proofs.YtnepnckiciapfaaDoor
open Go.RowKit
theorem c_dr {W : World} {a : Addr} {v : Value} (k : Nat) (h : W.cell? a = some v) : (W.drewN k).cell? a = some v := h
theorem c_d1 {W : World} {a : Addr} {v : Value} (h : W.cell? a = some v) : W.drew.cell? a = some v := h
theorem c_al {W : World} {a : Addr} {v : Value} (o : Obj) (h : W.cell? a = some v) : (W.alloc o).cell? a = some v := (World.cell?_alloc_lt W o a (World.block_lt_of_cell? W a h)).trans h
theorem c_set {W : World} {a p : Addr} {v u : Value} (hne : p.block ≠ a.block) (h : W.cell? a = some v) : (W.setCell p u).cell? a = some v := by
  exact (World.cell?_setCell_other _ _ _ _ (fun e => hne (congrArg Addr.block e))).trans h
theorem c_be {W W' : World} {a : Addr} {v : Value} (hb : Below W.heap.size W W') (h : W.cell? a = some v) : W'.cell? a = some v := (hb.cell (World.block_lt_of_cell? W a h)).trans h
/-- The first k cells of a block are there, and may be written. -/
def Own (W : World) (b k : Nat) : Prop := ∀ i, i < k → (W.cell? ⟨b, i, none⟩).isSome = true ∧ W.frozen? ⟨b, i, none⟩ = false
theorem o_new {W : World} {cs : Array Value} {t : TypeId} {b k : Nat} (hb : b = W.heap.size) (hk : k ≤ cs.size) : Own (W.alloc (.cells cs t)) b k := fun i hi => by
  subst hb
  have : i < cs.size := Nat.lt_of_lt_of_le hi hk
  constructor
  · simp [go_sem, this]
  · simp [go_sem]
theorem o_dr {W : World} {b k : Nat} (n : Nat) (h : Own W b k) : Own (W.drewN n) b k := h
theorem o_d1 {W : World} {b k : Nat} (h : Own W b k) : Own W.drew b k := h
theorem o_be {W W' : World} {b k : Nat} (hb : Below W.heap.size W W') (h : Own W b k) : Own W' b k := fun i hi => by
  obtain ⟨v, hv⟩ := Option.isSome_iff_exists.1 (h i hi).1
  have hlt : b < W.heap.size := World.block_lt_of_cell? W _ hv
  exact ⟨by rw [hb.cell (p := ⟨b, i, none⟩) hlt]; exact (h i hi).1, by rw [hb.frozen (p := ⟨b, i, none⟩) hlt]; exact (h i hi).2⟩
theorem o_al {W : World} {b k : Nat} (o : Obj) (h : Own W b k) : Own (W.alloc o) b k := o_be (below_alloc (Below.refl _ _) (Nat.le_refl _) o) h
theorem o_set {W : World} {b k : Nat} {p : Addr} {u : Value} (h : Own W b k) : Own (W.setCell p u) b k := fun i hi => by
  obtain ⟨v, hv⟩ := Option.isSome_iff_exists.1 (h i hi).1
  obtain ⟨v', hv'⟩ := RowKit.cell?_setCell_some (p := p) (x := u) hv
  exact ⟨by rw [hv']; rfl, by rw [World.frozen?_setCell]; exact (h i hi).2⟩
theorem Own.some {W : World} {b k : Nat} (h : Own W b k) (i : Nat) (hi : i < k) : (W.cell? ⟨b, i, none⟩).isSome = true := (h i hi).1
theorem Own.val {W : World} {b k : Nat} (h : Own W b k) (i : Nat) (hi : i < k) : ∃ v, W.cell? ⟨b, i, none⟩ = .some v := Option.isSome_iff_exists.1 (h i hi).1
theorem Own.free {W : World} {b k : Nat} (h : Own W b k) (i : Nat) (hi : i < k) : W.frozen? ⟨b, i, none⟩ = false := (h i hi).2
theorem s_dr {W : World} (n : Nat) : (W.drewN n).heap.size = W.heap.size := rfl
theorem s_d1 {W : World} : W.drew.heap.size = W.heap.size := rfl
theorem s_al {W : World} (o : Obj) : (W.alloc o).heap.size = W.heap.size + 1 := by simp
theorem s_set {W : World} (p : Addr) (v : Value) : (W.setCell p v).heap.size = W.heap.size := by simp
end Go.Proofs.YtnepnckiciapfaaDoor
