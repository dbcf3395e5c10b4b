/-
  More rules for a walk, to be imported by the texts of new layers: rows of cells, worlds made letters, arrays of structs by value. No program text here.
-/
import Derived.Test.YtnepnckiciapfaaDoorKeep
import Derived.Test.YtnepnckiciapfaaDoorLawFrame
namespace Go.Proofs.YtnepnckiciapfaaDoor
open Go.RowKit
/-- The first cells of a block. -/
def Row (W : World) (b : Nat) (l : List Value) : Prop := ∀ i v, l[i]? = some v → W.cell? ⟨b, i, none⟩ = some v
theorem k_dr {W : World} {b : Nat} {l : List Value} (n : Nat) (h : Row W b l) : Row (W.drewN n) b l := h
theorem k_d1 {W : World} {b : Nat} {l : List Value} (h : Row W b l) : Row W.drew b l := h
theorem k_be {W W' : World} {b : Nat} {l : List Value} (hb : Below W.heap.size W W') (h : Row W b l) : Row W' b l := fun i v hv => c_be hb (h i v hv)
theorem k_al {W : World} {b : Nat} {l : List Value} (o : Obj) (h : Row W b l) : Row (W.alloc o) b l := fun i v hv => c_al o (h i v hv)
theorem k_set {W : World} {b : Nat} {l : List Value} {p : Addr} {u : Value} (hne : p.block ≠ b) (h : Row W b l) : Row (W.setCell p u) b l := fun i v hv => c_set hne (h i v hv)
theorem row_new {W : World} {cs : Array Value} {t : TypeId} {b : Nat} {l : List Value} (hb : b = W.heap.size) (hl : cs.toList = l) : Row (W.alloc (.cells cs t)) b l := fun i v hv => by
  subst hb hl
  simp [go_sem]
  simpa using hv
theorem row_nil {W : World} {b : Nat} : Row W b [] := fun i v hv => by simp at hv
theorem set_at {W : World} {b i j k : Nat} {u v : Value} (ho : Own W b k) (hi : i < k) (hv : if i = j then u = v else W.cell? ⟨b, j, none⟩ = some v) : (W.setCell ⟨b, i, none⟩ u).cell? ⟨b, j, none⟩ = some v := by
  by_cases h : i = j
  · subst h
    rw [if_pos rfl] at hv
    subst hv
    exact cell_same _ _ _ (ho.some i hi)
  · rw [if_neg h] at hv
    exact (World.cell?_setCell_other _ _ _ _ (fun e => h (congrArg Addr.off e))).trans hv
theorem row_store {W : World} {b n k : Nat} {l : List Value} {x y z : Value} (h : Row W b l) (ho : Own W b k) (hn : l.length = n) (hk : n + 3 ≤ k) :
    Row (((W.setCell ⟨b, n, none⟩ x).setCell ⟨b, n + 1, none⟩ y).setCell ⟨b, n + 2, none⟩ z) b (l ++ [x, y, z]) := by
  intro i v hv
  have h2 := hv
  rcases Nat.lt_or_ge i l.length with hi | hi
  · rw [List.getElem?_append_left hi] at hv
    refine set_at (o_set (o_set ho)) (by omega) ?_
    rw [if_neg (by omega)]
    refine set_at (o_set ho) (by omega) ?_
    rw [if_neg (by omega)]
    refine set_at ho (by omega) ?_
    rw [if_neg (by omega)]
    exact h i v hv
  · rw [List.getElem?_append_right hi] at hv
    obtain ⟨j, hj⟩ : ∃ j, i = n + j := ⟨i - n, by omega⟩
    subst hj
    rw [show n + j - l.length = j by omega] at hv
    refine set_at (o_set (o_set ho)) (by omega) ?_
    match j, hv with
    | 0, hv =>
      rw [if_neg (by omega)]
      refine set_at (o_set ho) (by omega) ?_
      rw [if_neg (by omega)]
      refine set_at ho (by omega) ?_
      rw [if_pos (by omega)]
      simpa using hv
    | 1, hv =>
      rw [if_neg (by omega)]
      refine set_at (o_set ho) (by omega) ?_
      rw [if_pos (by omega)]
      simpa using hv
    | 2, hv =>
      rw [if_pos (by omega)]
      simpa using hv
    | j + 3, hv => simp at hv
theorem rounds_abs {P : Program} {c : Code} {Q : Exit → Act → World → Prop} {n : Nat} {a : Act} {w : World} (C : World → Prop) (hC : C w) (h : ∀ w0, C w0 → Code.rounds P c Q n a w0) : Code.rounds P c Q n a w := h w hC
theorem wp_abs {P : Program} {c : Code} {Q : Exit → Act → World → Prop} {a : Act} {w : World} (C : World → Prop) (hC : C w) (h : ∀ w0, C w0 → c.wp P Q a w0) : c.wp P Q a w := h w hC
theorem behind_cell0 {w0 : World} {a : Addr} {v : Value} (h : w0.cell? a = some v) : ∀ y : Behind w0.heap.size w0, y.world.cell? a = some v := fun y => (y.below.cell (World.block_lt_of_cell? w0 a h)).trans h
theorem open_flat {H : Type} {enc : TypeId × Value → H} {P : Program} {W : World} {base : Nat} {t e : TypeId} {n : Nat} {v : Value} {d : DataW H} {ps : List MemPlace} {F : Nat} {ks : List Frame.Kd} (ht : P.underlying t = some (.array n e)) (hk : Frame.flat P F t = some ks)
    (hv : Value.okWide P W .any base t v) (h : DataW.Trod enc P W 0 (fun _ => true) true t v d ps) : ∃ cs : List Value, v = .agg cs.toArray ∧ Frame.Fits ks cs := by
  obtain ⟨cs, rfl, hsz, _⟩ : ∃ cs, v = .agg cs ∧ cs.size = P.cellsOf t ∧ Row.okWide P W .any base t cs := by
    simpa [Value.okWide, ht] using hv
  obtain ⟨fuel, hf⟩ := h
  exact ⟨cs.toList, by simp, Frame.fits_of F t ks fuel _ _ hk (by simpa [Value.cells] using hf)⟩
end Go.Proofs.YtnepnckiciapfaaDoor
