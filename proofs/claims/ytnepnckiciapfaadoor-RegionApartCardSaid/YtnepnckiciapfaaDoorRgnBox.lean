/-
  A map in a box. No program text here.
-/
import Derived.Test.YtnepnckiciapfaaDoorRgnLib2
namespace Go.Proofs.YtnepnckiciapfaaDoor
open Go.RowKit RgnMath

/-- A map in a box. -/
structure MapAt (W : World) (mb : Nat) (RB RT : Int) (v : Value) (L : List Rg) : Prop where
  row : Row W mb [.int .u64 RB, .int .u64 RT, v]
  own : Own W mb 3
  lst : Lst W v L
theorem ma_be {W W' : World} {mb : Nat} {RB RT : Int} {v : Value} {L : List Rg} (hb : Below W.heap.size W W') (h : MapAt W mb RB RT v L) : MapAt W' mb RB RT v L := ⟨k_be hb h.row, o_be hb h.own, lst_be hb h.lst⟩
theorem ma_dr {W : World} {mb : Nat} {RB RT : Int} {v : Value} {L : List Rg} (k : Nat) (h : MapAt W mb RB RT v L) : MapAt (W.drewN k) mb RB RT v L := ⟨h.row, h.own, h.lst⟩
theorem ma_d1 {W : World} {mb : Nat} {RB RT : Int} {v : Value} {L : List Rg} (h : MapAt W mb RB RT v L) : MapAt W.drew mb RB RT v L := ⟨h.row, h.own, h.lst⟩
theorem ma_al {W : World} {mb : Nat} {RB RT : Int} {v : Value} {L : List Rg} (o : Obj) (h : MapAt W mb RB RT v L) : MapAt (W.alloc o) mb RB RT v L := ma_be (below_alloc (Below.refl _ _) (Nat.le_refl _) o) h
theorem ma_new {W : World} {mb : Nat} {RB RT : Int} {v : Value} {L : List Rg} {t : TypeId} (hb : mb = W.heap.size) (h : Lst W v L) : MapAt (W.alloc (.cells #[.int .u64 RB, .int .u64 RT, v] t)) mb RB RT v L :=
  ⟨row_new hb rfl, o_new hb (by simp), lst_al _ h⟩
theorem MapAt.c0 {W : World} {mb : Nat} {RB RT : Int} {v : Value} {L : List Rg} (h : MapAt W mb RB RT v L) : W.cell? ⟨mb, 0, none⟩ = some (.int .u64 RB) := h.row 0 _ rfl
theorem MapAt.c1 {W : World} {mb : Nat} {RB RT : Int} {v : Value} {L : List Rg} (h : MapAt W mb RB RT v L) : W.cell? ⟨mb, 1, none⟩ = some (.int .u64 RT) := h.row 1 _ rfl
theorem MapAt.c2 {W : World} {mb : Nat} {RB RT : Int} {v : Value} {L : List Rg} (h : MapAt W mb RB RT v L) : W.cell? ⟨mb, 2, none⟩ = some v := h.row 2 _ rfl
/-- A store into a block whose third cell holds a slice turns no list of reservations. -/
theorem lst_box {W : World} {v u s : Value} {L : List Rg} {mb i : Nat} (h : Lst W v L) (hs : ∃ sa n c, s = .slice sa n c) (hc : W.cell? ⟨mb, 2, none⟩ = some s) : Lst (W.setCell ⟨mb, i, none⟩ u) v L := by
  obtain ⟨sa, n, c, rfl⟩ := hs
  rcases h with h | ⟨g, c2, rfl, h2, h3, h4, h5⟩
  · exact .inl h
  · refine .inr ⟨g, c2, rfl, h2, h3, by simpa using h4, ?_⟩
    cases L with
    | nil => exact row_nil
    | cons r L =>
      refine k_set (fun e => ?_) h5
      have h6 := (row_at h5 (i := 0) (r := r) rfl).2.2
      have e2 : mb = g := e
      rw [← e2, show 0 * 3 + 2 = 2 from rfl, hc] at h6
      cases h6
/-- A map is stored into a map's box. -/
theorem ma_store {W : World} {mb : Nat} {RB RT RB2 RT2 : Int} {v v2 : Value} {L L2 : List Rg} (h : MapAt W mb RB RT v L) (h2 : Lst W v2 L2) :
    MapAt (((W.setCell ⟨mb, 0, none⟩ (.int .u64 RB2)).setCell ⟨mb, 1, none⟩ (.int .u64 RT2)).setCell ⟨mb, 2, none⟩ v2) mb RB2 RT2 v2 L2 := by
  have o0 := h.own
  have o1 := o_set (p := ⟨mb, 0, none⟩) (u := .int .u64 RB2) o0
  have o2 := o_set (p := ⟨mb, 1, none⟩) (u := .int .u64 RT2) o1
  have hv : ∃ sa n c, v = .slice sa n c := by
    obtain ⟨sa, n, c, e, _⟩ := lst_one h.lst
    exact ⟨sa, n, c, e⟩
  have c0 := h.c2
  have c1 : (W.setCell ⟨mb, 0, none⟩ (.int .u64 RB2)).cell? ⟨mb, 2, none⟩ = some v := (World.cell?_setCell_other _ _ _ _ (by simp)).trans c0
  have c2 : ((W.setCell ⟨mb, 0, none⟩ (.int .u64 RB2)).setCell ⟨mb, 1, none⟩ (.int .u64 RT2)).cell? ⟨mb, 2, none⟩ = some v := (World.cell?_setCell_other _ _ _ _ (by simp)).trans c1
  refine ⟨fun j u hj => ?_, o_set o2, lst_box (lst_box (lst_box h2 hv c0) hv c1) hv c2⟩
  match j, hj with
  | 0, hj =>
    simp at hj
    subst hj
    refine set_at o2 (by omega) ?_
    rw [if_neg (by omega)]
    refine set_at o1 (by omega) ?_
    rw [if_neg (by omega)]
    refine set_at o0 (by omega) ?_
    rw [if_pos rfl]
  | 1, hj =>
    simp at hj
    subst hj
    refine set_at o2 (by omega) ?_
    rw [if_neg (by omega)]
    refine set_at o1 (by omega) ?_
    rw [if_pos rfl]
  | 2, hj =>
    simp at hj
    subst hj
    refine set_at o2 (by omega) ?_
    rw [if_pos rfl]
  | j + 3, hj => simp at hj
/-- .. and another map's box is as it was. -/
theorem ma_other {W : World} {mb hb : Nat} {RB RT RB3 RT3 : Int} {v v3 x y z : Value} {L L3 : List Rg} (h : MapAt W mb RB RT v L) (k : MapAt W hb RB3 RT3 v3 L3) (hne : hb ≠ mb) :
    MapAt (((W.setCell ⟨hb, 0, none⟩ x).setCell ⟨hb, 1, none⟩ y).setCell ⟨hb, 2, none⟩ z) mb RB RT v L := by
  have hv : ∃ sa n c, v3 = .slice sa n c := by
    obtain ⟨sa, n, c, e, _⟩ := lst_one k.lst
    exact ⟨sa, n, c, e⟩
  have c0 := k.c2
  have c1 : (W.setCell ⟨hb, 0, none⟩ x).cell? ⟨hb, 2, none⟩ = some v3 := (World.cell?_setCell_other _ _ _ _ (by simp)).trans c0
  have c2 : ((W.setCell ⟨hb, 0, none⟩ x).setCell ⟨hb, 1, none⟩ y).cell? ⟨hb, 2, none⟩ = some v3 := (World.cell?_setCell_other _ _ _ _ (by simp)).trans c1
  exact ⟨k_set hne (k_set hne (k_set hne h.row)), o_set (o_set (o_set h.own)), lst_box (lst_box (lst_box h.lst hv c0) hv c1) hv c2⟩
end Go.Proofs.YtnepnckiciapfaaDoor
