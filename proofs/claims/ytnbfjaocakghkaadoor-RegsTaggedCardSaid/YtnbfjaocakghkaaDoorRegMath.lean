/-
  Registers as cells: thirty-three capabilities of three cells each (the Pcc is the last), in a value and in a block; what a store of one of them leaves. No program text here.
-/
import Derived.Test.YtnbfjaocakghkaaDoorLong
namespace Go.Proofs.YtnbfjaocakghkaaDoor
open Go.RowKit

/-- A capability: whether it has a tag, its word, its address. -/
abbrev C3 := Bool × Nat × Nat
def capL (c : C3) : List Value := [.bool c.1, .int .u64 (c.2.1 : Int), .int .u64 (c.2.2 : Int)]
def capV (c : C3) : Value := .agg #[.bool c.1, .int .u64 (c.2.1 : Int), .int .u64 (c.2.2 : Int)]
def zC : C3 := (false, 0, 0)
/-- Its word and its address are words. -/
def Wf3 (c : C3) : Prop := c.2.1 < 18446744073709551616 ∧ c.2.2 < 18446744073709551616
def ctxN (R : Nat → C3) : Nat → List Value
  | 0 => []
  | n + 1 => ctxN R n ++ capL (R n)
def ctxL (R : Nat → C3) : List Value := ctxN R 33
def ctxA (R : Nat → C3) : Array Value := (ctxL R).toArray
def updC (R : Nat → C3) (n : Nat) (c : C3) : Nat → C3 := fun i => if i = n then c else R i
theorem ctxN_length (R : Nat → C3) : ∀ n, (ctxN R n).length = 3 * n
  | 0 => rfl
  | n + 1 => by rw [ctxN, List.length_append, ctxN_length R n]; rfl
theorem ctxN_at (R : Nat → C3) (i j : Nat) (hj : j < 3) : ∀ n, i < n → (ctxN R n)[3 * i + j]? = (capL (R i))[j]?
  | 0, h => by omega
  | n + 1, h => by
    rw [ctxN]
    rcases Nat.lt_or_ge i n with hi | hi
    · rw [List.getElem?_append_left (by rw [ctxN_length]; omega)]
      exact ctxN_at R i j hj n hi
    · obtain rfl : i = n := by omega
      rw [List.getElem?_append_right (by rw [ctxN_length]; omega), ctxN_length, show 3 * i + j - 3 * i = j by omega]
theorem ctxN_congr {R T : Nat → C3} : ∀ n, (∀ i, i < n → R i = T i) → ctxN R n = ctxN T n
  | 0, _ => rfl
  | n + 1, h => by rw [ctxN, ctxN, ctxN_congr n (fun i hi => h i (by omega)), h n (by omega)]
theorem ctxN_one (R : Nat → C3) : ∀ n, ∀ v ∈ ctxN R n, v.oneCell' = true
  | 0, v, h => by cases h
  | n + 1, v, h => by
    rw [ctxN, List.mem_append] at h
    rcases h with h | h
    · exact ctxN_one R n v h
    · simp only [capL, List.mem_cons, List.not_mem_nil, or_false] at h
      rcases h with rfl | rfl | rfl <;> rfl
theorem ctxL_length (R : Nat → C3) : (ctxL R).length = 99 := ctxN_length R 33
theorem ctxA_size (R : Nat → C3) : (ctxA R).size = 99 := by rw [ctxA, List.size_toArray, ctxL_length]
theorem ctxA_list (R : Nat → C3) : (ctxA R).toList = ctxL R := rfl
theorem ctxA_one (R : Nat → C3) : (ctxA R).all (·.oneCell') = true := all_oneCell_toArray (ctxN_one R 33)
theorem ctxL_congr {R T : Nat → C3} (h : ∀ i, i < 33 → R i = T i) : ctxL R = ctxL T := ctxN_congr 33 h
theorem ctxA_congr {R T : Nat → C3} (h : ∀ i, i < 33 → R i = T i) : ctxA R = ctxA T := by rw [ctxA, ctxA, ctxL_congr h]

theorem ctxA_cells (R : Nat → C3) (i : Nat) (hi : i < 33) : (ctxA R)[i * 3]? = some (.bool (R i).1) ∧ (ctxA R)[i * 3 + 1]? = some (.int .u64 ((R i).2.1 : Int)) ∧ (ctxA R)[i * 3 + 2]? = some (.int .u64 ((R i).2.2 : Int)) := by
  unfold ctxA ctxL
  simp only [List.getElem?_toArray, Nat.mul_comm i 3]
  exact ⟨ctxN_at R i 0 (by omega) 33 hi, ctxN_at R i 1 (by omega) 33 hi, ctxN_at R i 2 (by omega) 33 hi⟩
/-- A block holds a context. -/
structure Ctx (W : World) (b : Nat) (R : Nat → C3) : Prop where
  at_ : ∀ i, i < 33 → W.rangeAt b (3 * i) (capL (R i))
  own : Own W b 99
theorem Ctx.pos {W : World} {b : Nat} {R : Nat → C3} (h : Ctx W b R) : b < W.heap.size := World.block_lt_of_cell? W _ (h.at_ 0 (by omega) 0 _ rfl)
theorem Ctx.all {W : World} {b : Nat} {R : Nat → C3} (h : Ctx W b R) : W.rangeAt b 0 (ctxL R) := fun j v hv => by
  have hj : j < 99 := by have := (List.getElem?_eq_some_iff.1 hv).1; rw [ctxL_length] at this; exact this
  rw [show 0 + j = 3 * (j / 3) + j % 3 by omega]
  refine h.at_ (j / 3) (by omega) (j % 3) v ?_
  rw [← hv, ← ctxN_at R (j / 3) (j % 3) (by omega) 33 (by omega)]
  exact congrArg (fun k => (ctxN R 33)[k]?) (by omega)
theorem ctx_of {W : World} {b : Nat} {R : Nat → C3} (h : W.rangeAt b 0 (ctxL R)) (ho : Own W b 99) : Ctx W b R := by
  refine ⟨fun i hi j v hv => ?_, ho⟩
  have hj : j < 3 := (List.getElem?_eq_some_iff.1 hv).1
  rw [← ctxN_at R i j hj 33 hi] at hv
  have := h (3 * i + j) v hv
  rw [Nat.zero_add] at this
  exact this
theorem Ctx.c0 {W : World} {b : Nat} {R : Nat → C3} (h : Ctx W b R) {i : Nat} (hi : i < 33) : W.cell? ⟨b, 3 * i, none⟩ = some (.bool (R i).1) := h.at_ i hi 0 _ rfl
theorem Ctx.c1 {W : World} {b : Nat} {R : Nat → C3} (h : Ctx W b R) {i : Nat} (hi : i < 33) : W.cell? ⟨b, 3 * i + 1, none⟩ = some (.int .u64 ((R i).2.1 : Int)) := h.at_ i hi 1 _ rfl
theorem Ctx.c2 {W : World} {b : Nat} {R : Nat → C3} (h : Ctx W b R) {i : Nat} (hi : i < 33) : W.cell? ⟨b, 3 * i + 2, none⟩ = some (.int .u64 ((R i).2.2 : Int)) := h.at_ i hi 2 _ rfl
theorem Ctx.al {W : World} {b : Nat} {R : Nat → C3} (h : Ctx W b R) (o : Obj) : Ctx (W.alloc o) b R := ⟨fun i hi j v hv => c_al o (h.at_ i hi j v hv), o_al o h.own⟩
theorem Ctx.dr {W : World} {b : Nat} {R : Nat → C3} (h : Ctx W b R) (n : Nat) : Ctx (W.drewN n) b R := ⟨h.at_, h.own⟩
theorem Ctx.d1 {W : World} {b : Nat} {R : Nat → C3} (h : Ctx W b R) : Ctx W.drew b R := ⟨h.at_, h.own⟩
theorem Ctx.be {W W' : World} {b : Nat} {R : Nat → C3} (h : Ctx W b R) (hb : Below W.heap.size W W') : Ctx W' b R := ⟨fun i hi j v hv => c_be hb (h.at_ i hi j v hv), o_be hb h.own⟩
theorem Ctx.bn {n : Nat} {W W' : World} {b : Nat} {R : Nat → C3} (h : Ctx W b R) (hb : Below n W W') (hn : b < n) : Ctx W' b R :=
  ⟨fun i hi j v hv => (hb.cell (p := ⟨b, 3 * i + j, none⟩) hn).trans (h.at_ i hi j v hv), fun i hi => by
    rw [hb.cell (p := ⟨b, i, none⟩) hn, hb.frozen (p := ⟨b, i, none⟩) hn]; exact h.own i hi⟩
theorem Ctx.set {W : World} {b : Nat} {R : Nat → C3} (h : Ctx W b R) {p : Addr} (hne : p.block ≠ b) (u : Value) : Ctx (W.setCell p u) b R := ⟨fun i hi j v hv => c_set hne (h.at_ i hi j v hv), o_set h.own⟩
theorem Ctx.sc {W : World} {b c o : Nat} {R : Nat → C3} (h : Ctx W b R) (hne : c ≠ b) (l : List Value) : Ctx (W.setCells c o l) b R := ⟨fun i hi j v hv => c_sc hne (h.at_ i hi j v hv), o_sc h.own⟩
theorem Ctx.there {W : World} {b : Nat} {R : Nat → C3} (h : Ctx W b R) (i : Nat) (hi : i < 33) : W.there b (3 * i) 3 := fun j hj => h.own (3 * i + j) (by omega)
theorem Ctx.thereAll {W : World} {b : Nat} {R : Nat → C3} (h : Ctx W b R) : W.there b 0 99 := th_own h.own
theorem x_sc {W : World} {b c o : Nat} {R : Nat → C3} {l : List Value} (hne : c ≠ b) (h : Ctx W b R) : Ctx (W.setCells c o l) b R := h.sc hne l
theorem x_set {W : World} {b : Nat} {R : Nat → C3} {p : Addr} {u : Value} (hne : p.block ≠ b) (h : Ctx W b R) : Ctx (W.setCell p u) b R := h.set hne u
theorem x_bn {n : Nat} {W W' : World} {b : Nat} {R : Nat → C3} (hb : Below n W W') (hn : b < n) (h : Ctx W b R) : Ctx W' b R := h.bn hb hn
theorem x_be {W W' : World} {b : Nat} {R : Nat → C3} (hb : Below W.heap.size W W') (h : Ctx W b R) : Ctx W' b R := h.be hb
theorem ctx_new {W : World} {t : TypeId} {b : Nat} (R : Nat → C3) (hb : W.heap.size = b) : Ctx (W.alloc (.cells (ctxA R) t)) b R := by
  refine ctx_of (fun j v hv => ?_) (o_new hb.symm (by rw [ctxA_size]; exact Nat.le_refl _))
  rw [Nat.zero_add]
  exact row_new hb.symm rfl j v hv
theorem ctx_newE {W : World} {t : TypeId} {b : Nat} {R : Nat → C3} {cs : Array Value} (h : ctxA R = cs) (hb : W.heap.size = b) : Ctx (W.alloc (.cells cs t)) b R := by
  subst h
  exact ctx_new R hb
/-- One capability stored. -/
theorem ctx_put {W : World} {b n : Nat} {R : Nat → C3} (h : Ctx W b R) (hn : n < 33) (c : C3) : Ctx (W.setCells b (3 * n) (capL c)) b (updC R n c) := by
  refine ⟨fun i hi => ?_, o_sc h.own⟩
  unfold updC
  by_cases e : i = n
  · subst e
    rw [if_pos rfl]
    exact World.rangeAt_setCells_same W b (3 * i) (capL c) (h.there i hi)
  · rw [if_neg e]
    exact World.rangeAt_setCells_apart (h.at_ i hi) b (3 * n) (capL c) (.inr (by show 3 * i + 3 ≤ 3 * n ∨ 3 * n + 3 ≤ 3 * i; omega))
/-- A whole context stored. -/
theorem ctx_store {W : World} {b : Nat} (h : Own W b 99) (R : Nat → C3) : Ctx (W.setCells b 0 (ctxL R)) b R := by
  refine ctx_of (World.rangeAt_setCells_same W b 0 (ctxL R) ?_) (o_sc h)
  rw [ctxL_length]
  exact th_own h
theorem be_sc {n b o : Nat} {W : World} (l : List Value) (h : n ≤ b) : Below n W (W.setCells b o l) := by
  induction l generalizing W o with
  | nil => exact Below.refl _ _
  | cons v l ih =>
    rw [World.setCells]
    exact ((Below.refl n W).setCell (p := ⟨b, o, none⟩) h v).trans ih
theorem sc3 (W : World) (b o : Nat) (x y z : Value) : W.setCells b o [x, y, z] = ((W.setCell ⟨b, o, none⟩ x).setCell ⟨b, o + 1, none⟩ y).setCell ⟨b, o + 2, none⟩ z := rfl
end Go.Proofs.YtnbfjaocakghkaaDoor
