/-
  Rows of cells stored whole (values of more than eight cells): rules for a walk, one step each. No program text here.
-/
import Derived.Test.YtadhjgjemndnpaaMore
import Derived.Deep.RegionHeld3
namespace Go.Proofs.Ytadhjgjemndnpaa
open Go.RowKit

theorem setCells_else (N : Nat) (l : List Value) (i : Nat) (W : World) (a : Addr) (v : Value) (hne : N ≠ a.block) (h : W.cell? a = some v) : (W.setCells N i l).cell? a = some v :=
  (World.cell?_setCells_out N l i W a (fun e _ => absurd e.symm hne)).trans h
theorem setCells_size (N : Nat) : ∀ (l : List Value) (i : Nat) (W : World), (W.setCells N i l).heap.size = W.heap.size
  | [], _, _ => rfl
  | v :: l, i, W => by rw [World.setCells, setCells_size N l]; exact s_set _ _
theorem c_sc {W : World} {b o : Nat} {l : List Value} {a : Addr} {v : Value} (hne : b ≠ a.block) (h : W.cell? a = some v) : (W.setCells b o l).cell? a = some v := setCells_else b l o W a v hne h
theorem bw_sc {w : World} {b : Nat} : ∀ {a : World} {o : Nat} (l : List Value), w.heap.size ≤ b → Below w.heap.size w a → Below w.heap.size w (a.setCells b o l)
  | _, _, [], _, h => h
  | _, o, v :: l, hb, h => by
    rw [World.setCells]
    exact bw_sc l hb (bw_set (p := ⟨b, o, none⟩) hb h v)
theorem o_sc {W : World} {b k b2 o : Nat} {l : List Value} (h : Own W b k) : Own (W.setCells b2 o l) b k := fun i hi => by
  have := World.there_setCells (w := W) (b' := b) (o' := 0) (n := k) (fun j hj => by rw [Nat.zero_add]; exact h j hj) b2 o l i hi
  rw [Nat.zero_add] at this
  exact this
theorem th_own {W : World} {b k : Nat} (h : Own W b k) : W.there b 0 k := fun j hj => by rw [Nat.zero_add]; exact h j hj
theorem row_sc {W : World} {b : Nat} {l : List Value} (h : W.there b 0 l.length) : Row (W.setCells b 0 l) b l := fun i v hv => by
  have := World.rangeAt_setCells_same W b 0 l h i v hv
  rw [Nat.zero_add] at this
  exact this
theorem k_sc {W : World} {b b2 o : Nat} {l m : List Value} (hne : b2 ≠ b) (h : Row W b l) : Row (W.setCells b2 o m) b l := fun i v hv => c_sc hne (h i v hv)

theorem there_else (W : World) (ob : Obj) (b o n : Nat) (h : ltB b W.heap.size = true) : (W.alloc ob).there b o n = W.there b o n := by
  have hb : b < W.heap.size := of_decide_eq_true h
  have e1 := fun j => World.cell?_alloc_lt W ob ⟨b, o + j, none⟩ hb
  have e2 := fun j => World.frozen?_alloc_old W ob ⟨b, o + j, none⟩ (by show b ≠ _; omega)
  unfold World.there
  exact forall_congr fun j => by rw [e1 j, e2 j]
theorem there_be {m : Nat} {w w' : World} (h : Below m w w') : ∀ b o n : Nat, ltB b m = true → w'.there b o n = w.there b o n := fun b o n hb => by
  have e1 := fun j => h.cell (p := ⟨b, o + j, none⟩) (of_decide_eq_true hb)
  have e2 := fun j => h.frozen (p := ⟨b, o + j, none⟩) (of_decide_eq_true hb)
  unfold World.there
  exact forall_congr fun j => by rw [e1 j, e2 j]
theorem there_sc (W : World) (b o b2 o2 n : Nat) (l : List Value) (h : W.there b2 o2 n) : (W.setCells b o l).there b2 o2 n := World.there_setCells h b o l
theorem there_new {W : World} {cs : Array Value} {t : TypeId} {b n : Nat} (hk : n ≤ cs.size) (hb : W.heap.size = b) : (W.alloc (.cells cs t)).there b 0 n := th_own (o_new hb.symm hk)
theorem size_al (W : World) (ob : Obj) : (W.alloc ob).heap.size = W.heap.size + 1 := s_al ob
theorem or_t (b : Bool) : (b || true) = true := Bool.or_true b
theorem t_or (b : Bool) : (true || b) = true := Bool.true_or b
theorem f_or (b : Bool) : (false || b) = b := Bool.false_or b
theorem lt_one (a : Nat) : decide (a < a + 1) = true := decide_eq_true (Nat.lt_succ_self a)

end Go.Proofs.Ytadhjgjemndnpaa
