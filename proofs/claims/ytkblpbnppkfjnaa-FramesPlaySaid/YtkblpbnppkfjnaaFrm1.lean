/-
  A pool as it lies in a block; bit, made, has, Taken, and the closure that asks whether a number is free.
-/
import Derived.Test.YtkblpbnppkfjnaaFrmMath
import Derived.Test.YtkblpbnppkfjnaaOwn
import Derived.Test.YtkblpbnppkfjnaaTail2
import Derived.Laws.StructEq
import Derived.DeepKeys
namespace Go.Proofs.Ytkblpbnppkfjnaa
open Go.RowKit Words ScaleMath FrmMath

/-- The pool in block b: what it has, and what is taken. -/
def PoolAt (W : World) (b : Nat) (A T : BitVec 64) : Prop := W.heap[b]? = some (.cells #[.int .u64 (A.toNat : Int), .int .u64 (T.toNat : Int)] 42 (0, 0))
theorem PoolAt.lt {W : World} {b : Nat} {A T : BitVec 64} (h : PoolAt W b A T) : b < W.heap.size := (Array.getElem?_eq_some_iff.1 h).1
theorem PoolAt.c0 {W : World} {b : Nat} {A T : BitVec 64} (h : PoolAt W b A T) : W.cell? ⟨b, 0, none⟩ = some (.int .u64 (A.toNat : Int)) := by simp [World.cell?, show W.heap[b]? = _ from h]
theorem PoolAt.c1 {W : World} {b : Nat} {A T : BitVec 64} (h : PoolAt W b A T) : W.cell? ⟨b, 1, none⟩ = some (.int .u64 (T.toNat : Int)) := by simp [World.cell?, show W.heap[b]? = _ from h]
theorem PoolAt.f {W : World} {b i : Nat} {A T : BitVec 64} (h : PoolAt W b A T) : W.frozen? ⟨b, i, none⟩ = false := by simp [World.frozen?, show W.heap[b]? = _ from h]
theorem pool_block {W W' : World} {b : Nat} {A T : BitVec 64} (hb : W'.heap[b]? = W.heap[b]?) (h : PoolAt W b A T) : PoolAt W' b A T := hb.trans h
theorem pool_bn {n : Nat} {W W' : World} {b : Nat} {A T : BitVec 64} (hb : Below n W W') (hlt : b < n) (h : PoolAt W b A T) : PoolAt W' b A T := pool_block (hb.block b hlt) h
theorem pool_be {W W' : World} {b : Nat} {A T : BitVec 64} (hb : Below W.heap.size W W') (h : PoolAt W b A T) : PoolAt W' b A T := pool_bn hb h.lt h
theorem pool_al {W : World} {b : Nat} {A T : BitVec 64} (ob : Obj) (h : PoolAt W b A T) : PoolAt (W.alloc ob) b A T := pool_be (below_alloc (Below.refl _ _) (Nat.le_refl _) ob) h
theorem pool_dr {W : World} {b : Nat} {A T : BitVec 64} (n : Nat) (h : PoolAt W b A T) : PoolAt (W.drewN n) b A T := h
theorem pool_d1 {W : World} {b : Nat} {A T : BitVec 64} (h : PoolAt W b A T) : PoolAt W.drew b A T := h
theorem pool_out {N : Nat} {W W' : World} {b : Nat} {A T : BitVec 64} (ho : OutB N W W') (hne : b ≠ N) (h : PoolAt W b A T) : PoolAt W' b A T := pool_block (ho.block b h.lt hne) h
theorem pool_set {W : World} {b : Nat} {p : Addr} {u : Value} {A T : BitVec 64} (hne : b ≠ p.block) (h : PoolAt W b A T) : PoolAt (W.setCell p u) b A T := pool_block (Below.heap_setCell _ _ _ _ hne) h
/-- Other numbers are taken. -/
theorem pool_put {W : World} {b : Nat} {A T S : BitVec 64} (h : PoolAt W b A T) : PoolAt (W.setCell ⟨b, 1, none⟩ (.int .u64 (S.toNat : Int))) b A S := by
  have hlt := h.lt
  show (W.setCell ⟨b, 1, none⟩ _).heap[b]? = _
  unfold World.setCell
  simp only [Array.getElem?_modify]
  rw [show W.heap[b]? = _ from h]
  simp

set_option maxRecDepth 100000 in
theorem eqi_p (a t c s : Int) : ∀ W, (Op.equalIn 10000 42 (.agg #[.int .u64 a, .int .u64 t]) (.agg #[.int .u64 c, .int .u64 s])).run Try.prog W = .ok (decide (a = c) && decide (t = s)) W := by
  intro W
  by_cases h : a = c
  · by_cases h2 : t = s <;> simp [go_sem, h, h2]
  · by_cases h2 : t = s <;> simp [go_sem, h, h2]

theorem eq_p (a t c s : Int) : ∀ W, (binOp .eql 42 (.agg #[.int .u64 a, .int .u64 t]) (.agg #[.int .u64 c, .int .u64 s])).run Try.prog W = .ok (.bool (decide (a = c) && decide (t = s))) W := fun W => by
  rw [run_eql_struct, eqi_p]
  rfl

theorem ne_p (a t c s : Int) : ∀ W, (binOp .neq 42 (.agg #[.int .u64 a, .int .u64 t]) (.agg #[.int .u64 c, .int .u64 s])).run Try.prog W = .ok (.bool (!(decide (a = c) && decide (t = s)))) W := fun W => by
  rw [run_neq_struct, eqi_p]
  rfl

set_option maxHeartbeats 400000 in
theorem bit_let (n : Int) (h0 : 0 ≤ n) (w : World) : Calls Try.prog 16 #[.int .i64 n] w (Quiet (.int .u64 ((oneW n).toNat : Int)) w) := by
  by_cases h64 : n ≤ 64
  · have hm : min n.toNat 64 = n.toNat := by omega
    have HD := one_walk n
    have HD' := one_walk' n
    rw [hm] at HD HD'
    have HD := hide HD
    have HD' := hide HD'
    clear hm
    go_enter Try.func16, Try.ntmps16
    go_wp2
    go_ret
    exact ⟨ret_int (by first | rfl | exact HD.out | exact HD'.out), 0, rfl⟩
  · have HD := hide (one_walk n)
    have HD' := hide (one_walk' n)
    go_enter Try.func16, Try.ntmps16
    go_wp2
    go_ret
    exact ⟨ret_int (by first | rfl | exact HD.out | exact HD'.out), 0, rfl⟩

set_option maxHeartbeats 400000 in
theorem made_nil (w : World) : Calls Try.prog 17 #[.pointer none] w (Quiet (.bool false) w) := by
  go_enter Try.func17, Try.ntmps17
  go_wp2
  go_ret
  exact ⟨rfl, 0, rfl⟩

set_option maxHeartbeats 400000 in
theorem made_let (b : Nat) (a t : Int) (w : World) (c0 : w.cell? ⟨b, 0, none⟩ = some (.int .u64 a)) (c1 : w.cell? ⟨b, 1, none⟩ = some (.int .u64 t)) :
    Calls Try.prog 17 #[.pointer (some ⟨b, 0, none⟩)] w (Quiet (.bool (!(decide (a = 0) && decide (t = 0)))) w) := by
  have hne := ne_p a t 0 0
  generalize (!(decide (a = 0) && decide (t = 0))) = r at *
  go_enter Try.func17, Try.ntmps17
  go_wp2
  go_ret
  exact ⟨rfl, 0, rfl⟩
end Go.Proofs.Ytkblpbnppkfjnaa
