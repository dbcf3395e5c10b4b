/-
  Texts laid one behind the other: TagMath, RamMath, TagPop, Tag1.
-/
import Derived.Test.YtkajndonefkegaaDoorGBase
import Derived.DeepKeys
import Derived.Deep.DeepCutAuto
import Derived.Deep.RegionHeld3
set_option maxRecDepth 100000
set_option maxHeartbeats 64000000
namespace Go.Proofs.YtkajndonefkegaaDoor
open Go.RowKit Words

def wd (s : BitVec 256) (q : Nat) : BitVec 64 := s.extractLsb' (64 * q) 64
theorem wd_bit (s : BitVec 256) (q r : Nat) (hr : r < 64) : (wd s q).getLsbD r = s.getLsbD (64 * q + r) := by
  unfold wd
  rw [BitVec.getLsbD_extractLsb']
  simp [hr]
/-! Granules. -/
def granB (i : Int) : Bool := decide (0 ≤ i) && decide (i < 256)
def bitW (r : Nat) : BitVec 64 := 1#64 <<< r
def put1 (s : BitVec 256) (i : Nat) (tag : Bool) : BitVec 256 := if tag then s ||| BitVec.twoPow 256 i else s &&& ~~~ BitVec.twoPow 256 i
def withS (s : BitVec 256) (i : Int) (tag : Bool) : BitVec 256 := if granB i then put1 s i.toNat tag else s
theorem bitW_bit (r j : Nat) (hj : j < 64) : (bitW r).getLsbD j = decide (j = r) := by
  unfold bitW
  rw [BitVec.getLsbD_shiftLeft]
  by_cases h : j = r
  · subst h; simp [hj]
  · by_cases h2 : j < r
    · simp [h, h2]
    · have : j - r ≠ 0 := by omega
      simp [h, this]
theorem put1_bit (s : BitVec 256) (i j : Nat) (tag : Bool) (hj : j < 256) : (put1 s i tag).getLsbD j = if j = i then tag else s.getLsbD j := by
  unfold put1
  cases tag <;> by_cases h : j = i
  · subst h; simp [hj]
  · simp [hj, h]
  · subst h; simp [hj]
  · simp [hj, h]
theorem wd_put_yes (s : BitVec 256) (q r : Nat) (hq : q < 4) (hr : r < 64) : wd (put1 s (64 * q + r) true) q = wd s q ||| bitW r := by
  refine ext64 (fun j hj => ?_)
  rw [wd_bit _ _ _ hj, put1_bit _ _ _ _ (by omega), BitVec.getLsbD_or, wd_bit _ _ _ hj, bitW_bit _ _ hj]
  by_cases h : j = r
  · subst h; simp
  · rw [if_neg (by omega)]; simp [h]
theorem wd_put_no (s : BitVec 256) (q r : Nat) (hq : q < 4) (hr : r < 64) : wd (put1 s (64 * q + r) false) q = wd s q &&& ~~~ bitW r := by
  refine ext64 (fun j hj => ?_)
  rw [wd_bit _ _ _ hj, put1_bit _ _ _ _ (by omega), BitVec.getLsbD_and, BitVec.getLsbD_not, wd_bit _ _ _ hj, bitW_bit _ _ hj]
  by_cases h : j = r
  · subst h; simp
  · rw [if_neg (by omega)]; simp [h, hj]
theorem wd_put_else (s : BitVec 256) (q r p : Nat) (tag : Bool) (hp : p < 4) (hr : r < 64) (h : p ≠ q) : wd (put1 s (64 * q + r) tag) p = wd s p := by
  refine ext64 (fun j hj => ?_)
  rw [wd_bit _ _ _ hj, put1_bit _ _ _ _ (by omega), wd_bit _ _ _ hj, if_neg (by omega)]
/-! How many, and which. -/
end Go.Proofs.YtkajndonefkegaaDoor

namespace Go.Proofs.YtkajndonefkegaaDoor
open Go.RowKit Words

def by8 (v : BitVec 64) (i : Nat) : BitVec 8 := (v >>> (8 * i)).setWidth 8
def byI (b : BitVec 8) : Value := .int .u8 (b.toNat : Int)
theorem u8_bv (x : BitVec 64) : IntKind.u8.wrap (x.toNat : Int) = ((x.setWidth 8).toNat : Int) := by
  have h : IntKind.u8.wrap (x.toNat : Int) = (x.toNat : Int) % 256 := rfl
  rw [h, BitVec.toNat_setWidth]
  omega
theorem byte_up (b : BitVec 8) : (b.toNat : Int) = ((b.setWidth 64).toNat : Int) := by
  have := b.isLt
  rw [BitVec.toNat_setWidth, Nat.mod_eq_of_lt (by omega)]
def numB (f : Nat -> BitVec 8) : Nat -> BitVec 64
  | 0 => 0
  | n + 1 => numB f n ||| ((f n).setWidth 64 <<< (8 * n))
theorem numB_bit (f : Nat -> BitVec 8) (n j : Nat) (hj : j < 64) : (numB f n).getLsbD j = (decide (j < 8 * n) && (f (j / 8)).getLsbD (j % 8)) := by
  induction n with
  | zero => simp [numB]
  | succ n ih =>
    unfold numB
    rw [BitVec.getLsbD_or, ih, BitVec.getLsbD_shiftLeft, BitVec.getLsbD_setWidth]
    by_cases h1 : j < 8 * n
    · have : j < 8 * (n + 1) := by omega
      simp [h1, this]
    · by_cases h2 : j < 8 * (n + 1)
      · have e1 : j / 8 = n := by omega
        have e2 : j - 8 * n = j % 8 := by omega
        have e3 : j % 8 < 64 := by omega
        simp [h1, h2, e1, e2, hj, e3]
      · have : ¬ (j - 8 * n < 8) := by omega
        have hz : (f n).getLsbD (j - 8 * n) = false := BitVec.getLsbD_of_ge _ _ (by omega)
        simp [h1, h2, hz]
theorem by8_bit (v : BitVec 64) (i j : Nat) (hj : j < 8) : (by8 v i).getLsbD j = v.getLsbD (8 * i + j) := by
  unfold by8
  rw [BitVec.getLsbD_setWidth, BitVec.getLsbD_ushiftRight]
  simp [hj]
theorem numB_congr {f g : Nat -> BitVec 8} {n : Nat} (h : ∀ i, i < n -> f i = g i) : numB f n = numB g n := by
  refine ext64 (fun j hj => ?_)
  rw [numB_bit _ _ _ hj, numB_bit _ _ _ hj]
  by_cases h1 : j < 8 * n
  · rw [h _ (by omega)]
  · simp [h1]
theorem numB_by8 (v : BitVec 64) (n : Nat) : numB (by8 v) n = v &&& (BitVec.allOnes 64 >>> (64 - 8 * n)) := by
  refine ext64 (fun j hj => ?_)
  rw [numB_bit _ _ _ hj, by8_bit _ _ _ (by omega), BitVec.getLsbD_and, BitVec.getLsbD_ushiftRight, BitVec.getLsbD_allOnes, show 8 * (j / 8) + j % 8 = j by omega, Bool.and_comm]
  congr 1
  apply decide_eq_decide.2
  omega

/-! A page. -/
structure PageAt (W : World) (N o : Nat) (B : Nat -> BitVec 8) (s : BitVec 256) : Prop where
  byte : ∀ k, k < 4096 -> W.cell? ⟨N, o + k, none⟩ = some (byI (B k))
  word : ∀ q, q < 4 -> W.cell? ⟨N, o + 4096 + q, none⟩ = some (.int .u64 ((wd s q).toNat : Int))
  free : ∀ k, k < 4100 -> W.frozen? ⟨N, o + k, none⟩ = false
theorem PageAt.here {W : World} {N o : Nat} {B : Nat -> BitVec 8} {s : BitVec 256} (h : PageAt W N o B s) : N < W.heap.size := World.block_lt_of_cell? W _ (h.byte 0 (by omega))
theorem pg_dr {W : World} {N o : Nat} {B : Nat -> BitVec 8} {s : BitVec 256} (n : Nat) (h : PageAt W N o B s) : PageAt (W.drewN n) N o B s := ⟨h.byte, h.word, h.free⟩
theorem pg_d1 {W : World} {N o : Nat} {B : Nat -> BitVec 8} {s : BitVec 256} (h : PageAt W N o B s) : PageAt W.drew N o B s := ⟨h.byte, h.word, h.free⟩
theorem pg_be {W W' : World} {N o : Nat} {B : Nat -> BitVec 8} {s : BitVec 256} (hb : Below W.heap.size W W') (h : PageAt W N o B s) : PageAt W' N o B s :=
  ⟨fun k hk => c_be hb (h.byte k hk), fun q hq => c_be hb (h.word q hq), fun k hk => (hb.frozen (p := ⟨N, o + k, none⟩) h.here).trans (h.free k hk)⟩
theorem pg_al {W : World} {N o : Nat} {B : Nat -> BitVec 8} {s : BitVec 256} (ob : Obj) (h : PageAt W N o B s) : PageAt (W.alloc ob) N o B s := pg_be (below_alloc (Below.refl _ _) (Nat.le_refl _) ob) h
theorem pg_set {W : World} {N o : Nat} {B : Nat -> BitVec 8} {s : BitVec 256} {p : Addr} {u : Value} (hne : p.block ≠ N) (h : PageAt W N o B s) : PageAt (W.setCell p u) N o B s :=
  ⟨fun k hk => c_set hne (h.byte k hk), fun q hq => c_set hne (h.word q hq), fun k hk => by rw [World.frozen?_setCell]; exact h.free k hk⟩
def updB (B : Nat -> BitVec 8) (k : Nat) (b : BitVec 8) : Nat -> BitVec 8 := fun j => if j = k then b else B j
theorem pg_byte {W : World} {N o : Nat} {B : Nat -> BitVec 8} {s : BitVec 256} {k : Nat} {b : BitVec 8} (hk : k < 4096) (h : PageAt W N o B s) : PageAt (W.setCell ⟨N, o + k, none⟩ (byI b)) N o (updB B k b) s := by
  refine ⟨fun j hj => ?_, fun q hq => ?_, fun j hj => by rw [World.frozen?_setCell]; exact h.free j hj⟩
  · unfold updB
    by_cases e : j = k
    · subst e
      rw [if_pos rfl]
      exact World.cell?_setCell_same _ _ _ (h.byte j hj)
    · rw [if_neg e]
      exact (World.cell?_setCell_other _ _ _ _ (fun x => e (by have := congrArg Addr.off x; simp at this; omega))).trans (h.byte j hj)
  · exact (World.cell?_setCell_other _ _ _ _ (fun x => by have := congrArg Addr.off x; simp at this; omega)).trans (h.word q hq)
theorem pg_tags {W : World} {N o : Nat} {B : Nat -> BitVec 8} {s : BitVec 256} (t : BitVec 256) (h : PageAt W N o B s) :
    PageAt ((((W.setCell ⟨N, o + 4096, none⟩ (.int .u64 ((wd t 0).toNat : Int))).setCell ⟨N, o + 4096 + 1, none⟩ (.int .u64 ((wd t 1).toNat : Int))).setCell ⟨N, o + 4096 + 2, none⟩ (.int .u64 ((wd t 2).toNat : Int))).setCell ⟨N, o + 4096 + 3, none⟩ (.int .u64 ((wd t 3).toNat : Int))) N o B t := by
  have ne : ∀ {a b : Nat}, a ≠ b -> (⟨N, a, none⟩ : Addr) ≠ ⟨N, b, none⟩ := fun h x => h (congrArg Addr.off x)
  have w0 := h.word 0 (by omega)
  have w1 := h.word 1 (by omega)
  have w2 := h.word 2 (by omega)
  have w3 := h.word 3 (by omega)
  refine ⟨fun j hj => ?_, fun q hq => ?_, fun j hj => by rw [World.frozen?_setCell, World.frozen?_setCell, World.frozen?_setCell, World.frozen?_setCell]; exact h.free j hj⟩
  · rw [World.cell?_setCell_other _ _ _ _ (ne (by omega)), World.cell?_setCell_other _ _ _ _ (ne (by omega)), World.cell?_setCell_other _ _ _ _ (ne (by omega)), World.cell?_setCell_other _ _ _ _ (ne (by omega))]
    exact h.byte j hj
  · match q, hq with
    | 0, _ =>
      rw [World.cell?_setCell_other _ _ _ _ (ne (by omega)), World.cell?_setCell_other _ _ _ _ (ne (by omega)), World.cell?_setCell_other _ _ _ _ (ne (by omega))]
      exact World.cell?_setCell_same _ _ _ w0
    | 1, _ =>
      rw [World.cell?_setCell_other _ _ _ _ (ne (by omega)), World.cell?_setCell_other _ _ _ _ (ne (by omega))]
      exact World.cell?_setCell_same _ _ _ ((World.cell?_setCell_other _ _ _ _ (ne (by omega))).trans w1)
    | 2, _ =>
      rw [World.cell?_setCell_other _ _ _ _ (ne (by omega))]
      exact World.cell?_setCell_same _ _ _ ((World.cell?_setCell_other _ _ _ _ (ne (by omega))).trans ((World.cell?_setCell_other _ _ _ _ (ne (by omega))).trans w2))
    | 3, _ =>
      exact World.cell?_setCell_same _ _ _ ((World.cell?_setCell_other _ _ _ _ (ne (by omega))).trans ((World.cell?_setCell_other _ _ _ _ (ne (by omega))).trans ((World.cell?_setCell_other _ _ _ _ (ne (by omega))).trans w3)))

structure Out (N o : Nat) (w W : World) : Prop where
  os : W.os = w.os
  tape : W.tape = w.tape
  output : W.output = w.output
  size : w.heap.size ≤ W.heap.size
  block : ∀ k, k < w.heap.size -> k ≠ N -> W.heap[k]? = w.heap[k]?
  cell : ∀ j, j < o ∨ o + 4100 ≤ j -> N < w.heap.size -> W.cell? ⟨N, j, none⟩ = w.cell? ⟨N, j, none⟩
  free : ∀ j, N < w.heap.size -> W.frozen? ⟨N, j, none⟩ = w.frozen? ⟨N, j, none⟩
theorem Out.refl (N o : Nat) (w : World) : Out N o w w := ⟨rfl, rfl, rfl, Nat.le_refl _, fun _ _ _ => rfl, fun _ _ _ => rfl, fun _ _ => rfl⟩
theorem out_be {N o : Nat} {a b c : World} (k : Below b.heap.size b c) (h : Out N o a b) : Out N o a c := by
  have hs := h.size
  refine ⟨k.os.trans h.os, k.tape.trans h.tape, k.output.trans h.output, Nat.le_trans h.size k.size, fun i hi hn => (k.block i (by omega)).trans (h.block i hi hn), fun j hj hN => ?_, fun j hN => ?_⟩
  · exact (k.cell (p := ⟨N, j, none⟩) (by show N < _; omega)).trans (h.cell j hj hN)
  · exact (k.frozen (p := ⟨N, j, none⟩) (by show N < _; omega)).trans (h.free j hN)
theorem Out.trans {N o : Nat} {a b c : World} (h : Out N o a b) (k : Out N o b c) : Out N o a c := by
  have hs := h.size
  exact ⟨k.os.trans h.os, k.tape.trans h.tape, k.output.trans h.output, Nat.le_trans h.size k.size, fun i hi hn => (k.block i (by omega) hn).trans (h.block i hi hn), fun j hj hN => (k.cell j hj (by omega)).trans (h.cell j hj hN), fun j hN => (k.free j (by omega)).trans (h.free j hN)⟩
theorem out_al {N o : Nat} {a b : World} (ob : Obj) (h : Out N o a b) : Out N o a (b.alloc ob) := out_be (below_alloc (Below.refl _ _) (Nat.le_refl _) ob) h
theorem out_dr {N o : Nat} {a b : World} (n : Nat) (h : Out N o a b) : Out N o a (b.drewN n) := ⟨h.os, h.tape, h.output, h.size, h.block, h.cell, h.free⟩
theorem out_d1 {N o : Nat} {a b : World} (h : Out N o a b) : Out N o a b.drew := ⟨h.os, h.tape, h.output, h.size, h.block, h.cell, h.free⟩
theorem out_in {N o i : Nat} {a b : World} (u : Value) (h1 : o ≤ i) (h2 : i < o + 4100) (h : Out N o a b) : Out N o a (b.setCell ⟨N, i, none⟩ u) := by
  refine ⟨h.os, h.tape, h.output, Nat.le_trans h.size (by simp [World.setCell]), fun k hk hn => (Below.heap_setCell _ _ _ _ hn).trans (h.block k hk hn), fun j hj hN => ?_, fun j hN => by rw [World.frozen?_setCell]; exact h.free j hN⟩
  exact (World.cell?_setCell_other _ _ _ _ (fun x => by have := congrArg Addr.off x; simp at this; omega)).trans (h.cell j hj hN)
theorem out_new {N o : Nat} {a b : World} {p : Addr} (u : Value) (hp : a.heap.size ≤ p.block) (h : Out N o a b) : Out N o a (b.setCell p u) := by
  refine ⟨h.os, h.tape, h.output, Nat.le_trans h.size (by simp [World.setCell]), fun k hk hn => (Below.heap_setCell _ _ _ _ (by omega)).trans (h.block k hk hn), fun j hj hN => ?_, fun j hN => by rw [World.frozen?_setCell]; exact h.free j hN⟩
  exact (World.cell?_setCell_other _ _ _ _ (fun x => by have := congrArg Addr.block x; simp at this; omega)).trans (h.cell j hj hN)
theorem Out.below {N o n : Nat} {a b : World} (h : Out N o a b) (h1 : n ≤ N) (h2 : n ≤ a.heap.size) : Below n a b := ⟨h.os, h.tape, h.output, h.size, fun k hk => h.block k (by omega) (by omega)⟩
theorem Out.reads {N o : Nat} {a b : World} {p : Addr} {v : Value} (h : Out N o a b) (hp : p.block ≠ N) (hc : a.cell? p = some v) : b.cell? p = some v := by
  have hl := World.block_lt_of_cell? a p hc
  exact (World.cell?_of_block (w := a) (h.block p.block hl hp)).trans hc
theorem pg_out {N o o' : Nat} {a b : World} {B : Nat -> BitVec 8} {s : BitVec 256} (h : Out N o a b) (hne : o' + 4100 ≤ o ∨ o + 4100 ≤ o') (hp : PageAt a N o' B s) : PageAt b N o' B s := by
  have hN := hp.here
  refine ⟨fun k hk => (h.cell _ (by omega) hN).trans (hp.byte k hk), fun q hq => (h.cell _ (by omega) hN).trans (hp.word q hq), fun k hk => (h.free _ hN).trans (hp.free k hk)⟩
end Go.Proofs.YtkajndonefkegaaDoor

namespace Go.Proofs.YtkajndonefkegaaDoor
open Go.RowKit Words

def s1 (d : Nat) : Nat := (d / 2 &&& 85) + (d &&& 85)
def s2 (d : Nat) : Nat := (d / 4 &&& 51) + (d &&& 51)
def s3 (d : Nat) : Nat := (d / 16 + d) &&& 15
end Go.Proofs.YtkajndonefkegaaDoor

namespace Go.Proofs.YtkajndonefkegaaDoor
open Go.RowKit Words

theorem behind_one {f : FuncId} {args : Array Value} {v : Value} {w0 : World} (c : ∀ W, Calls Tryd.prog f args W (Makes v W)) (y : Behind w0.heap.size w0) :
    Calls Tryd.prog f args y.world fun e w'' => e = .returned v /\ ∃ z : Behind w0.heap.size w0, w'' = z.world := Behind.call c y
theorem gran_any (i : Int) (w : World) : Calls Tryd.prog 88 #[.int .i64 i] w (Quiet (.bool (granB i)) w) := by
  go_enter Tryd.func88, Tryd.ntmps88
  go_wp2
  all_goals
    go_ret
    exact ⟨ret_bool (by unfold granB; first | (simp [*]; done) | (simp [*]; omega)), 0, rfl⟩

theorem one_shl (r : Nat) : IntKind.u64.wrap (2 ^ r) = ((bitW r).toNat : Int) := by
  have h := shl_bv 1#64 r
  have h1 : ((1#64 : BitVec 64).toNat : Int) = 1 := rfl
  rw [h1, Int.one_mul] at h
  exact h

theorem bit_any (i : Int) (r : Nat) (hr : i.tmod 64 = (r : Int)) (h64 : r < 64) (w : World) : Calls Tryd.prog 89 #[.int .i64 i] w (Quiet (.int .u64 ((bitW r).toNat : Int)) w) := by
  have h1 := one_shl r
  have h0 : 0 ≤ (r : Int) := by omega
  have h2 : (r : Int) < 64 := by omega
  generalize ((bitW r).toNat : Int) = Y at *
  rw [show (2 : Int) ^ r = 2 ^ (r : Int).toNat by simp] at h1
  clear h64
  generalize (r : Int) = R at *
  go_enter Tryd.func89, Tryd.ntmps89
  go_wp2
  go_ret
  exact ⟨ret_int rfl, 0, rfl⟩

end Go.Proofs.YtkajndonefkegaaDoor
