/-
  Texts laid one behind the other: TagMath, RamMath, TagPop, Tag1.
  Sets of the 256 granules of a page: words, one granule put in or left out, what lies in both, how many there are, the list of them; and how many bits of a word are 1, counted as the program's library counts them. No program text here.
  Pages of memory: the bytes and tags of a page as cells of a block; what a store of a byte, or of tags, turns; numbers out of bytes. No program text here.
  How many bits of a word are 1, counted as the program's library counts them: pairs of bits, fours, bytes, then the bytes' sum. No program text here.
  What the small functions answer: whether a granule is there, its bit, how many bits of a word are 1, and when two sets are the same.
-/
import Derived.Test.YtkajndonefkegaaDoorWords
import Derived.Test.YtkajndonefkegaaDoorGBase
import Derived.DeepKeys
import Derived.Deep.DeepCutAuto
import Derived.Deep.RegionHeld3
namespace Go.Proofs.YtkajndonefkegaaDoor
open Go.RowKit Words

/-- Word q of a set. -/
def wd (s : BitVec 256) (q : Nat) : BitVec 64 := s.extractLsb' (64 * q) 64
/-- The set of four words. -/
def mk4 (a b c d : BitVec 64) : BitVec 256 := d ++ c ++ b ++ a
theorem wd_bit (s : BitVec 256) (q r : Nat) (hr : r < 64) : (wd s q).getLsbD r = s.getLsbD (64 * q + r) := by
  unfold wd
  rw [BitVec.getLsbD_extractLsb']
  simp [hr]
theorem mk4_bit (a b c d : BitVec 64) (i : Nat) : (mk4 a b c d).getLsbD i = if i < 64 then a.getLsbD i else if i < 128 then b.getLsbD (i - 64) else if i < 192 then c.getLsbD (i - 128) else d.getLsbD (i - 192) := by
  unfold mk4
  simp only [BitVec.getLsbD_append]
  by_cases h1 : i < 64
  · simp [h1]
  · by_cases h2 : i < 128
    · have : i - 64 < 64 := by omega
      simp [h1, h2, this]
    · by_cases h3 : i < 192
      · have h4 : ¬ i - 64 < 64 := by omega
        have h6 : i - 64 - 64 = i - 128 := by omega
        have h5 : i - 128 < 64 := by omega
        simp [h1, h2, h3, h4, h5, h6]
      · have h4 : ¬ i - 64 < 64 := by omega
        have h5 : ¬ i - 64 - 64 < 64 := by omega
        have h6 : i - 64 - 64 - 64 = i - 192 := by omega
        simp [h1, h2, h3, h4, h5, h6]
theorem mk4_words (a b c d : BitVec 64) : wd (mk4 a b c d) 0 = a ∧ wd (mk4 a b c d) 1 = b ∧ wd (mk4 a b c d) 2 = c ∧ wd (mk4 a b c d) 3 = d := by
  refine ⟨?_, ?_, ?_, ?_⟩ <;> refine ext64 (fun i hi => ?_) <;> rw [wd_bit _ _ _ hi, mk4_bit]
  · rw [if_pos (by omega), show 64 * 0 + i = i by omega]
  · rw [if_neg (by omega), if_pos (by omega), show 64 * 1 + i - 64 = i by omega]
  · rw [if_neg (by omega), if_neg (by omega), if_pos (by omega), show 64 * 2 + i - 128 = i by omega]
  · rw [if_neg (by omega), if_neg (by omega), if_neg (by omega), show 64 * 3 + i - 192 = i by omega]
theorem ext256 {s t : BitVec 256} (h : ∀ i, i < 256 → s.getLsbD i = t.getLsbD i) : s = t := BitVec.eq_of_getLsbD_eq h
theorem wd_ext {s t : BitVec 256} (h : ∀ q, q < 4 → wd s q = wd t q) : s = t := by
  refine ext256 (fun i hi => ?_)
  have h1 := wd_bit s (i / 64) (i % 64) (by omega)
  have h2 := wd_bit t (i / 64) (i % 64) (by omega)
  rw [show 64 * (i / 64) + i % 64 = i by omega] at h1 h2
  rw [← h1, ← h2, h (i / 64) (by omega)]
theorem wd_eq_iff (s t : BitVec 256) : (((wd s 0).toNat : Int) = ((wd t 0).toNat : Int) ∧ ((wd s 1).toNat : Int) = ((wd t 1).toNat : Int) ∧ ((wd s 2).toNat : Int) = ((wd t 2).toNat : Int) ∧ ((wd s 3).toNat : Int) = ((wd t 3).toNat : Int)) ↔ s = t := by
  constructor
  · rintro ⟨h0, h1, h2, h3⟩
    refine wd_ext (fun q hq => ?_)
    have : q = 0 ∨ q = 1 ∨ q = 2 ∨ q = 3 := by omega
    rcases this with rfl | rfl | rfl | rfl <;> apply BitVec.eq_of_toNat_eq <;> omega
  · rintro rfl
    exact ⟨rfl, rfl, rfl, rfl⟩

/-! Granules. -/
def granB (i : Int) : Bool := decide (0 ≤ i) && decide (i < 256)
def getS (s : BitVec 256) (i : Int) : Bool := granB i && s.getLsbD i.toNat
def bitW (r : Nat) : BitVec 64 := 1#64 <<< r
def put1 (s : BitVec 256) (i : Nat) (tag : Bool) : BitVec 256 := if tag then s ||| BitVec.twoPow 256 i else s &&& ~~~ BitVec.twoPow 256 i
def withS (s : BitVec 256) (i : Int) (tag : Bool) : BitVec 256 := if granB i then put1 s i.toNat tag else s
def lessS (s t : BitVec 256) : BitVec 256 := s &&& ~~~ t
theorem bitW_bit (r j : Nat) (hj : j < 64) : (bitW r).getLsbD j = decide (j = r) := by
  unfold bitW
  rw [BitVec.getLsbD_shiftLeft]
  by_cases h : j = r
  · subst h; simp [hj]
  · by_cases h2 : j < r
    · simp [h, h2]
    · have : j - r ≠ 0 := by omega
      simp [h, this]
theorem put1_bit (s : BitVec 256) (i j : Nat) (tag : Bool) (hj : j < 256) : (put1 s i tag).getLsbD j = if j = i then tag else s.getLsbD j := by
  unfold put1
  cases tag <;> by_cases h : j = i
  · subst h; simp [hj]
  · simp [hj, h]
  · subst h; simp [hj]
  · simp [hj, h]
theorem less_bit (s t : BitVec 256) (j : Nat) (hj : j < 256) : (lessS s t).getLsbD j = (s.getLsbD j && !t.getLsbD j) := by
  unfold lessS
  simp [hj]
theorem wd_less (s t : BitVec 256) (q : Nat) (hq : q < 4) : wd (lessS s t) q = wd s q &&& ~~~ wd t q := by
  refine ext64 (fun r hr => ?_)
  rw [wd_bit _ _ _ hr, less_bit _ _ _ (by omega), BitVec.getLsbD_and, BitVec.getLsbD_not, wd_bit _ _ _ hr, wd_bit _ _ _ hr]
  simp [hr]
theorem wd_put_yes (s : BitVec 256) (q r : Nat) (hq : q < 4) (hr : r < 64) : wd (put1 s (64 * q + r) true) q = wd s q ||| bitW r := by
  refine ext64 (fun j hj => ?_)
  rw [wd_bit _ _ _ hj, put1_bit _ _ _ _ (by omega), BitVec.getLsbD_or, wd_bit _ _ _ hj, bitW_bit _ _ hj]
  by_cases h : j = r
  · subst h; simp
  · rw [if_neg (by omega)]; simp [h]
theorem wd_put_no (s : BitVec 256) (q r : Nat) (hq : q < 4) (hr : r < 64) : wd (put1 s (64 * q + r) false) q = wd s q &&& ~~~ bitW r := by
  refine ext64 (fun j hj => ?_)
  rw [wd_bit _ _ _ hj, put1_bit _ _ _ _ (by omega), BitVec.getLsbD_and, BitVec.getLsbD_not, wd_bit _ _ _ hj, bitW_bit _ _ hj]
  by_cases h : j = r
  · subst h; simp
  · rw [if_neg (by omega)]; simp [h, hj]
theorem wd_put_else (s : BitVec 256) (q r p : Nat) (tag : Bool) (hp : p < 4) (hr : r < 64) (h : p ≠ q) : wd (put1 s (64 * q + r) tag) p = wd s p := by
  refine ext64 (fun j hj => ?_)
  rw [wd_bit _ _ _ hj, put1_bit _ _ _ _ (by omega), wd_bit _ _ _ hj, if_neg (by omega)]
theorem word_has (s : BitVec 256) (q r : Nat) (hr : r < 64) : (wd s q &&& bitW r ≠ 0) ↔ s.getLsbD (64 * q + r) = true := by
  rw [← wd_bit s q r hr]
  constructor
  · intro h
    cases hb : (wd s q).getLsbD r with
    | true => rfl
    | false =>
      exfalso
      apply h
      refine ext64 (fun j hj => ?_)
      rw [BitVec.getLsbD_and, bitW_bit _ _ hj]
      by_cases e : j = r
      · subst e; simp [hb]
      · simp [e]
  · intro h e
    have := congrArg (fun x => x.getLsbD r) e
    simp [BitVec.getLsbD_and, bitW_bit _ _ hr, h] at this
theorem word_shr (s : BitVec 256) (q r : Nat) (hr : r < 64) : (wd s q >>> r) &&& 1#64 = if s.getLsbD (64 * q + r) then 1#64 else 0#64 := by
  rw [← wd_bit s q r hr]
  refine ext64 (fun j hj => ?_)
  rw [BitVec.getLsbD_and, BitVec.getLsbD_ushiftRight]
  by_cases e : j = 0
  · subst e; cases (wd s q).getLsbD r <;> simp
  · cases (wd s q).getLsbD r <;> simp [e]

/-! How many, and which. -/
def cnt (f : Nat → Bool) : Nat → Nat
  | 0 => 0
  | n + 1 => cnt f n + (f n).toNat
def lst (f : Nat → Bool) : Nat → List Int
  | 0 => []
  | n + 1 => if f n then lst f n ++ [(n : Int)] else lst f n
theorem lst_length (f : Nat → Bool) (n : Nat) : (lst f n).length = cnt f n := by
  induction n with
  | zero => rfl
  | succ n ih => unfold lst cnt; cases f n <;> simp [ih]
theorem lst_hit (f : Nat → Bool) (n : Nat) (h : f n = true) : lst f (n + 1) = lst f n ++ [(n : Int)] := by rw [lst, if_pos h]
theorem lst_miss (f : Nat → Bool) (n : Nat) (h : f n = false) : lst f (n + 1) = lst f n := by rw [lst, if_neg (by simp [h])]
theorem cnt_le (f : Nat → Bool) (n : Nat) : cnt f n ≤ n := by
  induction n with
  | zero => exact Nat.le_refl _
  | succ n ih => unfold cnt; cases f n <;> simp <;> omega
theorem cnt_add (f : Nat → Bool) (a b : Nat) : cnt f (a + b) = cnt f a + cnt (fun i => f (a + i)) b := by
  induction b with
  | zero => rfl
  | succ b ih => rw [← Nat.add_assoc, cnt, cnt, ih, Nat.add_assoc]
theorem cnt_congr {f g : Nat → Bool} {n : Nat} (h : ∀ i, i < n → f i = g i) : cnt f n = cnt g n := by
  induction n with
  | zero => rfl
  | succ n ih => rw [cnt, cnt, ih (fun i hi => h i (by omega)), h n (by omega)]
theorem cnt_zero {f : Nat → Bool} {n : Nat} (h : cnt f n = 0) : ∀ i, i < n → f i = false := by
  induction n with
  | zero => intro i hi; omega
  | succ n ih =>
    rw [cnt] at h
    intro i hi
    by_cases e : i = n
    · subst e; cases hf : f i <;> simp_all
    · exact ih (by omega) i (by omega)
def cntS (s : BitVec 256) : Nat := cnt (fun i => s.getLsbD i) 256
def popW (x : BitVec 64) : Nat := cnt (fun i => x.getLsbD i) 64
theorem cnt_words (s : BitVec 256) : cntS s = popW (wd s 0) + popW (wd s 1) + popW (wd s 2) + popW (wd s 3) := by
  unfold cntS popW
  refine (cnt_add (fun i => s.getLsbD i) (64 + 64 + 64) 64).trans ?_
  rw [cnt_add, cnt_add]
  congr 1
  · congr 1
    · congr 1
      · exact cnt_congr (fun i hi => by rw [wd_bit _ _ _ hi]; simp)
      · exact cnt_congr (fun i hi => by rw [wd_bit _ _ _ hi])
    · exact cnt_congr (fun i hi => by rw [wd_bit _ _ _ hi])
  · exact cnt_congr (fun i hi => by rw [wd_bit _ _ _ hi])
theorem pop_le (x : BitVec 64) : popW x ≤ 64 := cnt_le _ _
end Go.Proofs.YtkajndonefkegaaDoor

namespace Go.Proofs.YtkajndonefkegaaDoor
open Go.RowKit Words

/-- The byte at place i of a number. -/
def by8 (v : BitVec 64) (i : Nat) : BitVec 8 := (v >>> (8 * i)).setWidth 8
def byI (b : BitVec 8) : Value := .int .u8 (b.toNat : Int)
theorem u8_bv (x : BitVec 64) : IntKind.u8.wrap (x.toNat : Int) = ((x.setWidth 8).toNat : Int) := by
  have h : IntKind.u8.wrap (x.toNat : Int) = (x.toNat : Int) % 256 := rfl
  rw [h, BitVec.toNat_setWidth]
  omega
theorem byte_up (b : BitVec 8) : (b.toNat : Int) = ((b.setWidth 64).toNat : Int) := by
  have := b.isLt
  rw [BitVec.toNat_setWidth, Nat.mod_eq_of_lt (by omega)]
theorem ext8 {x y : BitVec 8} (h : ∀ i, i < 8 → x.getLsbD i = y.getLsbD i) : x = y := BitVec.eq_of_getLsbD_eq h
/-- The number in the n bytes from place 0 on. -/
def numB (f : Nat → BitVec 8) : Nat → BitVec 64
  | 0 => 0
  | n + 1 => numB f n ||| ((f n).setWidth 64 <<< (8 * n))
theorem numB_bit (f : Nat → BitVec 8) (n j : Nat) (hj : j < 64) : (numB f n).getLsbD j = (decide (j < 8 * n) && (f (j / 8)).getLsbD (j % 8)) := by
  induction n with
  | zero => simp [numB]
  | succ n ih =>
    unfold numB
    rw [BitVec.getLsbD_or, ih, BitVec.getLsbD_shiftLeft, BitVec.getLsbD_setWidth]
    by_cases h1 : j < 8 * n
    · have : j < 8 * (n + 1) := by omega
      simp [h1, this]
    · by_cases h2 : j < 8 * (n + 1)
      · have e1 : j / 8 = n := by omega
        have e2 : j - 8 * n = j % 8 := by omega
        have e3 : j % 8 < 64 := by omega
        simp [h1, h2, e1, e2, hj, e3]
      · have : ¬ (j - 8 * n < 8) := by omega
        have hz : (f n).getLsbD (j - 8 * n) = false := BitVec.getLsbD_of_ge _ _ (by omega)
        simp [h1, h2, hz]
theorem by8_bit (v : BitVec 64) (i j : Nat) (hj : j < 8) : (by8 v i).getLsbD j = v.getLsbD (8 * i + j) := by
  unfold by8
  rw [BitVec.getLsbD_setWidth, BitVec.getLsbD_ushiftRight]
  simp [hj]
theorem numB_congr {f g : Nat → BitVec 8} {n : Nat} (h : ∀ i, i < n → f i = g i) : numB f n = numB g n := by
  refine ext64 (fun j hj => ?_)
  rw [numB_bit _ _ _ hj, numB_bit _ _ _ hj]
  by_cases h1 : j < 8 * n
  · rw [h _ (by omega)]
  · simp [h1]
theorem numB_one (f : Nat → BitVec 8) : numB f 1 = (f 0).setWidth 64 := by
  unfold numB numB
  simp
/-- A number's bytes make it, as far as they go. -/
theorem numB_by8 (v : BitVec 64) (n : Nat) : numB (by8 v) n = v &&& (BitVec.allOnes 64 >>> (64 - 8 * n)) := by
  refine ext64 (fun j hj => ?_)
  rw [numB_bit _ _ _ hj, by8_bit _ _ _ (by omega), BitVec.getLsbD_and, BitVec.getLsbD_ushiftRight, BitVec.getLsbD_allOnes, show 8 * (j / 8) + j % 8 = j by omega, Bool.and_comm]
  congr 1
  apply decide_eq_decide.2
  omega

/-! A page. -/
/-- The cells of a page: 4096 bytes and four words, from place o of block N on; they may be written. -/
structure PageAt (W : World) (N o : Nat) (B : Nat → BitVec 8) (s : BitVec 256) : Prop where
  byte : ∀ k, k < 4096 → W.cell? ⟨N, o + k, none⟩ = some (byI (B k))
  word : ∀ q, q < 4 → W.cell? ⟨N, o + 4096 + q, none⟩ = some (.int .u64 ((wd s q).toNat : Int))
  free : ∀ k, k < 4100 → W.frozen? ⟨N, o + k, none⟩ = false
theorem PageAt.here {W : World} {N o : Nat} {B : Nat → BitVec 8} {s : BitVec 256} (h : PageAt W N o B s) : N < W.heap.size := World.block_lt_of_cell? W _ (h.byte 0 (by omega))
theorem pg_dr {W : World} {N o : Nat} {B : Nat → BitVec 8} {s : BitVec 256} (n : Nat) (h : PageAt W N o B s) : PageAt (W.drewN n) N o B s := ⟨h.byte, h.word, h.free⟩
theorem pg_d1 {W : World} {N o : Nat} {B : Nat → BitVec 8} {s : BitVec 256} (h : PageAt W N o B s) : PageAt W.drew N o B s := ⟨h.byte, h.word, h.free⟩
theorem pg_be {W W' : World} {N o : Nat} {B : Nat → BitVec 8} {s : BitVec 256} (hb : Below W.heap.size W W') (h : PageAt W N o B s) : PageAt W' N o B s :=
  ⟨fun k hk => c_be hb (h.byte k hk), fun q hq => c_be hb (h.word q hq), fun k hk => (hb.frozen (p := ⟨N, o + k, none⟩) h.here).trans (h.free k hk)⟩
theorem pg_al {W : World} {N o : Nat} {B : Nat → BitVec 8} {s : BitVec 256} (ob : Obj) (h : PageAt W N o B s) : PageAt (W.alloc ob) N o B s := pg_be (below_alloc (Below.refl _ _) (Nat.le_refl _) ob) h
theorem pg_set {W : World} {N o : Nat} {B : Nat → BitVec 8} {s : BitVec 256} {p : Addr} {u : Value} (hne : p.block ≠ N) (h : PageAt W N o B s) : PageAt (W.setCell p u) N o B s :=
  ⟨fun k hk => c_set hne (h.byte k hk), fun q hq => c_set hne (h.word q hq), fun k hk => by rw [World.frozen?_setCell]; exact h.free k hk⟩
def updB (B : Nat → BitVec 8) (k : Nat) (b : BitVec 8) : Nat → BitVec 8 := fun j => if j = k then b else B j
theorem pg_byte {W : World} {N o : Nat} {B : Nat → BitVec 8} {s : BitVec 256} {k : Nat} {b : BitVec 8} (hk : k < 4096) (h : PageAt W N o B s) : PageAt (W.setCell ⟨N, o + k, none⟩ (byI b)) N o (updB B k b) s := by
  refine ⟨fun j hj => ?_, fun q hq => ?_, fun j hj => by rw [World.frozen?_setCell]; exact h.free j hj⟩
  · unfold updB
    by_cases e : j = k
    · subst e
      rw [if_pos rfl]
      exact World.cell?_setCell_same _ _ _ (h.byte j hj)
    · rw [if_neg e]
      exact (World.cell?_setCell_other _ _ _ _ (fun x => e (by have := congrArg Addr.off x; simp at this; omega))).trans (h.byte j hj)
  · exact (World.cell?_setCell_other _ _ _ _ (fun x => by have := congrArg Addr.off x; simp at this; omega)).trans (h.word q hq)
/-- Four words put in the place of the tags. -/
theorem pg_tags {W : World} {N o : Nat} {B : Nat → BitVec 8} {s : BitVec 256} (t : BitVec 256) (h : PageAt W N o B s) :
    PageAt ((((W.setCell ⟨N, o + 4096, none⟩ (.int .u64 ((wd t 0).toNat : Int))).setCell ⟨N, o + 4096 + 1, none⟩ (.int .u64 ((wd t 1).toNat : Int))).setCell ⟨N, o + 4096 + 2, none⟩ (.int .u64 ((wd t 2).toNat : Int))).setCell ⟨N, o + 4096 + 3, none⟩ (.int .u64 ((wd t 3).toNat : Int))) N o B t := by
  have ne : ∀ {a b : Nat}, a ≠ b → (⟨N, a, none⟩ : Addr) ≠ ⟨N, b, none⟩ := fun h x => h (congrArg Addr.off x)
  have w0 := h.word 0 (by omega)
  have w1 := h.word 1 (by omega)
  have w2 := h.word 2 (by omega)
  have w3 := h.word 3 (by omega)
  refine ⟨fun j hj => ?_, fun q hq => ?_, fun j hj => by rw [World.frozen?_setCell, World.frozen?_setCell, World.frozen?_setCell, World.frozen?_setCell]; exact h.free j hj⟩
  · rw [World.cell?_setCell_other _ _ _ _ (ne (by omega)), World.cell?_setCell_other _ _ _ _ (ne (by omega)), World.cell?_setCell_other _ _ _ _ (ne (by omega)), World.cell?_setCell_other _ _ _ _ (ne (by omega))]
    exact h.byte j hj
  · match q, hq with
    | 0, _ =>
      rw [World.cell?_setCell_other _ _ _ _ (ne (by omega)), World.cell?_setCell_other _ _ _ _ (ne (by omega)), World.cell?_setCell_other _ _ _ _ (ne (by omega))]
      exact World.cell?_setCell_same _ _ _ w0
    | 1, _ =>
      rw [World.cell?_setCell_other _ _ _ _ (ne (by omega)), World.cell?_setCell_other _ _ _ _ (ne (by omega))]
      exact World.cell?_setCell_same _ _ _ ((World.cell?_setCell_other _ _ _ _ (ne (by omega))).trans w1)
    | 2, _ =>
      rw [World.cell?_setCell_other _ _ _ _ (ne (by omega))]
      exact World.cell?_setCell_same _ _ _ ((World.cell?_setCell_other _ _ _ _ (ne (by omega))).trans ((World.cell?_setCell_other _ _ _ _ (ne (by omega))).trans w2))
    | 3, _ =>
      exact World.cell?_setCell_same _ _ _ ((World.cell?_setCell_other _ _ _ _ (ne (by omega))).trans ((World.cell?_setCell_other _ _ _ _ (ne (by omega))).trans ((World.cell?_setCell_other _ _ _ _ (ne (by omega))).trans w3)))

/-- Nothing that was there has turned but what lies in the page at place o of block N. -/
structure Out (N o : Nat) (w W : World) : Prop where
  os : W.os = w.os
  tape : W.tape = w.tape
  output : W.output = w.output
  size : w.heap.size ≤ W.heap.size
  block : ∀ k, k < w.heap.size → k ≠ N → W.heap[k]? = w.heap[k]?
  cell : ∀ j, j < o ∨ o + 4100 ≤ j → N < w.heap.size → W.cell? ⟨N, j, none⟩ = w.cell? ⟨N, j, none⟩
  free : ∀ j, N < w.heap.size → W.frozen? ⟨N, j, none⟩ = w.frozen? ⟨N, j, none⟩
theorem Out.refl (N o : Nat) (w : World) : Out N o w w := ⟨rfl, rfl, rfl, Nat.le_refl _, fun _ _ _ => rfl, fun _ _ _ => rfl, fun _ _ => rfl⟩
theorem out_be {N o : Nat} {a b c : World} (k : Below b.heap.size b c) (h : Out N o a b) : Out N o a c := by
  have hs := h.size
  refine ⟨k.os.trans h.os, k.tape.trans h.tape, k.output.trans h.output, Nat.le_trans h.size k.size, fun i hi hn => (k.block i (by omega)).trans (h.block i hi hn), fun j hj hN => ?_, fun j hN => ?_⟩
  · exact (k.cell (p := ⟨N, j, none⟩) (by show N < _; omega)).trans (h.cell j hj hN)
  · exact (k.frozen (p := ⟨N, j, none⟩) (by show N < _; omega)).trans (h.free j hN)
theorem Out.trans {N o : Nat} {a b c : World} (h : Out N o a b) (k : Out N o b c) : Out N o a c := by
  have hs := h.size
  exact ⟨k.os.trans h.os, k.tape.trans h.tape, k.output.trans h.output, Nat.le_trans h.size k.size, fun i hi hn => (k.block i (by omega) hn).trans (h.block i hi hn), fun j hj hN => (k.cell j hj (by omega)).trans (h.cell j hj hN), fun j hN => (k.free j (by omega)).trans (h.free j hN)⟩
theorem out_al {N o : Nat} {a b : World} (ob : Obj) (h : Out N o a b) : Out N o a (b.alloc ob) := out_be (below_alloc (Below.refl _ _) (Nat.le_refl _) ob) h
theorem out_dr {N o : Nat} {a b : World} (n : Nat) (h : Out N o a b) : Out N o a (b.drewN n) := ⟨h.os, h.tape, h.output, h.size, h.block, h.cell, h.free⟩
theorem out_d1 {N o : Nat} {a b : World} (h : Out N o a b) : Out N o a b.drew := ⟨h.os, h.tape, h.output, h.size, h.block, h.cell, h.free⟩
theorem out_in {N o i : Nat} {a b : World} (u : Value) (h1 : o ≤ i) (h2 : i < o + 4100) (h : Out N o a b) : Out N o a (b.setCell ⟨N, i, none⟩ u) := by
  refine ⟨h.os, h.tape, h.output, Nat.le_trans h.size (by simp [World.setCell]), fun k hk hn => (Below.heap_setCell _ _ _ _ hn).trans (h.block k hk hn), fun j hj hN => ?_, fun j hN => by rw [World.frozen?_setCell]; exact h.free j hN⟩
  exact (World.cell?_setCell_other _ _ _ _ (fun x => by have := congrArg Addr.off x; simp at this; omega)).trans (h.cell j hj hN)
theorem out_new {N o : Nat} {a b : World} {p : Addr} (u : Value) (hp : a.heap.size ≤ p.block) (h : Out N o a b) : Out N o a (b.setCell p u) := by
  refine ⟨h.os, h.tape, h.output, Nat.le_trans h.size (by simp [World.setCell]), fun k hk hn => (Below.heap_setCell _ _ _ _ (by omega)).trans (h.block k hk hn), fun j hj hN => ?_, fun j hN => by rw [World.frozen?_setCell]; exact h.free j hN⟩
  exact (World.cell?_setCell_other _ _ _ _ (fun x => by have := congrArg Addr.block x; simp at this; omega)).trans (h.cell j hj hN)
theorem Out.below {N o n : Nat} {a b : World} (h : Out N o a b) (h1 : n ≤ N) (h2 : n ≤ a.heap.size) : Below n a b := ⟨h.os, h.tape, h.output, h.size, fun k hk => h.block k (by omega) (by omega)⟩
theorem Out.reads {N o : Nat} {a b : World} {p : Addr} {v : Value} (h : Out N o a b) (hp : p.block ≠ N) (hc : a.cell? p = some v) : b.cell? p = some v := by
  have hl := World.block_lt_of_cell? a p hc
  exact (World.cell?_of_block (w := a) (h.block p.block hl hp)).trans hc
/-- Another page of the same block is as it was. -/
theorem pg_out {N o o' : Nat} {a b : World} {B : Nat → BitVec 8} {s : BitVec 256} (h : Out N o a b) (hne : o' + 4100 ≤ o ∨ o + 4100 ≤ o') (hp : PageAt a N o' B s) : PageAt b N o' B s := by
  have hN := hp.here
  refine ⟨fun k hk => (h.cell _ (by omega) hN).trans (hp.byte k hk), fun q hq => (h.cell _ (by omega) hN).trans (hp.word q hq), fun k hk => (h.free _ hN).trans (hp.free k hk)⟩
end Go.Proofs.YtkajndonefkegaaDoor

namespace Go.Proofs.YtkajndonefkegaaDoor
open Go.RowKit Words

/-- Two numbers anded, byte by byte. -/
theorem and_byte (h d H D k : Nat) (hd : d < 2 ^ k) (hD : D < 2 ^ k) : (2 ^ k * h + d) &&& (2 ^ k * H + D) = 2 ^ k * (h &&& H) + (d &&& D) := by
  refine Nat.eq_of_testBit_eq (fun j => ?_)
  have hdD : d &&& D < 2 ^ k := Nat.lt_of_le_of_lt Nat.and_le_left hd
  rw [Nat.testBit_and, Nat.testBit_two_pow_mul_add _ hd, Nat.testBit_two_pow_mul_add _ hD, Nat.testBit_two_pow_mul_add _ hdD]
  by_cases hj : j < k <;> simp [hj, Nat.testBit_and]
theorem and_byte8 (h d H D : Nat) (hd : d < 256) (hD : D < 256) : (256 * h + d) &&& (256 * H + D) = 256 * (h &&& H) + (d &&& D) := and_byte h d H D 8 hd hD
theorem and_low (e a D k : Nat) (ha : a < 2 ^ k) (hD : D < 2 ^ k) : (2 ^ k * e + a) &&& D = a &&& D := by
  have := and_byte e a 0 D k ha hD
  rw [Nat.mul_zero, Nat.zero_add, Nat.and_zero, Nat.mul_zero, Nat.zero_add] at this
  exact this

/-- One step of the count on bytes: s shifts, m masks a byte. -/
def stepD (c m d : Nat) : Nat := (d / c &&& m) + (d &&& m)
/-- A mask of n bytes. -/
def maskN (m : Nat) : Nat → Nat
  | 0 => 0
  | n + 1 => 256 * maskN m n + m
/-- A step on each of n bytes. -/
def each (f : Nat → Nat) : Nat → Nat → Nat
  | 0, _ => 0
  | n + 1, x => 256 * each f n (x / 256) + f (x % 256)
theorem and_each (m : Nat) (hm : m < 256) : ∀ n x, x &&& maskN m n = each (fun d => d &&& m) n x
  | 0, x => by simp [maskN, each]
  | n + 1, x => by
    rw [maskN, each, ← and_each m hm n]
    conv => lhs; rw [show x = 256 * (x / 256) + x % 256 by omega]
    exact and_byte8 _ _ _ _ (by omega) hm
theorem shr_each (m k : Nat) (hk : k ≤ 8) (hm : m * 2 ^ k < 256) : ∀ n x, (x / 2 ^ k) &&& maskN m n = each (fun d => d / 2 ^ k &&& m) n x
  | 0, x => by simp [maskN, each]
  | n + 1, x => by
    have h2 : (2 : Nat) ^ 8 = 2 ^ k * 2 ^ (8 - k) := by rw [← Nat.pow_add, show k + (8 - k) = 8 by omega]
    have hm2 : m < 2 ^ (8 - k) := by
      have h3 : m * 2 ^ k < 2 ^ (8 - k) * 2 ^ k := by rw [Nat.mul_comm (2 ^ (8 - k)), ← h2]; exact hm
      exact Nat.lt_of_mul_lt_mul_right h3
    have hm8 : m < 256 := by
      have : 2 ^ (8 - k) ≤ 2 ^ 8 := Nat.pow_le_pow_right (by omega) (by omega)
      omega
    have hp := Nat.two_pow_pos k
    rw [maskN, each, ← shr_each m k hk hm n]
    have e1 : x / 2 ^ k = 256 * (x / 2 ^ k / 256) + x / 2 ^ k % 256 := by omega
    have e2 : x / 2 ^ k / 256 = x / 256 / 2 ^ k := by rw [Nat.div_div_eq_div_mul, Nat.div_div_eq_div_mul, Nat.mul_comm]
    have e3 : x / 2 ^ k % 256 &&& m = x % 256 / 2 ^ k &&& m := by
      have e4 : x / 2 ^ k = 2 ^ (8 - k) * (x / 256) + x % 256 / 2 ^ k := by
        conv => lhs; rw [show x = 2 ^ k * (2 ^ (8 - k) * (x / 256)) + x % 256 by rw [← Nat.mul_assoc, ← h2]; omega]
        rw [Nat.mul_add_div hp]
      have hlt : x % 256 / 2 ^ k < 2 ^ (8 - k) := by
        apply Nat.div_lt_of_lt_mul
        rw [← h2]
        omega
      have e5 := and_low (x / 256) (x % 256 / 2 ^ k) m (8 - k) hlt hm2
      have e6 : (x / 2 ^ k % 256) &&& m = x / 2 ^ k &&& m := by
        have := and_low (x / 2 ^ k / 256) (x / 2 ^ k % 256) m 8 (by omega) (by omega)
        rw [show 2 ^ 8 * (x / 2 ^ k / 256) + x / 2 ^ k % 256 = x / 2 ^ k by omega] at this
        exact this.symm
      rw [e6, e4]
      exact e5
    conv => lhs; rw [e1]
    rw [and_byte8 _ _ _ _ (by omega) hm8, e2, e3]
theorem each_add (f g : Nat → Nat) : ∀ n x, each f n x + each g n x = each (fun d => f d + g d) n x
  | 0, _ => rfl
  | n + 1, x => by
    have := each_add f g n (x / 256)
    simp only [each]
    omega
theorem each_lt (f : Nat → Nat) (hf : ∀ d, d < 256 → f d < 256) : ∀ n x, each f n x < 256 ^ n
  | 0, _ => by simp [each]
  | n + 1, x => by
    have := each_lt f hf n (x / 256)
    have h2 := hf (x % 256) (by omega)
    rw [each, Nat.pow_succ]
    omega
theorem each_each (f g : Nat → Nat) (hg : ∀ d, d < 256 → g d < 256) : ∀ n x, each f n (each g n x) = each (fun d => f (g d)) n x
  | 0, _ => rfl
  | n + 1, x => by
    have h2 := hg (x % 256) (by omega)
    simp only [each]
    rw [show (256 * each g n (x / 256) + g (x % 256)) / 256 = each g n (x / 256) by omega, show (256 * each g n (x / 256) + g (x % 256)) % 256 = g (x % 256) by omega, each_each f g hg n]
theorem each_congr (f g : Nat → Nat) (h : ∀ d, d < 256 → f d = g d) : ∀ n x, each f n x = each g n x
  | 0, _ => rfl
  | n + 1, x => by rw [each, each, each_congr f g h n, h _ (by omega)]
def s1 (d : Nat) : Nat := (d / 2 &&& 85) + (d &&& 85)
def s2 (d : Nat) : Nat := (d / 4 &&& 51) + (d &&& 51)
def s3 (d : Nat) : Nat := (d / 16 + d) &&& 15
/-- How many bits of a byte are 1. -/
def popB (d : Nat) : Nat := cnt (fun i => d.testBit i) 8
theorem s_table : ∀ d : Fin 256, s1 d.val < 256 ∧ s2 (s1 d.val) < 256 ∧ s2 (s1 d.val) % 16 ≤ 4 ∧ s2 (s1 d.val) / 16 ≤ 4 ∧ s3 (s2 (s1 d.val)) = popB d.val ∧ popB d.val ≤ 8 := by decide +kernel
theorem mask1 : maskN 85 8 = 6148914691236517205 := by decide
theorem mask2 : maskN 51 8 = 3689348814741910323 := by decide
theorem mask3 : maskN 15 8 = 1085102592571150095 := by decide
/-- The third step adds first, then masks. -/
theorem third (f : Nat → Nat) (hf : ∀ d, d < 256 → f d % 16 ≤ 4 ∧ f d / 16 ≤ 4) : ∀ n x, (each f n x / 16 + each f n x) &&& maskN 15 n = each (fun d => (f d / 16 + f d) &&& 15) n x
  | 0, x => by simp [each, maskN]
  | n + 1, x => by
    have ih := third f hf n (x / 256)
    obtain ⟨a1, a2⟩ := hf (x % 256) (by omega)
    simp only [each, maskN]
    generalize hE : each f n (x / 256) = E at *
    generalize f (x % 256) = y at *
    have hE16 : E % 16 ≤ 4 := by
      rw [← hE]
      match n with
      | 0 => simp [each]
      | n + 1 =>
        have := (hf (x / 256 % 256) (by omega)).1
        rw [each]
        omega
    have e1 : (256 * E + y) / 16 + (256 * E + y) = 256 * (E / 16 + E) + (16 * (E % 16) + y / 16 + y) := by omega
    rw [e1, and_byte8 _ _ _ _ (by omega) (by omega), ih]
    have e2 := and_low ((16 * (E % 16) + y / 16 + y) / 16) ((16 * (E % 16) + y / 16 + y) % 16) 15 4 (by omega) (by omega)
    have e3 := and_low ((y / 16 + y) / 16) ((y / 16 + y) % 16) 15 4 (by omega) (by omega)
    rw [show 2 ^ 4 * ((16 * (E % 16) + y / 16 + y) / 16) + (16 * (E % 16) + y / 16 + y) % 16 = 16 * (E % 16) + y / 16 + y by omega] at e2
    rw [show 2 ^ 4 * ((y / 16 + y) / 16) + (y / 16 + y) % 16 = y / 16 + y by omega] at e3
    rw [e2, e3, show (16 * (E % 16) + y / 16 + y) % 16 = (y / 16 + y) % 16 by omega]
theorem cnt_bytes (f : Nat → Bool) : ∀ n, cnt f (8 * n) = (List.range n).foldr (fun i a => cnt (fun j => f (8 * i + j)) 8 + a) 0
  | 0 => rfl
  | n + 1 => by
    rw [show 8 * (n + 1) = 8 + 8 * n by omega, cnt_add, cnt_bytes (fun i => f (8 + i)) n, List.range_succ_eq_map]
    simp only [List.foldr_cons, List.foldr_map, Nat.mul_zero, Nat.zero_add]
    congr 1
    congr 1
    funext i a
    congr 1
    exact cnt_congr (fun j _ => by congr 1; omega)
theorem pop_bytes (x : BitVec 64) : popW x = (List.range 8).foldr (fun i a => popB (x.toNat / 256 ^ i % 256) + a) 0 := by
  have h := cnt_bytes (fun i => x.getLsbD i) 8
  unfold popW
  rw [show (8 * 8 : Nat) = 64 from rfl] at h
  rw [h]
  congr 1
  funext i a
  congr 1
  unfold popB
  refine cnt_congr (fun j hj => ?_)
  rw [show (256 : Nat) ^ i = 2 ^ (8 * i) by rw [Nat.pow_mul], show (256 : Nat) = 2 ^ 8 from rfl, Nat.testBit_mod_two_pow, Nat.testBit_div_two_pow, BitVec.getLsbD]
  simp [hj, Nat.add_comm]
theorem tail1 (a X : Nat) (h : a < 256) : (a + 256 * X) / 256 = X := by omega
theorem tail2 (a b X : Nat) (h : a < 256) (h2 : b < 256) : (a + 256 * (b + 256 * X)) / 65536 = X := by omega
theorem tail4 (a b c d X : Nat) (h : a < 256) (h2 : b < 256) (h3 : c < 256) (h4 : d < 256) : (a + 256 * (b + 256 * (c + 256 * (d + 256 * X)))) / 4294967296 = X := by omega
/-- The bytes' sum, as the library takes it. -/
theorem fold_sum (p0 p1 p2 p3 p4 p5 p6 p7 : Nat) (h0 : p0 ≤ 8) (h1 : p1 ≤ 8) (h2 : p2 ≤ 8) (h3 : p3 ≤ 8) (h4 : p4 ≤ 8) (h5 : p5 ≤ 8) (h6 : p6 ≤ 8) (h7 : p7 ≤ 8) (x y z v : Nat)
    (hx : x = p0 + 256 * (p1 + 256 * (p2 + 256 * (p3 + 256 * (p4 + 256 * (p5 + 256 * (p6 + 256 * p7))))))) (hy : y = x + x / 256) (hz : z = y + y / 65536) (hv : v = z + z / 4294967296) :
    x < 18446744073709551616 ∧ y < 18446744073709551616 ∧ z < 18446744073709551616 ∧ v < 18446744073709551616 ∧ v % 128 = p0 + (p1 + (p2 + (p3 + (p4 + (p5 + (p6 + p7)))))) := by
  obtain ⟨X1, g1⟩ : ∃ X, X = (p1) + 256 * ((p2) + 256 * ((p3) + 256 * ((p4) + 256 * ((p5) + 256 * ((p6) + 256 * (p7)))))) := ⟨_, rfl⟩
  have e1 : x / 256 = X1 := by rw [hx, ← g1]; exact tail1 _ _ (by omega)
  have e2 : y = (p0 + p1) + 256 * ((p1 + p2) + 256 * ((p2 + p3) + 256 * ((p3 + p4) + 256 * ((p4 + p5) + 256 * ((p5 + p6) + 256 * ((p6 + p7) + 256 * (p7))))))) := by rw [hy, e1, g1, hx]; clear hy hz hv e1 g1 hx; omega
  obtain ⟨Y2, g2⟩ : ∃ X, X = (p2 + p3) + 256 * ((p3 + p4) + 256 * ((p4 + p5) + 256 * ((p5 + p6) + 256 * ((p6 + p7) + 256 * (p7))))) := ⟨_, rfl⟩
  have e3 : y / 65536 = Y2 := by rw [e2, ← g2]; exact tail2 _ _ _ (by omega) (by omega)
  have e4 : z = (p0 + p1 + p2 + p3) + 256 * ((p1 + p2 + p3 + p4) + 256 * ((p2 + p3 + p4 + p5) + 256 * ((p3 + p4 + p5 + p6) + 256 * ((p4 + p5 + p6 + p7) + 256 * ((p5 + p6 + p7) + 256 * ((p6 + p7) + 256 * (p7))))))) := by rw [hz, e3, g2, e2]; clear hy hz hv e1 g1 hx e2 e3 g2; omega
  obtain ⟨Z4, g4⟩ : ∃ X, X = (p4 + p5 + p6 + p7) + 256 * ((p5 + p6 + p7) + 256 * ((p6 + p7) + 256 * (p7))) := ⟨_, rfl⟩
  have e5 : z / 4294967296 = Z4 := by rw [e4, ← g4]; exact tail4 _ _ _ _ _ (by omega) (by omega) (by omega) (by omega)
  obtain ⟨V1, g5⟩ : ∃ X, X = (p1 + p2 + p3 + p4 + p5 + p6 + p7) + 256 * ((p2 + p3 + p4 + p5 + p6 + p7) + 256 * ((p3 + p4 + p5 + p6 + p7) + 256 * ((p4 + p5 + p6 + p7) + 256 * ((p5 + p6 + p7) + 256 * ((p6 + p7) + 256 * (p7)))))) := ⟨_, rfl⟩
  have e6 : v = (p0 + p1 + p2 + p3 + p4 + p5 + p6 + p7) + 256 * V1 := by rw [hv, e5, g4, e4, g5]; clear hy hz hv e1 g1 hx e2 e3 g2 e4 e5 g4 g5; omega
  refine ⟨?_, ?_, ?_, ?_, ?_⟩
  · rw [hx]; clear hx hy hz hv e1 e2 e3 e4 e5 e6 g1 g2 g4 g5; omega
  · rw [e2]; clear hx hy hz hv e1 e2 e3 e4 e5 e6 g1 g2 g4 g5; omega
  · rw [e4]; clear hx hy hz hv e1 e2 e3 e4 e5 e6 g1 g2 g4 g5; omega
  · rw [e6, g5]; clear hx hy hz hv e1 e2 e3 e4 e5 e6 g1 g2 g4 g5; omega
  · rw [e6]; clear hx hy hz hv e1 e2 e3 e4 e5 e6 g1 g2 g4 g5; omega
/-- The words that the library's count comes by; each a word. -/
structure PopMet (x z a b c d e : Nat) : Prop where
  f_z : (x / 2 &&& 6148914691236517205) + (x &&& 6148914691236517205) = z
  f_zl : z < 18446744073709551616
  f_a : (z / 4 &&& 3689348814741910323) + (z &&& 3689348814741910323) = a
  f_al : a / 16 + a < 18446744073709551616
  f_al2 : a < 18446744073709551616
  f_b : (a / 16 + a) &&& 1085102592571150095 = b
  f_c : b + b / 256 = c
  f_cl : c < 18446744073709551616
  f_d : c + c / 65536 = d
  f_dl : d < 18446744073709551616
  f_e : d + d / 4294967296 = e
  f_el : e < 18446744073709551616
theorem pop_met (x : BitVec 64) : ∃ z a b c d e, PopMet x.toNat z a b c d e ∧ e % 128 = popW x := by
  have t := s_table
  have g1 : ∀ d, d < 256 → s1 d < 256 := fun d hd => (t ⟨d, hd⟩).1
  have g2 : ∀ d, d < 256 → s2 (s1 d) < 256 := fun d hd => (t ⟨d, hd⟩).2.1
  have g3 : ∀ d, d < 256 → s2 (s1 d) % 16 ≤ 4 ∧ s2 (s1 d) / 16 ≤ 4 := fun d hd => ⟨(t ⟨d, hd⟩).2.2.1, (t ⟨d, hd⟩).2.2.2.1⟩
  have g4 : ∀ d, d < 256 → s3 (s2 (s1 d)) = popB d ∧ popB d ≤ 8 := fun d hd => ⟨(t ⟨d, hd⟩).2.2.2.2.1, (t ⟨d, hd⟩).2.2.2.2.2⟩
  have h1 : (x.toNat / 2 &&& 6148914691236517205) + (x.toNat &&& 6148914691236517205) = each s1 8 x.toNat := by
    have a1 := shr_each 85 1 (by omega) (by omega) 8 x.toNat
    have a2 := and_each 85 (by omega) 8 x.toNat
    rw [mask1] at a1 a2
    rw [show (2 : Nat) ^ 1 = 2 from rfl] at a1
    rw [a1, a2, each_add]
    rfl
  have h2 : (each s1 8 x.toNat / 4 &&& 3689348814741910323) + (each s1 8 x.toNat &&& 3689348814741910323) = each (fun d => s2 (s1 d)) 8 x.toNat := by
    have a1 := shr_each 51 2 (by omega) (by omega) 8 (each s1 8 x.toNat)
    have a2 := and_each 51 (by omega) 8 (each s1 8 x.toNat)
    rw [mask2] at a1 a2
    rw [show (2 : Nat) ^ 2 = 4 from rfl] at a1
    rw [a1, a2, each_add, ← each_each s2 s1 g1]
    rfl
  have h3 : (each (fun d => s2 (s1 d)) 8 x.toNat / 16 + each (fun d => s2 (s1 d)) 8 x.toNat) &&& 1085102592571150095 = each popB 8 x.toNat := by
    have a1 := third (fun d => s2 (s1 d)) g3 8 x.toNat
    rw [mask3] at a1
    rw [a1]
    exact each_congr _ _ (fun d hd => (g4 d hd).1) 8 _
  have l1 : each s1 8 x.toNat < 18446744073709551616 := each_lt s1 g1 8 x.toNat
  have l2 : each (fun d => s2 (s1 d)) 8 x.toNat < 18446744073709551616 := each_lt _ g2 8 x.toNat
  have l3 : each (fun d => s2 (s1 d)) 8 x.toNat ≤ each (fun _ => 68) 8 x.toNat := by
    have a : ∀ n y, each (fun d => s2 (s1 d)) n y ≤ each (fun _ => 68) n y := by
      intro n
      induction n with
      | zero => intro y; exact Nat.le_refl _
      | succ n ih =>
        intro y
        have := ih (y / 256)
        have := g3 (y % 256) (by omega)
        simp only [each]
        omega
    exact a 8 x.toNat
  have l5 : each (fun _ => 68) 8 x.toNat = 4919131752989213764 := by simp [each]
  have hp := pop_bytes x
  have l4 : ∀ i, popB (x.toNat / 256 ^ i % 256) ≤ 8 := fun i => (g4 _ (Nat.mod_lt _ (by omega))).2
  have hb : each popB 8 x.toNat = popB (x.toNat / 256 ^ 0 % 256) + 256 * (popB (x.toNat / 256 ^ 1 % 256) + 256 * (popB (x.toNat / 256 ^ 2 % 256) + 256 * (popB (x.toNat / 256 ^ 3 % 256) + 256 * (popB (x.toNat / 256 ^ 4 % 256) + 256 * (popB (x.toNat / 256 ^ 5 % 256) + 256 * (popB (x.toNat / 256 ^ 6 % 256) + 256 * (popB (x.toNat / 256 ^ 7 % 256)))))))) := by
    simp only [each, Nat.div_div_eq_div_mul, Nat.reduceMul, Nat.reducePow, Nat.div_one]
    omega
  have f := fold_sum _ _ _ _ _ _ _ _ (l4 0) (l4 1) (l4 2) (l4 3) (l4 4) (l4 5) (l4 6) (l4 7) _ _ _ _ hb rfl rfl rfl
  obtain ⟨f1, f2, f3, f4, f5⟩ := f
  refine ⟨_, _, _, _, _, _, ⟨h1, l1, h2, ?_, l2, h3, rfl, f2, rfl, f3, rfl, f4⟩, ?_⟩
  · rw [l5] at l3
    clear h1 h2 h3 hb hp f1 f2 f3 f4 f5 l1 l2 l4 l5 t g1 g2 g3 g4
    omega
  · rw [f5, hp]
    rfl
end Go.Proofs.YtkajndonefkegaaDoor

namespace Go.Proofs.YtkajndonefkegaaDoor
open Go.RowKit Words

theorem behind_one {f : FuncId} {args : Array Value} {v : Value} {w0 : World} (c : ∀ W, Calls Tryd.prog f args W (Makes v W)) (y : Behind w0.heap.size w0) :
    Calls Tryd.prog f args y.world fun e w'' => e = .returned v ∧ ∃ z : Behind w0.heap.size w0, w'' = z.world := Behind.call c y
theorem quiet_made {f : FuncId} {args : Array Value} {v : Value} (c : ∀ W, Calls Tryd.prog f args W (Quiet v W)) : ∀ W, Calls Tryd.prog f args W (Makes v W) := fun W => (c W).mono fun _ _ h => quiet_makes h

set_option maxHeartbeats 400000 in
theorem gran_any (i : Int) (w : World) : Calls Tryd.prog 88 #[.int .i64 i] w (Quiet (.bool (granB i)) w) := by
  go_enter Tryd.func88, Tryd.ntmps88
  go_wp2
  all_goals
    go_ret
    exact ⟨ret_bool (by unfold granB; first | (simp [*]; done) | (simp [*]; omega)), 0, rfl⟩

theorem one_shl (r : Nat) : IntKind.u64.wrap (2 ^ r) = ((bitW r).toNat : Int) := by
  have h := shl_bv 1#64 r
  have h1 : ((1#64 : BitVec 64).toNat : Int) = 1 := rfl
  rw [h1, Int.one_mul] at h
  exact h

set_option maxHeartbeats 400000 in
theorem bit_any (i : Int) (r : Nat) (hr : i.tmod 64 = (r : Int)) (h64 : r < 64) (w : World) : Calls Tryd.prog 89 #[.int .i64 i] w (Quiet (.int .u64 ((bitW r).toNat : Int)) w) := by
  have h1 := one_shl r
  have h0 : 0 ≤ (r : Int) := by omega
  have h2 : (r : Int) < 64 := by omega
  generalize ((bitW r).toNat : Int) = Y at *
  rw [show (2 : Int) ^ r = 2 ^ (r : Int).toNat by simp] at h1
  clear h64
  generalize (r : Int) = R at *
  go_enter Tryd.func89, Tryd.ntmps89
  go_wp2
  go_ret
  exact ⟨ret_int rfl, 0, rfl⟩

theorem items_u64 {P : Program} (d : Nat) (e : TypeId) (hp : P.plainKey e = true) (he : P.underlying e = some (.int .u64)) (xs ys : Array Value) (X Y : Nat → Int) (w : World) :
    ∀ is : List Nat, (∀ i ∈ is, xs[i]? = some (.int .u64 (X i)) ∧ ys[i]? = some (.int .u64 (Y i))) → (Op.eqItems (d + 1) e 1 xs ys is).run P w = .ok (decide (∀ i ∈ is, X i = Y i)) w
  | [], _ => by simp [Op.eqItems]
  | i :: is, h => by
    obtain ⟨h1, h2⟩ := h i (by simp)
    have ih := items_u64 d e hp he xs ys X Y w is (fun j hj => h j (by simp [hj]))
    simp only [Op.eqItems, Sem.run_bind, Nat.mul_one, run_part_plain w hp h1, run_part_plain w hp h2, run_equalIn_int w d e .u64 .u64 _ _ he, Result.andThen_ok]
    by_cases hx : X i = Y i
    · rw [hx, show ((Y i == Y i) = true) from by simp]
      simp only [Bool.not_true, Bool.false_eq_true, if_false]
      rw [ih]
      congr 1
      exact decide_eq_decide.mpr (by simp [hx])
    · rw [show ((X i == Y i) = false) from by simp [hx]]
      simp only [Bool.not_false, if_true, Sem.run_pure]
      congr 1
      exact (decide_eq_false (fun hh => hx (hh i (by simp)))).symm

theorem eqi_arr (x0 x1 x2 x3 y0 y1 y2 y3 : Int) : ∀ W, (Op.equalIn 10000 148 (.agg #[.int .u64 x0, .int .u64 x1, .int .u64 x2, .int .u64 x3]) (.agg #[.int .u64 y0, .int .u64 y1, .int .u64 y2, .int .u64 y3])).run Tryd.prog W = .ok (decide (x0 = y0 ∧ x1 = y1 ∧ x2 = y2 ∧ x3 = y3)) W := by
  intro W
  have h1 := items_u64 (P := Tryd.prog) 9998 30 (by kernel_rfl) (by kernel_rfl) #[.int .u64 x0, .int .u64 x1, .int .u64 x2, .int .u64 x3] #[.int .u64 y0, .int .u64 y1, .int .u64 y2, .int .u64 y3] (fun i => [x0, x1, x2, x3].getD i 0) (fun i => [y0, y1, y2, y3].getD i 0) W (List.range 4) (fun i hi => by
    have : i < 4 := List.mem_range.1 hi
    have : i = 0 ∨ i = 1 ∨ i = 2 ∨ i = 3 := by omega
    rcases this with rfl | rfl | rfl | rfl <;> exact ⟨rfl, rfl⟩)
  obtain ⟨ii, hii⟩ := info_of_underlying Tryd.underlying30
  have h2 := run_equalIn_array (P := Tryd.prog) W 9999 #[.int .u64 x0, .int .u64 x1, .int .u64 x2, .int .u64 x3] #[.int .u64 y0, .int .u64 y1, .int .u64 y2, .int .u64 y3] (t := 148) (e := 30) (n := 4) Tryd.underlying148 hii
  rw [show Tryd.prog.cellsOf 30 = 1 by kernel_rfl, h1] at h2
  have h4 : decide (∀ i ∈ List.range 4, [x0, x1, x2, x3].getD i 0 = [y0, y1, y2, y3].getD i 0) = decide (x0 = y0 ∧ x1 = y1 ∧ x2 = y2 ∧ x3 = y3) := decide_eq_decide.mpr ⟨fun h => ⟨h 0 (by decide), h 1 (by decide), h 2 (by decide), h 3 (by decide)⟩, fun h i hi => by
    obtain ⟨h0, h1, h2, h3⟩ := h
    have : i < 4 := List.mem_range.1 hi
    have : i = 0 ∨ i = 1 ∨ i = 2 ∨ i = 3 := by omega
    rcases this with rfl | rfl | rfl | rfl <;> assumption⟩
  rw [h4] at h2
  exact h2
theorem eqi_set (s t : BitVec 256) : ∀ W, (Op.equalIn 10000 148 (.agg #[.int .u64 ((wd s 0).toNat : Int), .int .u64 ((wd s 1).toNat : Int), .int .u64 ((wd s 2).toNat : Int), .int .u64 ((wd s 3).toNat : Int)]) (.agg #[.int .u64 ((wd t 0).toNat : Int), .int .u64 ((wd t 1).toNat : Int), .int .u64 ((wd t 2).toNat : Int), .int .u64 ((wd t 3).toNat : Int)])).run Tryd.prog W = .ok (decide (s = t)) W := fun W => by
  rw [eqi_arr]
  congr 1
  exact decide_eq_decide.mpr (wd_eq_iff s t)
theorem eq_set (s t : BitVec 256) : ∀ W, (binOp .eql 148 (.agg #[.int .u64 ((wd s 0).toNat : Int), .int .u64 ((wd s 1).toNat : Int), .int .u64 ((wd s 2).toNat : Int), .int .u64 ((wd s 3).toNat : Int)]) (.agg #[.int .u64 ((wd t 0).toNat : Int), .int .u64 ((wd t 1).toNat : Int), .int .u64 ((wd t 2).toNat : Int), .int .u64 ((wd t 3).toNat : Int)])).run Tryd.prog W = .ok (.bool (decide (s = t))) W := fun W => by
  rw [run_eql_struct, eqi_set]
  rfl
theorem ne_set (s t : BitVec 256) : ∀ W, (binOp .neq 148 (.agg #[.int .u64 ((wd s 0).toNat : Int), .int .u64 ((wd s 1).toNat : Int), .int .u64 ((wd s 2).toNat : Int), .int .u64 ((wd s 3).toNat : Int)]) (.agg #[.int .u64 ((wd t 0).toNat : Int), .int .u64 ((wd t 1).toNat : Int), .int .u64 ((wd t 2).toNat : Int), .int .u64 ((wd t 3).toNat : Int)])).run Tryd.prog W = .ok (.bool (!decide (s = t))) W := fun W => by
  rw [run_neq_struct, eqi_set]
  rfl
end Go.Proofs.YtkajndonefkegaaDoor
