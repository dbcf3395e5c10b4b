/-
  What laid makes of a slice of entries to be laid: a memory whose words they are, and the document's memory with their bytes.
-/
import Derived.Test.YtkajndonefkegaaDoorWalkMem
import Derived.Test.YtkajndonefkegaaDoorGRef
import Derived.Test.YtkajndonefkegaaDoorPteRef2
import Derived.Deep.DeepCutAuto
import Derived.Deep.RegionHeld3
import Derived.Deep.QuietTactic
import Derived.BigQuiet
set_option maxRecDepth 100000
set_option maxHeartbeats 64000000
namespace Go.Proofs.YtkajndonefkegaaDoor
open Go.RowKit Words FieldMath PteMath

theorem own_out {N o b k : Nat} {w W : World} (h : Out N o w W) (hne : b ≠ N) (ho : Own w b k) : Own W b k := fun i hi => by
  obtain ⟨v, hv⟩ := ho.val i hi
  have hlt : b < w.heap.size := World.block_lt_of_cell? w _ hv
  exact ⟨by rw [h.reads (p := ⟨b, i, none⟩) hne hv]; rfl, (World.frozen?_of_block (w := w) (h.block b hlt hne)).trans (ho.free i hi)⟩
theorem row_out {N o b : Nat} {w W : World} {l : List Value} (h : Out N o w W) (hne : b ≠ N) (hr : Row w b l) : Row W b l := fun i v hv => h.reads hne (hr i v hv)
theorem sl_out {N o : Nat} {w W : World} {s : Option Addr} {n c : Nat} {l : List Value} (h : Out N o w W) (ha : Away N s) (hs : Sl w s n c l) : Sl W s n c l := by
  obtain ⟨h0, hs⟩ := hs
  refine ⟨h0, ?_⟩
  rcases hs with hs | ⟨g, h1, h2, h3, h4⟩
  · exact .inl hs
  · exact .inr ⟨g, h1, h2, row_out h (ha g h1) h3, h4⟩
theorem ltB_be {n b : Nat} {w w' : World} (h : Below n w w') (hl : ltB b w.heap.size = true) : ltB b w'.heap.size = true := decide_eq_true (Nat.lt_of_lt_of_le (of_decide_eq_true hl) h.size)
theorem sl_dr {W : World} {s : Option Addr} {n c : Nat} {l : List Value} (k : Nat) (h : Sl W s n c l) : Sl (W.drewN k) s n c l := h
theorem sl_d1 {W : World} {s : Option Addr} {n c : Nat} {l : List Value} (h : Sl W s n c l) : Sl W.drew s n c l := h
structure LayD where
  f : Int
  i : Int
  b0 : Bool
  b1 : Bool
  b2 : Bool
  b3 : Bool
  b4 : Bool
  b5 : Bool
  b6 : Bool
  b7 : Bool
  b8 : Bool
  b9 : Bool
  b10 : Bool
  b11 : Bool
  F : BitVec 64
theorem snoc_ind {α : Type} {P : List α -> Prop} (h0 : P []) (h1 : ∀ l d, P l -> P (l ++ [d])) (l : List α) : P l := by
  have : ∀ r : List α, P r.reverse := fun r => by
    induction r with
    | nil => exact h0
    | cons d r ih =>
      rw [List.reverse_cons]
      exact h1 _ _ ih
  have h := this l.reverse
  rwa [List.reverse_reverse] at h
def LayD.cells (d : LayD) : List Value := [.int .i64 d.f, .int .i64 d.i, .bool d.b0, .bool d.b1, .bool d.b2, .bool d.b3, .bool d.b4, .bool d.b5, .bool d.b6, .bool d.b7, .bool d.b8, .bool d.b9, .bool d.b10, .bool d.b11, .int .u64 (d.F.toNat : Int)]
def LayD.word (d : LayD) : BitVec 64 := wk (bs d.b0 d.b1 d.b2 d.b3 d.b4 d.b5 d.b6 d.b7 d.b8 d.b9 d.b10 d.b11) d.F 12
def LayD.page (d : LayD) : Nat := (d.f % 8).toNat
def LayD.idx (d : LayD) : Nat := (d.i % 512).toNat
theorem LayD.page_lt (d : LayD) : d.page < 8 := by unfold LayD.page; omega
theorem LayD.idx_lt (d : LayD) : d.idx < 512 := by unfold LayD.idx; omega
def laidM (l : List LayD) : Nat -> Nat -> BitVec 64 := l.foldl (fun M d => putM M d.page d.idx d.word) (fun _ _ => 0#64)
def laidR (l : List LayD) : List (Nat × BitVec 8) := l.foldl (fun L d => L ++ laidL (d.page * 4096 + 8 * d.idx) d.word 8) []
theorem laidM_add (l : List LayD) (d : LayD) : laidM (l ++ [d]) = putM (laidM l) d.page d.idx d.word := by
  unfold laidM
  rw [List.foldl_append]
  rfl
theorem laidR_add (l : List LayD) (d : LayD) : laidR (l ++ [d]) = laidR l ++ laidL (d.page * 4096 + 8 * d.idx) d.word 8 := by
  unfold laidR
  rw [List.foldl_append]
  rfl
theorem laidR_length (l : List LayD) : (laidR l).length = 8 * l.length := by
  refine snoc_ind (P := fun l => (laidR l).length = 8 * l.length) rfl (fun l d ih => ?_) l
  rw [laidR_add, List.length_append, ih, laidL_length, List.length_append]
  simp
  omega
theorem last_laid (L : List (Nat × BitVec 8)) (A : Nat) (v : BitVec 64) (a : Nat) : ∀ k, lastB (L ++ laidL A v k) a = if A ≤ a /\ a < A + k then by8 v (a - A) else lastB L a
  | 0 => by rw [if_neg (by omega), laidL, List.append_nil]
  | k + 1 => by
    rw [laidL, ← List.append_assoc, last_add, last_laid L A v a k]
    by_cases h : A + k = a
    · rw [if_pos h, if_pos (by omega), show a - A = k by omega]
    · rw [if_neg h]
      by_cases h2 : A ≤ a /\ a < A + k
      · rw [if_pos h2, if_pos (by omega)]
      · rw [if_neg h2, if_neg (by omega)]
theorem laid_same (l : List LayD) : ∀ p k i, p < 8 -> k < 512 -> i < 8 -> lastB (laidR l) (p * 4096 + 8 * k + i) = by8 (laidM l p k) i := by
  refine snoc_ind (P := fun l => ∀ p k i, p < 8 -> k < 512 -> i < 8 -> lastB (laidR l) (p * 4096 + 8 * k + i) = by8 (laidM l p k) i) ?_ (fun l d ih => ?_) l
  · intro p k i _ _ _
    have h0 : laidM [] p k = 0#64 := rfl
    rw [h0]
    simp [laidR, lastB, by8]
  · intro p k i hp hk hi
    have h1 := d.page_lt
    have h2 := d.idx_lt
    rw [laidR_add, laidM_add, last_laid]
    by_cases e : p = d.page /\ k = d.idx
    · obtain ⟨rfl, rfl⟩ := e
      rw [if_pos (by omega), putM_same]
      congr 1
      omega
    · rw [if_neg (by omega), putM_else _ _ _ _ _ _ (by omega), ih p k i hp hk hi]
theorem laid_word (l : List LayD) (p k : Nat) (hp : p < 8) (hk : k < 512) : numB (fun i => lastB (laidR l) (p * 4096 + 8 * k + i)) 8 = laidM l p k := by
  rw [numB_congr (g := by8 (laidM l p k)) (fun i hi => laid_same l p k i hp hk hi), whole]
theorem iand_low (x : Int) (m k : Nat) (hm : m + 1 = 2 ^ k) (hk : k < 63) : bits .and .i64 x (m : Int) = x % (2 ^ k : Nat) := by
  have h2 : bits .and .i64 x (m : Int) = IntKind.i64.wrap ((BitVec.ofInt 64 x &&& BitVec.ofInt 64 (m : Int)).toNat : Int) := rfl
  have hp : 2 ^ k ≤ 2 ^ 62 := Nat.pow_le_pow_right (by omega) (by omega)
  have hpos := Nat.two_pow_pos k
  have h62 : (2 : Nat) ^ 62 = 4611686018427387904 := rfl
  have hm2 : (BitVec.ofInt 64 (m : Int)).toNat = m := by
    rw [BitVec.ofInt_natCast, BitVec.toNat_ofNat, Nat.mod_eq_of_lt (by omega)]
  have h3 : (BitVec.ofInt 64 x &&& BitVec.ofInt 64 (m : Int)).toNat = (BitVec.ofInt 64 x).toNat % 2 ^ k := by
    rw [BitVec.toNat_and, hm2, show m = 2 ^ k - 1 by omega, Nat.and_two_pow_sub_one_eq_mod]
  rw [h2, h3, BitVec.toNat_ofInt, IntKind.wrap_i64]
  have h4 : ((x % ((2 ^ 64 : Nat) : Int)).toNat % 2 ^ k : Nat) = (x % ((2 ^ k : Nat) : Int)).toNat := by
    have hd : ((2 ^ k : Nat) : Int) ∣ ((2 ^ 64 : Nat) : Int) := by
      refine Int.natCast_dvd_natCast.2 (Nat.pow_dvd_pow 2 (by omega))
    have h5 := Int.emod_emod_of_dvd x hd
    have h6 : 0 ≤ x % ((2 ^ 64 : Nat) : Int) := Int.emod_nonneg _ (by omega)
    generalize x % ((2 ^ 64 : Nat) : Int) = y at *
    obtain ⟨z, rfl⟩ := Int.eq_ofNat_of_zero_le h6
    rw [← h5, Int.toNat_natCast, ← Int.natCast_emod, Int.toNat_natCast]
  rw [h4]
  have h7 : 0 ≤ x % ((2 ^ k : Nat) : Int) := Int.emod_nonneg _ (by omega)
  have h8 : x % ((2 ^ k : Nat) : Int) < ((2 ^ k : Nat) : Int) := Int.emod_lt_of_pos _ (by omega)
  omega

end Go.Proofs.YtkajndonefkegaaDoor
