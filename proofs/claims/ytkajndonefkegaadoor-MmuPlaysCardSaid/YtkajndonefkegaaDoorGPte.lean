/-
  Texts laid one behind the other: FieldMath, PteMath, PteTab, PteBits, PteFlags, FieldWalks, PteLeaf, PteSmall.
-/
import Derived.Test.YtkajndonefkegaaDoorGBase
import Derived.Deep.RegionHeld3
set_option maxRecDepth 100000
set_option maxHeartbeats 64000000
namespace Go.Proofs.YtkajndonefkegaaDoor.FieldMath
open Go Words

/-! the answers -/
def maskB (w : Int) : BitVec 64 := BitVec.ofNat 64 (2 ^ (min w.toNat 64) - 1)
def okF (a w : Int) : Bool := decide (0 ≤ w /\ w ≤ 64 /\ 0 ≤ a /\ a ≤ 64 - w)
def getB (x : BitVec 64) (a w : Int) : BitVec 64 := if okF a w then (x >>> a.toNat) &&& maskB w else 0
def putB (x : BitVec 64) (a w : Int) (v : BitVec 64) : BitVec 64 :=
  if okF a w then (x &&& ~~~(maskB w <<< a.toNat)) ||| ((v <<< a.toNat) &&& (maskB w <<< a.toNat)) else x
theorem mask_bit (w : Int) (i : Nat) : (maskB w).getLsbD i = (decide (i < 64) && decide ((i : Int) < w)) := by
  unfold maskB
  rw [BitVec.getLsbD_ofNat, Nat.testBit_two_pow_sub_one]
  by_cases h : i < 64 <;> simp [h]
  omega
theorem mask_low (w : Int) (h : w < 1) : maskB w = 0 := by
  unfold maskB
  have : w.toNat = 0 := by omega
  simp [this]
theorem mask_walk (w : Int) (_h : 1 ≤ w) : IntKind.u64.wrap (IntKind.u64.wrap (2 ^ min w.toNat 64) - 1) = ((maskB w).toNat : Int) := by
  unfold maskB
  rw [BitVec.toNat_ofNat]
  have hm : min w.toNat 64 ≤ 64 := by omega
  generalize min w.toNat 64 = k at hm
  have hp : (0 : Nat) < 2 ^ k := Nat.two_pow_pos k
  have hc : ((2 : Int) ^ k) = ((2 ^ k : Nat) : Int) := by simp
  rw [hc, IntKind.wrap_u64, IntKind.wrap_u64]
  rcases Nat.lt_or_eq_of_le hm with h | h
  · have h2 : 2 ^ k < 2 ^ 64 := Nat.pow_lt_pow_right (by decide) h
    omega
  · subst h; decide
theorem get_bit (x : BitVec 64) (a w : Int) (i : Nat) (hi : i < 64) : (getB x a w).getLsbD i = (okF a w && decide ((i : Int) < w) && x.getLsbD (a.toNat + i)) := by
  unfold getB
  by_cases h : okF a w = true
  · rw [if_pos h, BitVec.getLsbD_and, BitVec.getLsbD_ushiftRight, mask_bit, h]
    simp [hi, Bool.and_comm]
  · simp [h]
theorem put_bit (x : BitVec 64) (a w : Int) (v : BitVec 64) (i : Nat) (hi : i < 64) :
    (putB x a w v).getLsbD i = if okF a w = true /\ a ≤ i /\ (i : Int) < a + w then v.getLsbD (i - a.toNat) else x.getLsbD i := by
  unfold putB
  by_cases h : okF a w = true
  · have hb : 0 ≤ w /\ w ≤ 64 /\ 0 ≤ a /\ a ≤ 64 - w := by simpa [okF] using h
    obtain ⟨h1, h2, h3, h4⟩ := hb
    simp only [h, if_true, BitVec.getLsbD_or, BitVec.getLsbD_and, BitVec.getLsbD_not, BitVec.getLsbD_shiftLeft, mask_bit]
    by_cases h5 : a ≤ i
    · by_cases h6 : (i : Int) < a + w
      · have e1 : ¬ i < a.toNat := by omega
        have e2 : i - a.toNat < 64 := by omega
        have e3 : ((i - a.toNat : Nat) : Int) < w := by omega
        simp [hi, h5, h6, e1, e2, e3]
      · have e3 : ¬ ((i - a.toNat : Nat) : Int) < w := by omega
        simp [hi, h6, e3]
    · have e1 : i < a.toNat := by omega
      simp [hi, h5, e1]
  · simp [h]
end Go.Proofs.YtkajndonefkegaaDoor.FieldMath

namespace Go.Proofs.YtkajndonefkegaaDoor.PteMath
open Go Words FieldMath

theorem get_nat (x : BitVec 64) (a w : Nat) (h : a + w ≤ 64) : (getB x (a : Int) (w : Int)).toNat = x.toNat / 2 ^ a % 2 ^ w := by
  have hp : 2 ^ w ≤ 2 ^ 64 := Nat.pow_le_pow_right (by decide) (by omega)
  have h0 := Nat.two_pow_pos w
  unfold getB maskB
  rw [if_pos (show okF a w = true from decide_eq_true (by omega)), BitVec.toNat_and, BitVec.toNat_ushiftRight, Nat.shiftRight_eq_div_pow, BitVec.toNat_ofNat, show min ((w : Int)).toNat 64 = w by omega,
    Nat.mod_eq_of_lt (show 2 ^ w - 1 < 2 ^ 64 by omega), Nat.and_two_pow_sub_one_eq_mod, show ((a : Int)).toNat = a by omega]
theorem mask_nat (x : BitVec 64) (k : Nat) (hk : k ≤ 64) : (x &&& maskB (k : Int)).toNat = x.toNat % 2 ^ k := by
  have hp : 2 ^ k ≤ 2 ^ 64 := Nat.pow_le_pow_right (by decide) hk
  have h0 := Nat.two_pow_pos k
  unfold maskB
  rw [BitVec.toNat_and, BitVec.toNat_ofNat, show min ((k : Int)).toNat 64 = k by omega, Nat.mod_eq_of_lt (show 2 ^ k - 1 < 2 ^ 64 by omega), Nat.and_two_pow_sub_one_eq_mod]
def idx (v : Nat) (l : Int) : Nat := if l = 0 then v / 4096 % 512 else if l = 1 then v / 2097152 % 512 else if l = 2 then v / 1073741824 % 512 else 0
theorem idx_lt (v : Nat) (l : Int) : idx v l < 512 := by
  unfold idx
  split
  · omega
  split
  · omega
  split <;> omega
theorem get0 (x : BitVec 64) : ((getB x 12 9).toNat : Int) = (idx x.toNat 0 : Int) := by
  rw [show getB x 12 9 = getB x ((12 : Nat) : Int) ((9 : Nat) : Int) from rfl, get_nat _ _ _ (by omega)]; rfl
theorem get1 (x : BitVec 64) : ((getB x 21 9).toNat : Int) = (idx x.toNat 1 : Int) := by
  rw [show getB x 21 9 = getB x ((21 : Nat) : Int) ((9 : Nat) : Int) from rfl, get_nat _ _ _ (by omega)]; rfl
theorem get2 (x : BitVec 64) : ((getB x 30 9).toNat : Int) = (idx x.toNat 2 : Int) := by
  rw [show getB x 30 9 = getB x ((30 : Nat) : Int) ((9 : Nat) : Int) from rfl, get_nat _ _ _ (by omega)]; rfl
theorem small_wrap (n : Nat) (h : n < 512) : RowKit.wrap64 (n : Int) = (n : Int) := by
  simp only [RowKit.wrap64]; omega
theorem may_nat (v k : Nat) (hk : 0 < k) : ((v : Int) == ((v % k : Nat) : Int)) = decide ((v : Int) < (k : Int)) := by
  rw [Bool.eq_iff_iff, beq_iff_eq, decide_eq_true_eq]
  norm_cast
  constructor
  · intro h; rw [h]; exact Nat.mod_lt _ hk
  · intro h; exact (Nat.mod_eq_of_lt h).symm
theorem may_bv (x : BitVec 64) : ((x.toNat : Int) == (((x &&& maskB 38).toNat : Nat) : Int)) = decide ((x.toNat : Int) < 274877906944) := by
  rw [show maskB 38 = maskB ((38 : Nat) : Int) from rfl, mask_nat _ _ (by omega)]
  exact may_nat _ _ (by decide)
end Go.Proofs.YtkajndonefkegaaDoor.PteMath

namespace Go.Proofs.YtkajndonefkegaaDoor
open Go.RowKit Words FieldMath PteMath

def plc (k : Nat) : Nat := if k < 8 then k else k + 50
def Tab (W : World) : Prop := ∀ k, k < 12 -> W.cell? ⟨0, k, none⟩ = some (.int .i64 (plc k : Int))
theorem Tab.behind {W W' : World} (h : Tab W) (hb : Below W.heap.size W W') : Tab W' := fun k hk => c_be hb (h k hk)
def bs (b0 b1 b2 b3 b4 b5 b6 b7 b8 b9 b10 b11 : Bool) (k : Nat) : Bool := [b0, b1, b2, b3, b4, b5, b6, b7, b8, b9, b10, b11].getD k false
def entL (b0 b1 b2 b3 b4 b5 b6 b7 b8 b9 b10 b11 : Bool) (F : BitVec 64) : List Value := [.bool b0, .bool b1, .bool b2, .bool b3, .bool b4, .bool b5, .bool b6, .bool b7, .bool b8, .bool b9, .bool b10, .bool b11, .int .u64 (F.toNat : Int)]
theorem entL_at (b0 b1 b2 b3 b4 b5 b6 b7 b8 b9 b10 b11 : Bool) (F : BitVec 64) (k : Nat) (h : k < 12) : (entL b0 b1 b2 b3 b4 b5 b6 b7 b8 b9 b10 b11 F)[k]? = some (.bool (bs b0 b1 b2 b3 b4 b5 b6 b7 b8 b9 b10 b11 k)) :=
  match k, h with
  | 0, _ => rfl
  | 1, _ => rfl
  | 2, _ => rfl
  | 3, _ => rfl
  | 4, _ => rfl
  | 5, _ => rfl
  | 6, _ => rfl
  | 7, _ => rfl
  | 8, _ => rfl
  | 9, _ => rfl
  | 10, _ => rfl
  | 11, _ => rfl
theorem index_ptr (b k : Nat) (h : k < 12) (W : World) : (Instr.index 114 (.agg #[.pointer (some ⟨b, 0, none⟩), .pointer (some ⟨b, 1, none⟩), .pointer (some ⟨b, 2, none⟩), .pointer (some ⟨b, 3, none⟩), .pointer (some ⟨b, 4, none⟩), .pointer (some ⟨b, 5, none⟩), .pointer (some ⟨b, 6, none⟩), .pointer (some ⟨b, 7, none⟩), .pointer (some ⟨b, 8, none⟩), .pointer (some ⟨b, 9, none⟩), .pointer (some ⟨b, 10, none⟩), .pointer (some ⟨b, 11, none⟩)]) (.int .i64 (k : Int))).run Tryd.prog W = .ok (.pointer (some ⟨b, k, none⟩)) W :=
  match k, h with
  | 0, _ => rfl
  | 1, _ => rfl
  | 2, _ => rfl
  | 3, _ => rfl
  | 4, _ => rfl
  | 5, _ => rfl
  | 6, _ => rfl
  | 7, _ => rfl
  | 8, _ => rfl
  | 9, _ => rfl
  | 10, _ => rfl
  | 11, _ => rfl
end Go.Proofs.YtkajndonefkegaaDoor

namespace Go.Proofs.YtkajndonefkegaaDoor
open Go.RowKit Words FieldMath PteMath

theorem getB_one (x : BitVec 64) (k : Nat) (h : k < 64) : (((getB x (k : Int) 1).toNat : Int) == 1) = x.getLsbD k := by
  rw [show (1 : Int) = ((1 : Nat) : Int) from rfl, get_nat x k 1 (by omega), BitVec.getLsbD, Nat.testBit_eq_decide_div_mod_eq, Bool.eq_iff_iff, beq_iff_eq, decide_eq_true_eq]
  norm_cast

def wk (b : Nat -> Bool) (F : BitVec 64) : Nat -> BitVec 64
  | 0 => putB 0 10 44 F
  | k + 1 => if b k = true then putB (wk b F k) (plc k : Int) 1 1 else wk b F k

theorem plc_lt (k : Nat) (h : k < 12) : plc k < 64 := by unfold plc; split <;> omega
theorem ok_one (k : Nat) (h : k < 12) : okF (plc k : Int) 1 = true := by
  have := plc_lt k h
  exact decide_eq_true (by omega)
theorem one_bit (i : Nat) : (1 : BitVec 64).getLsbD i = decide (i = 0) := by
  rw [show (1 : BitVec 64) = BitVec.twoPow 64 0 from rfl, BitVec.getLsbD_twoPow]
  by_cases h : i = 0
  · subst h; rfl
  · have h2 : ¬ 0 = i := fun e => h e.symm
    simp [h, h2]
theorem put_one (x : BitVec 64) (k i : Nat) (hk : k < 12) (hi : i < 64) : (putB x (plc k : Int) 1 1).getLsbD i = (decide (i = plc k) || x.getLsbD i) := by
  rw [put_bit _ _ _ _ _ hi, ok_one k hk, one_bit]
  by_cases h : i = plc k
  · subst h
    rw [if_pos ⟨rfl, by omega, by omega⟩]
    simp
  · rw [if_neg (by omega)]
    simp [h]
theorem wk0_bit (F : BitVec 64) (i : Nat) (hi : i < 64) : (putB 0 10 44 F).getLsbD i = (decide (10 ≤ i /\ i < 54) && F.getLsbD (i - 10)) := by
  rw [put_bit _ _ _ _ _ hi, show okF 10 44 = true from rfl]
  by_cases h : 10 ≤ i /\ i < 54
  · rw [if_pos ⟨rfl, by omega, by omega⟩]
    simp [h]
  · rw [if_neg (by omega)]
    simp only [h, decide_false, Bool.false_and]
    show (0#64).getLsbD i = false
    simp
theorem wk_frame (b : Nat -> Bool) (F : BitVec 64) (i : Nat) (h1 : 10 ≤ i) (h2 : i < 54) : ∀ n, n ≤ 12 -> (wk b F n).getLsbD i = F.getLsbD (i - 10)
  | 0, _ => by rw [wk, wk0_bit _ _ (by omega)]; simp [h1, h2]
  | n + 1, hn => by
    have ih := wk_frame b F i h1 h2 n (by omega)
    have hp : i ≠ plc n := by unfold plc; split <;> omega
    rw [wk]
    split
    · rw [put_one _ _ _ (by omega) (by omega), ih]; simp [hp]
    · exact ih
theorem plc_inj {j k : Nat} (hj : j < 12) (hk : k < 12) (h : plc j = plc k) : j = k := by
  unfold plc at h
  split at h <;> split at h <;> omega
theorem wk_flag (b : Nat -> Bool) (F : BitVec 64) (j : Nat) (hj : j < 12) : ∀ n, n ≤ 12 -> (wk b F n).getLsbD (plc j) = (decide (j < n) && b j)
  | 0, _ => by
    rw [wk, wk0_bit _ _ (plc_lt j hj)]
    have : ¬ (10 ≤ plc j /\ plc j < 54) := by unfold plc; split <;> omega
    simp [this]
  | n + 1, hn => by
    have ih := wk_flag b F j hj n (by omega)
    rw [wk]
    by_cases e : j = n
    · subst e
      cases hb : b j with
      | true => rw [if_pos rfl, put_one _ _ _ hj (plc_lt j hj)]; simp
      | false => rw [if_neg (by simp), ih]; simp
    · have hp : plc j ≠ plc n := fun h => e (plc_inj hj (by omega) h)
      have hd : decide (j < n + 1) = decide (j < n) := decide_eq_decide.mpr (by omega)
      rw [hd]
      split
      · rw [put_one _ _ _ (by omega) (plc_lt j hj), ih]; simp [hp]
      · exact ih
theorem word_flag (b : Nat -> Bool) (F : BitVec 64) (j : Nat) (hj : j < 12) : (wk b F 12).getLsbD (plc j) = b j := by
  rw [wk_flag b F j hj 12 (by omega)]; simp [hj]
theorem word_frame (b : Nat -> Bool) (F : BitVec 64) : getB (wk b F 12) 10 44 = F &&& maskB 44 := by
  refine ext64 fun i hi => ?_
  rw [get_bit _ _ _ _ hi, BitVec.getLsbD_and, mask_bit, show okF 10 44 = true from rfl]
  by_cases h : i < 44
  · rw [show (10 : Int).toNat + i = 10 + i from rfl, wk_frame b F (10 + i) (by omega) (by omega) 12 (by omega), show 10 + i - 10 = i by omega]
    have : (i : Int) < 44 := by omega
    simp [this, hi]
  · have : ¬ (i : Int) < 44 := by omega
    simp [this]
theorem frame_nat (F : BitVec 64) : (F &&& maskB 44).toNat = F.toNat % 17592186044416 := mask_nat F 44 (by omega)

/-! the word as a number -/
def bitN (b : Bool) (k : Nat) : Nat := if b = true then 2 ^ k else 0
theorem put_add (x : BitVec 64) (k : Nat) (hk : k < 12) (h : x.getLsbD (plc k) = false) : (putB x (plc k : Int) 1 1).toNat = x.toNat + 2 ^ plc k := by
  have hp := plc_lt k hk
  have ht : (BitVec.twoPow 64 (plc k)).toNat = 2 ^ plc k := by
    rw [BitVec.toNat_twoPow, Nat.mod_eq_of_lt (Nat.pow_lt_pow_right (by decide) hp)]
  have hand : x &&& BitVec.twoPow 64 (plc k) = 0#64 := by
    refine ext64 fun i hi => ?_
    rw [BitVec.getLsbD_and, BitVec.getLsbD_twoPow]
    by_cases e : plc k = i
    · subst e; simp [h]
    · simp [e]
  have hor : putB x (plc k : Int) 1 1 = x ||| BitVec.twoPow 64 (plc k) := by
    refine ext64 fun i hi => ?_
    rw [put_one _ _ _ hk hi, BitVec.getLsbD_or, BitVec.getLsbD_twoPow]
    by_cases e : i = plc k
    · subst e; simp [hi]
    · have e2 : ¬ plc k = i := fun h => e h.symm
      simp [e, e2]
  rw [hor, ← BitVec.add_eq_or_of_and_eq_zero _ _ hand, BitVec.toNat_add_of_and_eq_zero hand, ht]
def sumN (b : Nat -> Bool) : Nat -> Nat
  | 0 => 0
  | k + 1 => sumN b k + bitN (b k) (plc k)
theorem wk_nat (b : Nat -> Bool) (F : BitVec 64) : ∀ n, n ≤ 12 -> (wk b F n).toNat = F.toNat % 17592186044416 * 1024 + sumN b n
  | 0, _ => by
    rw [wk, sumN]
    have e : putB 0 10 44 F = (F &&& maskB 44) <<< 10 := by
      refine ext64 fun i hi => ?_
      rw [wk0_bit _ _ hi, BitVec.getLsbD_shiftLeft, BitVec.getLsbD_and, mask_bit]
      by_cases h : 10 ≤ i
      · by_cases h2 : i < 54
        · have h3 : ¬ i < 10 := by omega
          have h4 : ((i - 10 : Nat) : Int) < 44 := by omega
          have h5 : i - 10 < 64 := by omega
          simp [h, h2, h3, h4, h5, hi]
        · have h4 : ¬ ((i - 10 : Nat) : Int) < 44 := by omega
          simp [h2, h4]
      · have h3 : i < 10 := by omega
        simp [h3]
        intro; omega
    have hm := Nat.mod_lt F.toNat (show 0 < 17592186044416 by decide)
    rw [e, BitVec.toNat_shiftLeft, frame_nat, Nat.shiftLeft_eq]
    generalize F.toNat % 17592186044416 = M at *
    omega
  | n + 1, hn => by
    have ih := wk_nat b F n (by omega)
    have hf := wk_flag b F n (by omega) n (by omega)
    rw [wk, sumN]
    cases hb : b n with
    | true => rw [if_pos rfl, put_add _ _ (by omega) (by rw [hf]; simp), ih, bitN, if_pos rfl, Nat.add_assoc]
    | false => rw [if_neg (by simp), ih, bitN, if_neg (by simp), Nat.add_zero]
end Go.Proofs.YtkajndonefkegaaDoor

namespace Go.Proofs.YtkajndonefkegaaDoor
open Go.RowKit Words FieldMath PteMath

theorem info12 : Option.map (fun x => x.size) (Tryd.prog.info? 114) = some 12 := by kernel_rfl
theorem one12 (b : Nat) : ∀ v ∈ [(.pointer (some ⟨b, 0, none⟩) : Value), (.pointer (some ⟨b, 1, none⟩) : Value), (.pointer (some ⟨b, 2, none⟩) : Value), (.pointer (some ⟨b, 3, none⟩) : Value), (.pointer (some ⟨b, 4, none⟩) : Value), (.pointer (some ⟨b, 5, none⟩) : Value), (.pointer (some ⟨b, 6, none⟩) : Value), (.pointer (some ⟨b, 7, none⟩) : Value), (.pointer (some ⟨b, 8, none⟩) : Value), (.pointer (some ⟨b, 9, none⟩) : Value), (.pointer (some ⟨b, 10, none⟩) : Value), (.pointer (some ⟨b, 11, none⟩) : Value)], v.oneCell' = true := by simp [Value.oneCell']
attribute [local irreducible] World.setCells in
theorem flags_any (b : Nat) (w : World) : Calls Tryd.prog 46 #[.pointer (some ⟨b, 0, none⟩)] w (Makes (.agg #[.pointer (some ⟨b, 0, none⟩), .pointer (some ⟨b, 1, none⟩), .pointer (some ⟨b, 2, none⟩), .pointer (some ⟨b, 3, none⟩), .pointer (some ⟨b, 4, none⟩), .pointer (some ⟨b, 5, none⟩), .pointer (some ⟨b, 6, none⟩), .pointer (some ⟨b, 7, none⟩), .pointer (some ⟨b, 8, none⟩), .pointer (some ⟨b, 9, none⟩), .pointer (some ⟨b, 10, none⟩), .pointer (some ⟨b, 11, none⟩)]) w) := by
  obtain ⟨SS, LB', LS, LA', LH⟩ := rules5
  have i12 : Option.map (fun x => x.size) (Tryd.prog.info? 114) = some ([(.pointer (some ⟨b, 0, none⟩) : Value), (.pointer (some ⟨b, 1, none⟩) : Value), (.pointer (some ⟨b, 2, none⟩) : Value), (.pointer (some ⟨b, 3, none⟩) : Value), (.pointer (some ⟨b, 4, none⟩) : Value), (.pointer (some ⟨b, 5, none⟩) : Value), (.pointer (some ⟨b, 6, none⟩) : Value), (.pointer (some ⟨b, 7, none⟩) : Value), (.pointer (some ⟨b, 8, none⟩) : Value), (.pointer (some ⟨b, 9, none⟩) : Value), (.pointer (some ⟨b, 10, none⟩) : Value), (.pointer (some ⟨b, 11, none⟩) : Value)]).length := info12
  have o12 := one12 b
  go_enter Tryd.func46, Tryd.ntmps46
  go_wp2
  refine wp_abs (fun W => Below w.heap.size w W /\ W.there w.heap.size 0 12) ?_ ?_
  · refine ⟨?_, ?_⟩
    · repeat (with_reducible first | exact Below.refl _ _ | refine bw_alloc ?_ _)
    · exact th_own (o_new rfl (by first | simp | decide +kernel))
  rintro w0 ⟨hB0, h0⟩
  go_region_held3 (fun w' => w'.there w.heap.size 0 12 /\ Below w.heap.size w w') (first | with_reducible assumption | (refine ⟨?_, ?_⟩ <;> first | with_reducible assumption | ((repeat (with_reducible first | assumption | exact Below.refl _ _ | refine Below.drew ?_ | refine below_drewN ?_ _ | refine bw_alloc ?_ _ | (refine bw_set ?_ ?_ _; focus (dsimp only; omega)) | (apply bw_behind; assumption) | (refine bw_sc _ ?_ ?_; focus omega))); done) | exact there_sc _ _ _ _ _ _ _ h0 | exact h0)) (first | fail)
  have hr : Row (w0.drew.setCells w.heap.size 0 [(.pointer (some ⟨b, 0, none⟩) : Value), (.pointer (some ⟨b, 1, none⟩) : Value), (.pointer (some ⟨b, 2, none⟩) : Value), (.pointer (some ⟨b, 3, none⟩) : Value), (.pointer (some ⟨b, 4, none⟩) : Value), (.pointer (some ⟨b, 5, none⟩) : Value), (.pointer (some ⟨b, 6, none⟩) : Value), (.pointer (some ⟨b, 7, none⟩) : Value), (.pointer (some ⟨b, 8, none⟩) : Value), (.pointer (some ⟨b, 9, none⟩) : Value), (.pointer (some ⟨b, 10, none⟩) : Value), (.pointer (some ⟨b, 11, none⟩) : Value)]) w.heap.size [(.pointer (some ⟨b, 0, none⟩) : Value), (.pointer (some ⟨b, 1, none⟩) : Value), (.pointer (some ⟨b, 2, none⟩) : Value), (.pointer (some ⟨b, 3, none⟩) : Value), (.pointer (some ⟨b, 4, none⟩) : Value), (.pointer (some ⟨b, 5, none⟩) : Value), (.pointer (some ⟨b, 6, none⟩) : Value), (.pointer (some ⟨b, 7, none⟩) : Value), (.pointer (some ⟨b, 8, none⟩) : Value), (.pointer (some ⟨b, 9, none⟩) : Value), (.pointer (some ⟨b, 10, none⟩) : Value), (.pointer (some ⟨b, 11, none⟩) : Value)] := row_sc h0
  have q0 := hr 0 _ rfl
  have q1 := hr 1 _ rfl
  have q2 := hr 2 _ rfl
  have q3 := hr 3 _ rfl
  have q4 := hr 4 _ rfl
  have q5 := hr 5 _ rfl
  have q6 := hr 6 _ rfl
  have q7 := hr 7 _ rfl
  have q8 := hr 8 _ rfl
  have q9 := hr 9 _ rfl
  have q10 := hr 10 _ rfl
  have q11 := hr 11 _ rfl
  clear hr
  go_wp2_with fail
  refine bodyPost_ret (v := .agg #[.pointer (some ⟨b, 0, none⟩), .pointer (some ⟨b, 1, none⟩), .pointer (some ⟨b, 2, none⟩), .pointer (some ⟨b, 3, none⟩), .pointer (some ⟨b, 4, none⟩), .pointer (some ⟨b, 5, none⟩), .pointer (some ⟨b, 6, none⟩), .pointer (some ⟨b, 7, none⟩), .pointer (some ⟨b, 8, none⟩), .pointer (some ⟨b, 9, none⟩), .pointer (some ⟨b, 10, none⟩), .pointer (some ⟨b, 11, none⟩)]) (by simp (maxDischargeDepth := 4) [results, Tryd.results46, go_sem, *]) rfl ?_
  refine ⟨rfl, ?_⟩
  repeat (with_reducible first | assumption | exact Below.refl _ _ | refine Below.drew ?_ | refine below_drewN ?_ _ | refine bw_alloc ?_ _ | (refine bw_set ?_ ?_ _; focus (dsimp only; omega)) | (apply bw_behind; assumption) | (refine bw_sc _ ?_ ?_; focus omega))
end Go.Proofs.YtkajndonefkegaaDoor

namespace Go.Proofs.YtkajndonefkegaaDoor
open Go.RowKit Words FieldMath

theorem mask_any (a : Int) (w : World) : Calls Tryd.prog 59 #[.int .i64 a] w (Quiet (.int .u64 ((maskB a).toNat : Int)) w) := by
  by_cases h : a < 1
  · go_enter Tryd.func59, Tryd.ntmps59
    go_wp2
    go_ret
    exact ⟨ret_int (by rw [mask_low a h]; rfl), 0, rfl⟩
  · have h1 : 1 ≤ a := by omega
    have h0 : 0 ≤ a := by omega
    go_enter Tryd.func59, Tryd.ntmps59
    go_wp2
    go_ret
    exact ⟨ret_int (mask_walk a h1), 0, rfl⟩

theorem valid_any (a b : Int) (w : World) : Calls Tryd.prog 78 #[.int .i64 a, .int .i64 b] w (Quiet (.bool (okF a b)) w) := by
  go_enter Tryd.func78, Tryd.ntmps78
  go_wp2
  all_goals
    go_ret
    exact ⟨ret_bool (by unfold okF; first | exact decide_eq_decide.mpr (by omega) | exact (decide_eq_true (by omega)).symm | exact (decide_eq_false (by omega)).symm), 0, rfl⟩

theorem get_any (x : BitVec 64) (a b : Int) (w : World) : Calls Tryd.prog 58 #[.int .u64 (x.toNat : Int), .int .i64 a, .int .i64 b] w (Quiet (.int .u64 ((getB x a b).toNat : Int)) w) := by
  by_cases h : okF a b = true
  · have hb : 0 ≤ b /\ b ≤ 64 /\ 0 ≤ a /\ a ≤ 64 - b := by simpa [okF] using h
    obtain ⟨h1, h2, h3, h4⟩ := hb
    have h5 : a ≤ 64 := by omega
    have hg : getB x a b = (x >>> a.toNat) &&& maskB b := by unfold getB; rw [if_pos h]
    have HG := hide hg
    clear hg
    have hv := fun W => valid_any a b W
    rw [h] at hv
    clear h
    go_enter Tryd.func58, Tryd.ntmps58
    go_wp2_with (go_at_call 78; refine (hv _).mono ?_; rintro e w' ⟨rfl, n, rfl⟩)
    go_quiet ((go_at_call 59; first | exact Quiet.region (fun W => mask_any b W) | exact Quiet.regionAdd (fun W => mask_any b W)))
    go_wp2
    go_ret
    exact ⟨ret_int (by rw [HG.out, shr_bv, and_bv]), _, World.drewN_drewN ..⟩
  · have hg : getB x a b = 0 := by unfold getB; rw [if_neg h]
    have HG := hide hg
    clear hg
    have h' : okF a b = false := by simpa using h
    have hv := fun W => valid_any a b W
    rw [h'] at hv
    clear h h'
    go_enter Tryd.func58, Tryd.ntmps58
    go_wp2_with (go_at_call 78; refine (hv _).mono ?_; rintro e w' ⟨rfl, n, rfl⟩)
    go_ret
    exact ⟨ret_int (by rw [HG.out]; rfl), _, rfl⟩

theorem put_any (x : BitVec 64) (a b : Int) (v : BitVec 64) (w : World) :
    Calls Tryd.prog 45 #[.int .u64 (x.toNat : Int), .int .i64 a, .int .i64 b, .int .u64 (v.toNat : Int)] w (Quiet (.int .u64 ((putB x a b v).toNat : Int)) w) := by
  by_cases h : okF a b = true
  · have hb : 0 ≤ b /\ b ≤ 64 /\ 0 ≤ a /\ a ≤ 64 - b := by simpa [okF] using h
    obtain ⟨h1, h2, h3, h4⟩ := hb
    have h5 : a ≤ 64 := by omega
    have hg : putB x a b v = (x &&& ~~~(maskB b <<< a.toNat)) ||| ((v <<< a.toNat) &&& (maskB b <<< a.toNat)) := by unfold putB; rw [if_pos h]
    have HG := hide hg
    clear hg
    have hv := fun W => valid_any a b W
    rw [h] at hv
    clear h
    go_enter Tryd.func45, Tryd.ntmps45
    go_wp2_with (first | (go_at_call 78; refine (hv _).mono ?_; rintro e w' ⟨rfl, n, rfl⟩) | (go_at_call 59; refine (mask_any _ _).mono ?_; rintro e w' ⟨rfl, n, rfl⟩))
    go_ret
    exact ⟨ret_int (by rw [HG.out, shl_bv, shl_bv, and_bv, andNot_bv, or_bv]), _, rfl⟩
  · have hg : putB x a b v = x := by unfold putB; rw [if_neg h]
    have HG := hide hg
    clear hg
    have h' : okF a b = false := by simpa using h
    have hv := fun W => valid_any a b W
    rw [h'] at hv
    clear h h'
    go_enter Tryd.func45, Tryd.ntmps45
    go_wp2_with (go_at_call 78; refine (hv _).mono ?_; rintro e w' ⟨rfl, n, rfl⟩)
    go_ret
    exact ⟨ret_int (by rw [HG.out]), _, rfl⟩

end Go.Proofs.YtkajndonefkegaaDoor

namespace Go.Proofs.YtkajndonefkegaaDoor
open Go.RowKit Words FieldMath PteMath

theorem leaf_any (b0 b1 b2 b3 b4 b5 b6 b7 b8 b9 b10 b11 : Bool) (F : BitVec 64) (w : World) : Calls Tryd.prog 75 #[.agg #[.bool b0, .bool b1, .bool b2, .bool b3, .bool b4, .bool b5, .bool b6, .bool b7, .bool b8, .bool b9, .bool b10, .bool b11, .int .u64 (F.toNat : Int)]] w (Makes (.bool (b0 && (b1 || b2 || b3))) w) := by
  obtain ⟨SS, LB', LS, LA', LH⟩ := rules5
  cases b0 <;> cases b1 <;> cases b2
  all_goals
    go_enter Tryd.func75, Tryd.ntmps75
    go_wp2
    go_ret
    refine ⟨rfl, ?_⟩
    repeat (with_reducible first | assumption | exact Below.refl _ _ | refine Below.drew ?_ | refine below_drewN ?_ _ | refine bw_alloc ?_ _ | (refine bw_set ?_ ?_ _; focus (dsimp only; omega)) | (apply bw_behind; assumption))

theorem rleaf_any (b0 b1 b2 b3 b4 b5 b6 b7 b8 b9 b10 b11 : Bool) (F : BitVec 64) (w : World) : Calls Tryd.prog 67 #[.agg #[.bool b0, .bool b1, .bool b2, .bool b3, .bool b4, .bool b5, .bool b6, .bool b7, .bool b8, .bool b9, .bool b10, .bool b11, .int .u64 (F.toNat : Int)]] w (Makes (.bool (b0 && (b1 || b2 || b3))) w) := by
  obtain ⟨SS, LB', LS, LA', LH⟩ := rules5
  cases b0 <;> cases b1 <;> cases b2
  all_goals
    go_enter Tryd.func67, Tryd.ntmps67
    go_wp2
    go_ret
    refine ⟨rfl, ?_⟩
    repeat (with_reducible first | assumption | exact Below.refl _ _ | refine Below.drew ?_ | refine below_drewN ?_ _ | refine bw_alloc ?_ _ | (refine bw_set ?_ ?_ _; focus (dsimp only; omega)) | (apply bw_behind; assumption))
end Go.Proofs.YtkajndonefkegaaDoor

namespace Go.Proofs.YtkajndonefkegaaDoor
open Go.RowKit Words FieldMath PteMath

theorem number_any (x : BitVec 64) (w : World) : Calls Tryd.prog 31 #[.int .u64 (x.toNat : Int)] w (Quiet (.int .u64 (((x.toNat / 4096 : Nat) : Int))) w) := by
  have hx := toNat_lt x
  obtain ⟨X, hX⟩ : ∃ X : Nat, x.toNat = X := ⟨_, rfl⟩
  rw [hX] at hx ⊢
  go_enter Tryd.func31, Tryd.ntmps31
  go_wp2
  go_ret
  exact ⟨ret_int (by first | rfl | omega | (simp only [IntKind.wrap_u64] <;> omega)), 0, rfl⟩

theorem offset_any (x : BitVec 64) (w : World) : Calls Tryd.prog 65 #[.int .u64 (x.toNat : Int)] w (Quiet (.int .u64 (((x.toNat % 4096 : Nat) : Int))) w) := by
  have hx := toNat_lt x
  obtain ⟨X, hX⟩ : ∃ X : Nat, x.toNat = X := ⟨_, rfl⟩
  rw [hX] at hx ⊢
  go_enter Tryd.func65, Tryd.ntmps65
  go_wp2
  go_ret
  exact ⟨ret_int (by first | rfl | omega | (simp only [IntKind.wrap_u64] <;> omega)), 0, rfl⟩

theorem address_any (x : BitVec 64) (w : World) : Calls Tryd.prog 64 #[.int .u64 (x.toNat : Int)] w (Quiet (.int .u64 (IntKind.u64.wrap ((x.toNat : Int) * 4096))) w) := by
  have hx := toNat_lt x
  obtain ⟨X, hX⟩ : ∃ X : Nat, x.toNat = X := ⟨_, rfl⟩
  rw [hX] at hx ⊢
  go_enter Tryd.func64, Tryd.ntmps64
  go_wp2
  go_ret
  exact ⟨ret_int (by first | rfl | omega | (simp only [IntKind.wrap_u64] <;> omega)), 0, rfl⟩

theorem may_any (x : BitVec 64) (w : World) : Calls Tryd.prog 29 #[.int .u64 (x.toNat : Int)] w (Quiet (.bool (decide ((x.toNat : Int) < 274877906944))) w) := by
  have C1 : Hid (∀ W, Calls Tryd.prog 59 #[.int .i64 38] W (Quiet (.int .u64 ((maskB 38).toNat : Int)) W)) := hide (fun W => mask_any 38 W)
  have HM := hide (may_bv x)
  have HA := hide (and_bv x (maskB 38))
  go_enter Tryd.func29, Tryd.ntmps29
  go_wp2_with (go_at_call 59; (with_reducible refine (C1.out _).mono ?_); rintro e w' ⟨rfl, n1, rfl⟩)
  go_ret
  exact ⟨ret_bool (by rw [← HM.out, ← HA.out]), _, rfl⟩

theorem index_0 (x : BitVec 64) (w : World) : Calls Tryd.prog 73 #[.int .u64 (x.toNat : Int), .int .i64 0] w (Quiet (.int .i64 (idx x.toNat 0 : Int)) w) := by
  have C1 : Hid (∀ W, Calls Tryd.prog 58 #[.int .u64 (x.toNat : Int), .int .i64 12, .int .i64 9] W (Quiet (.int .u64 (idx x.toNat 0 : Int)) W)) := hide (fun W => by have := get_any x 12 9 W; rwa [get0] at this)
  have hw := small_wrap _ (idx_lt x.toNat 0)
  generalize (idx x.toNat 0 : Int) = K at *
  go_enter Tryd.func73, Tryd.ntmps73
  go_wp2_with (go_at_call 58; (with_reducible refine (C1.out _).mono ?_); rintro e w' ⟨rfl, n1, rfl⟩)
  go_ret
  exact ⟨ret_int hw, _, rfl⟩

theorem rindex_0 (x : BitVec 64) (w : World) : Calls Tryd.prog 68 #[.int .u64 (x.toNat : Int), .int .i64 0] w (Quiet (.int .i64 (idx x.toNat 0 : Int)) w) := by
  have hx := toNat_lt x
  have hd : (idx x.toNat 0 : Int) = (x.toNat : Int) / 4096 % 512 := by simp [idx]
  obtain ⟨X, hX⟩ : ∃ X : Int, (x.toNat : Int) = X := ⟨_, rfl⟩
  have h0 : 0 ≤ X := by omega
  have h1 : X < 18446744073709551616 := by omega
  rw [hd, hX]
  clear hd hX hx
  go_enter Tryd.func68, Tryd.ntmps68
  go_wp2
  refine wp_loop_rounds 1 ?_
  rw [rounds_succ]
  go_wp2
  go_ret
  exact ⟨ret_int (by first | omega | (simp only [wrap64] <;> omega) | (simp only [wrap64, IntKind.wrap_u64] <;> omega)), 0, rfl⟩

theorem index_1 (x : BitVec 64) (w : World) : Calls Tryd.prog 73 #[.int .u64 (x.toNat : Int), .int .i64 1] w (Quiet (.int .i64 (idx x.toNat 1 : Int)) w) := by
  have C1 : Hid (∀ W, Calls Tryd.prog 58 #[.int .u64 (x.toNat : Int), .int .i64 21, .int .i64 9] W (Quiet (.int .u64 (idx x.toNat 1 : Int)) W)) := hide (fun W => by have := get_any x 21 9 W; rwa [get1] at this)
  have hw := small_wrap _ (idx_lt x.toNat 1)
  generalize (idx x.toNat 1 : Int) = K at *
  go_enter Tryd.func73, Tryd.ntmps73
  go_wp2_with (go_at_call 58; (with_reducible refine (C1.out _).mono ?_); rintro e w' ⟨rfl, n1, rfl⟩)
  go_ret
  exact ⟨ret_int hw, _, rfl⟩

theorem rindex_1 (x : BitVec 64) (w : World) : Calls Tryd.prog 68 #[.int .u64 (x.toNat : Int), .int .i64 1] w (Quiet (.int .i64 (idx x.toNat 1 : Int)) w) := by
  have hx := toNat_lt x
  have hd : (idx x.toNat 1 : Int) = (x.toNat : Int) / 2097152 % 512 := by simp [idx]
  obtain ⟨X, hX⟩ : ∃ X : Int, (x.toNat : Int) = X := ⟨_, rfl⟩
  have h0 : 0 ≤ X := by omega
  have h1 : X < 18446744073709551616 := by omega
  rw [hd, hX]
  clear hd hX hx
  go_enter Tryd.func68, Tryd.ntmps68
  go_wp2
  refine wp_loop_rounds 2 ?_
  rw [rounds_succ]
  go_wp2
  rw [rounds_succ]
  go_wp2
  go_ret
  exact ⟨ret_int (by first | omega | (simp only [wrap64] <;> omega) | (simp only [wrap64, IntKind.wrap_u64] <;> omega)), 0, rfl⟩

theorem index_2 (x : BitVec 64) (w : World) : Calls Tryd.prog 73 #[.int .u64 (x.toNat : Int), .int .i64 2] w (Quiet (.int .i64 (idx x.toNat 2 : Int)) w) := by
  have C1 : Hid (∀ W, Calls Tryd.prog 58 #[.int .u64 (x.toNat : Int), .int .i64 30, .int .i64 9] W (Quiet (.int .u64 (idx x.toNat 2 : Int)) W)) := hide (fun W => by have := get_any x 30 9 W; rwa [get2] at this)
  have hw := small_wrap _ (idx_lt x.toNat 2)
  generalize (idx x.toNat 2 : Int) = K at *
  go_enter Tryd.func73, Tryd.ntmps73
  go_wp2_with (go_at_call 58; (with_reducible refine (C1.out _).mono ?_); rintro e w' ⟨rfl, n1, rfl⟩)
  go_ret
  exact ⟨ret_int hw, _, rfl⟩

theorem rindex_2 (x : BitVec 64) (w : World) : Calls Tryd.prog 68 #[.int .u64 (x.toNat : Int), .int .i64 2] w (Quiet (.int .i64 (idx x.toNat 2 : Int)) w) := by
  have hx := toNat_lt x
  have hd : (idx x.toNat 2 : Int) = (x.toNat : Int) / 1073741824 % 512 := by simp [idx]
  obtain ⟨X, hX⟩ : ∃ X : Int, (x.toNat : Int) = X := ⟨_, rfl⟩
  have h0 : 0 ≤ X := by omega
  have h1 : X < 18446744073709551616 := by omega
  rw [hd, hX]
  clear hd hX hx
  go_enter Tryd.func68, Tryd.ntmps68
  go_wp2
  refine wp_loop_rounds 3 ?_
  rw [rounds_succ]
  go_wp2
  rw [rounds_succ]
  go_wp2
  rw [rounds_succ]
  go_wp2
  go_ret
  exact ⟨ret_int (by first | omega | (simp only [wrap64] <;> omega) | (simp only [wrap64, IntKind.wrap_u64] <;> omega)), 0, rfl⟩

theorem idx_bad (v : Nat) (l : Int) (h : l < 0 ∨ 2 < l) : idx v l = 0 := by
  unfold idx
  rw [if_neg (by omega), if_neg (by omega), if_neg (by omega)]

theorem index_bad (x : BitVec 64) (l : Int) (h : l < 0 ∨ 2 < l) (w : World) : Calls Tryd.prog 73 #[.int .u64 (x.toNat : Int), .int .i64 l] w (Quiet (.int .i64 (idx x.toNat l : Int)) w) := by
  have hb := idx_bad x.toNat l h
  rw [hb]
  clear hb
  rcases h with h | h
  · go_enter Tryd.func73, Tryd.ntmps73
    go_wp2
    go_ret
    exact ⟨rfl, 0, rfl⟩
  · have h1 : ¬ l < 0 := by omega
    go_enter Tryd.func73, Tryd.ntmps73
    go_wp2
    go_ret
    exact ⟨rfl, 0, rfl⟩

theorem index_any (x : BitVec 64) (l : Int) (w : World) : Calls Tryd.prog 73 #[.int .u64 (x.toNat : Int), .int .i64 l] w (Quiet (.int .i64 (idx x.toNat l : Int)) w) := by
  by_cases h : l < 0 ∨ 2 < l
  · exact index_bad x l h w
  · obtain h0 | h1 | h2 : l = 0 ∨ l = 1 ∨ l = 2 := by omega
    · subst h0; exact index_0 x w
    · subst h1; exact index_1 x w
    · subst h2; exact index_2 x w

theorem rindex_bad (x : BitVec 64) (l : Int) (h : l < 0 ∨ 2 < l) (w : World) : Calls Tryd.prog 68 #[.int .u64 (x.toNat : Int), .int .i64 l] w (Quiet (.int .i64 (idx x.toNat l : Int)) w) := by
  have hb := idx_bad x.toNat l h
  rw [hb]
  clear hb
  rcases h with h | h
  · go_enter Tryd.func68, Tryd.ntmps68
    go_wp2
    go_ret
    exact ⟨rfl, 0, rfl⟩
  · have h1 : ¬ l < 0 := by omega
    go_enter Tryd.func68, Tryd.ntmps68
    go_wp2
    go_ret
    exact ⟨rfl, 0, rfl⟩

theorem rindex_any (x : BitVec 64) (l : Int) (w : World) : Calls Tryd.prog 68 #[.int .u64 (x.toNat : Int), .int .i64 l] w (Quiet (.int .i64 (idx x.toNat l : Int)) w) := by
  by_cases h : l < 0 ∨ 2 < l
  · exact rindex_bad x l h w
  · obtain h0 | h1 | h2 : l = 0 ∨ l = 1 ∨ l = 2 := by omega
    · subst h0; exact rindex_0 x w
    · subst h1; exact rindex_1 x w
    · subst h2; exact rindex_2 x w
end Go.Proofs.YtkajndonefkegaaDoor
