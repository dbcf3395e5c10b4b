/-
  What is so of an instruction that has a word: its operands fit; the others count for nothing. No program text here but the tables' lists.
-/
import Derived.Test.YtlommbeokbicjaaGreatDoorAsmWord2
namespace Go.Proofs.YtlommbeokbicjaaGreatDoor
open Go.RowKit InstMath AsmMath Words FieldMath
open Go.Lib (itoa)

theorem op_part : ∀ {s : Nat}, IsShape s → ∀ o ∈ opL s, ∃ p ∈ partsL s, p.1 = o := fun hs => each_shape (P := fun s => ∀ o ∈ opL s, ∃ p ∈ partsL s, p.1 = o) (by decide) hs
theorem part_op : ∀ {s : Nat}, IsShape s → ∀ p ∈ partsL s, p.1 ∈ opL s := fun hs => each_shape (P := fun s => ∀ p ∈ partsL s, p.1 ∈ opL s) (by decide) hs
theorem encL_congr {s : Nat} {f g : Nat → Int} : ∀ {L : List Prt} {w : BitVec 64}, (∀ p ∈ L, f p.1 = g p.1) → encL s f L w = encL s g L w
  | [], _, _ => rfl
  | p :: r, w, h => by
    unfold encL
    rw [h p (by simp), encL_congr (fun q hq => h q (List.mem_cons_of_mem _ hq))]
theorem enc_ops {k : Nat} (h1 : 1 ≤ k) (h2 : k ≤ 69) {f g : Nat → Int} (h : ∀ o ∈ opL (shp k), f o = g o) : encK k f = encK k g := by
  unfold encK
  exact encL_congr fun p hp => h _ (part_op (shape_of h1 h2) p hp)
theorem enc_fit {k : Nat} (h1 : 1 ≤ k) (h2 : k ≤ 69) {f : Nat → Int} {y : BitVec 64} (h : encK k f = some y) {o : Nat} (ho : o ∈ opL (shp k)) : fitB (shp k) o (f o) = true := by
  obtain ⟨p, hp, rfl⟩ := op_part (shape_of h1 h2) o ho
  exact enc_fits h p hp
theorem enc_reg {k : Nat} (h1 : 1 ≤ k) (h2 : k ≤ 69) {f : Nat → Int} {y : BitVec 64} (h : encK k f = some y) {o : Nat} (ho : o ∈ opL (shp k)) (h3 : o ≠ 3) : 0 ≤ f o ∧ f o < 32 := by
  have := enc_fit h1 h2 h ho
  unfold fitB at this
  rw [if_neg h3, show (5 : Int) = ((5 : Nat) : Int) from rfl, fits_u _ 5 (by omega) (by omega)] at this
  simpa using this
theorem sign_small {v : Int} (hv : rng v) {n : Nat} (h1 : 1 ≤ n) (h2 : n ≤ 32) (h : fitsB v n true = true) : -4294967296 ≤ v ∧ v < 4294967296 := by
  rw [fits_s _ _ h1 h2] at h
  have e : signB (BitVec.ofInt 64 v) n = BitVec.ofInt 64 v := by simpa using h
  have hb : ∀ i, i < 64 → 32 ≤ i → (BitVec.ofInt 64 v).getLsbD i = (BitVec.ofInt 64 v).getLsbD 31 := fun i hi h32 => by
    have a := sign_at (BitVec.ofInt 64 v) n h1 h2 i hi
    have b := sign_at (BitVec.ofInt 64 v) n h1 h2 31 (by omega)
    rw [e] at a b
    rw [a, if_neg (by omega)]
    by_cases hn : 31 < n
    · obtain rfl : n = 32 := by omega
      rfl
    · rw [b, if_neg hn]
  have e2 : BitVec.ofInt 64 v = ((BitVec.ofInt 64 v).setWidth 32).signExtend 64 := by
    apply BitVec.eq_of_getLsbD_eq
    intro i hi
    rw [BitVec.getLsbD_signExtend]
    by_cases h3 : i < 32
    · simp [h3, hi]
    · have : ((BitVec.ofInt 64 v).setWidth 32).msb = (BitVec.ofInt 64 v).getLsbD 31 := by
        rw [BitVec.msb_eq_getLsbD_last]
        simp
      rw [this]
      simp only [hi, decide_true, Bool.true_and, h3, if_false]
      exact hb i hi (by omega)
  have e3 := congrArg BitVec.toInt e2
  rw [BitVec.toInt_signExtend_of_le (by omega)] at e3
  have l1 := BitVec.toInt_lt (x := (BitVec.ofInt 64 v).setWidth 32)
  have l2 := BitVec.le_toInt (x := (BitVec.ofInt 64 v).setWidth 32)
  have e4 : (BitVec.ofInt 64 v).toInt = v := by
    obtain ⟨r1, r2⟩ := hv
    rw [BitVec.toInt_ofInt]
    simp [Int.bmod]
    omega
  rw [e4] at e3
  omega
theorem enc_imm {k : Nat} (h1 : 1 ≤ k) (h2 : k ≤ 69) {f : Nat → Int} {y : BitVec 64} (h : encK k f = some y) (hr : rng (f 3)) (ho : 3 ∈ opL (shp k)) : -4294967296 ≤ f 3 ∧ f 3 < 4294967296 := by
  have hf := enc_fit h1 h2 h ho
  have hn : 1 ≤ nW (shp k) ∧ nW (shp k) ≤ 32 := each_shape (P := fun s => 1 ≤ nW s ∧ nW s ≤ 32) (by decide) (shape_of h1 h2)
  unfold fitB at hf
  rw [if_pos rfl, Bool.and_eq_true] at hf
  cases hs : nS (shp k) with
  | true =>
    rw [hs] at hf
    exact sign_small hr hn.1 hn.2 hf.1
  | false =>
    rw [hs, fits_u _ _ hn.1 hn.2] at hf
    have h3 := hf.1
    simp at h3
    have : (2 : Int) ^ nW (shp k) ≤ 2 ^ 32 := by
      have := Nat.pow_le_pow_right (show 0 < 2 by decide) hn.2
      exact_mod_cast this
    omega
theorem enc_four {k : Nat} (h1 : 1 ≤ k) (h2 : k ≤ 69) (f : Nat → Int) : encK k (four (f 0) (f 1) (f 2) (f 3)) = encK k f := enc_ops h1 h2 fun o ho => by
  have := ops_lt (shape_of h1 h2) o ho
  obtain rfl | rfl | rfl | rfl : o = 0 ∨ o = 1 ∨ o = 2 ∨ o = 3 := by omega
  all_goals rfl
theorem msk_msk (k : Nat) (F : Nat → Int) (o : Nat) : msk k (msk k F) o = msk k F o := by
  by_cases ho : o ∈ opL (shp k)
  · rw [msk_yes ho]
  · rw [msk_no ho, msk_no ho]
theorem enc_msk {k : Nat} (h1 : 1 ≤ k) (h2 : k ≤ 69) (F : Nat → Int) : encK k (msk k F) = encK k F := enc_ops h1 h2 fun _ ho => msk_yes ho
theorem msk_rng {k : Nat} {F : Nat → Int} (hF : ∀ o, rng (F o)) (o : Nat) : rng (msk k F o) := by
  by_cases ho : o ∈ opL (shp k)
  · rw [msk_yes ho]; exact hF o
  · rw [msk_no ho]; unfold rng; omega
theorem wr_msk {k : Nat} (F : Nat → Int) : wr k F (itoa (F 3)) = wr k (msk k F) (itoa (msk k F 3)) := by
  unfold wr txs
  congr 1
  split
  · rfl
  · congr 1
    congr 1
    refine List.map_congr_left fun o ho => ?_
    unfold tx
    by_cases h3 : o = 3
    · subst h3
      rw [if_pos rfl, if_pos rfl, msk_yes ho]
    · rw [if_neg h3, if_neg h3, msk_yes ho]
/-- An instruction that Encode accepts, with 0 for what its shape has not. -/
theorem ins_ok {k : Nat} (h1 : 1 ≤ k) (h2 : k ≤ 69) {F : Nat → Int} (hF : ∀ o, rng (F o)) {y : BitVec 64} (h : encK k F = some y) :
    InsOk k (msk k F) (itoa (msk k F 3)) y ∧ -10000000000 < msk k F 3 ∧ msk k F 3 < 10000000000 := by
  have hb : -4294967296 ≤ msk k F 3 ∧ msk k F 3 < 4294967296 := by
    by_cases ho : 3 ∈ opL (shp k)
    · rw [msk_yes ho]; exact enc_imm h1 h2 h (hF 3) ho
    · rw [msk_no ho]; omega
  refine ⟨⟨h1, h2, msk_rng hF, fun o ho h3 => ?_, last_itoa (msk_rng hF 3), ?_⟩, by omega, by omega⟩
  · rw [msk_yes ho]
    exact enc_reg h1 h2 h ho h3
  · rw [enc_four h1 h2, enc_msk h1 h2, enc_msk h1 h2]
    exact h
end Go.Proofs.YtlommbeokbicjaaGreatDoor
