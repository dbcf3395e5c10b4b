/-
  The document's Encode answers what the program's does: the same word, and none where it has none.
-/
import Derived.Test.YtlommbeokbicjaaGreatDoorInstRencA
import Derived.Test.YtlommbeokbicjaaGreatDoorInstRencB
import Derived.Test.YtlommbeokbicjaaGreatDoorInstRencC
import Derived.Test.YtlommbeokbicjaaGreatDoorGIm
namespace Go.Proofs.YtlommbeokbicjaaGreatDoor
open Go.RowKit Words FieldMath InstMath

def DocE (j : Nat) (a b c m : Int) : Prop := ∃ V : Int, (∀ W, Calls Tryz.prog 69 #[.agg #[.int .i64 ((j : Int) + 1), .int .i64 a, .int .i64 b, .int .i64 c, .int .i64 m]] W (Makes (.tuple #[.int .u32 V, .bool (encK (j + 1) (four a b c m)).isSome]) W)) ∧
  ∀ y, encK (j + 1) (four a b c m) = some y → V = (y.toNat : Int)
theorem mm1 (a b : Int) : (a % 4294967296 + b) % 4294967296 = (a + b) % 4294967296 := by omega
theorem mm2 (a b : Int) : (a + b % 4294967296) % 4294967296 = (a + b) % 4294967296 := by omega
theorem mm3 (a : Int) : (a % 4294967296 * 128) % 4294967296 = (a * 128) % 4294967296 := by omega
theorem mm4 (a : Int) : (a % 4294967296 * 32768) % 4294967296 = (a * 32768) % 4294967296 := by omega
theorem mm5 (a : Int) : (a % 4294967296 * 1048576) % 4294967296 = (a * 1048576) % 4294967296 := by omega
theorem reg_fit (s : Nat) {o : Nat} (ho : o ≠ 3) (v : Int) : fitB s o v = regB v := by
  unfold fitB regB
  rw [if_neg ho, show (5 : Int) = ((5 : Nat) : Int) from rfl, fits_u _ _ (by decide) (by decide)]
  congr 1
  exact decide_eq_decide.mpr (by omega)
theorem reg_in {v : Int} (h : regB v = true) : 0 ≤ v ∧ v ≤ 31 := by
  unfold regB at h
  simpa using h
theorem and31 {v : Int} (h : regB v = true) : bits .and .i64 v 31 = v := by
  obtain ⟨h0, h1⟩ := reg_in h
  have e : bits .and .i64 v 31 = IntKind.i64.wrap ((BitVec.ofInt 64 v &&& BitVec.ofInt 64 31).toNat : Int) := rfl
  have e1 := ofInt_small h0 (by omega)
  have e2 : (BitVec.ofInt 64 31).toNat = 2 ^ 5 - 1 := by decide
  rw [e, BitVec.toNat_and, e1, e2, Nat.and_two_pow_sub_one_eq_mod, IntKind.wrap_i64]
  omega
theorem reg_term {v : Int} (h : regB v = true) : (BitVec.ofInt 64 v >>> 0).toNat % 2 ^ 5 = v.toNat := by
  obtain ⟨h0, h1⟩ := reg_in h
  rw [BitVec.ushiftRight_zero, ofInt_small h0 (by omega)]
  omega
theorem bits_term (x : BitVec 64) (f n a : Nat) (hf : f + n ≤ 64) (ha : a + n ≤ 32) : (getB x (f : Int) (n : Int) <<< a).toNat = (x >>> f).toNat % 2 ^ n * 2 ^ a := by
  rw [← term_toNat a n (x >>> f) ha]
  congr 1
  have ok : okF (f : Int) (n : Int) = true := by unfold okF; simp; omega
  refine ext64 fun i hi => ?_
  rw [term_bit _ _ _ _ hi, BitVec.getLsbD_shiftLeft]
  by_cases h : a ≤ i
  · have e1 : ¬ i < a := by omega
    have e2 : i - a < 64 := by omega
    have e3 : (((i - a : Nat) : Int) < (n : Int)) ↔ i < a + n := by omega
    rw [get_bit _ _ _ _ e2, ok, BitVec.getLsbD_ushiftRight]
    simp only [hi, h, e1, e3, decide_true, decide_false, Bool.not_false, Bool.true_and, Int.toNat_natCast]
  · have e1 : i < a := by omega
    simp only [h, e1, decide_true, decide_false, Bool.not_true, Bool.false_and, Bool.and_false]
theorem term_bd (x : BitVec 64) (f n a : Nat) (ha : a + n ≤ 32) : (x >>> f).toNat % 2 ^ n * 2 ^ a < 4294967296 := by
  rw [← term_toNat a n (x >>> f) ha]
  exact term_lt _ _ _ ha

theorem wrd_R : ∀ k, k < 70 → shp k = 82 → wrd k = cod k + fof k * 4096 + oth k * 33554432 := by decide +kernel
theorem all_R (j : Nat) (hs : shp (j + 1) = 82) (a b c m : Int) : (encK (j + 1) (four a b c m)).isSome = (regB a && regB b && regB c) := by
  unfold encK
  rw [enc_all, hs]
  rw [show partsL 82 = [(0, 0, 5, 7), (1, 0, 5, 15), (2, 0, 5, 20)] from rfl]
  simp only [List.all_cons, List.all_nil, Bool.and_true]
  rw [show fitB 82 0 (four a b c m 0) = regB a from reg_fit 82 (by decide) _]
  rw [show fitB 82 1 (four a b c m 1) = regB b from reg_fit 82 (by decide) _]
  rw [show fitB 82 2 (four a b c m 2) = regB c from reg_fit 82 (by decide) _]
  all_goals (generalize regB a = Ra; generalize regB b = Rb; generalize regB c = Rc; cases Ra <;> cases Rb <;> cases Rc <;> rfl)
set_option maxRecDepth 100000 in
theorem doc_R (j : Nat) (hj : j < 69) (hs : shp (j + 1) = 82) (a b c m : Int) : DocE j a b c m := by
  refine ⟨IntKind.u32.wrap ((IntKind.u32.wrap ((IntKind.u32.wrap ((IntKind.u32.wrap ((IntKind.u32.wrap ((((cod (j + 1) : Nat) : Int)) + (IntKind.u32.wrap ((((fof (j + 1) : Nat) : Int)) * 4096)))) + (IntKind.u32.wrap ((IntKind.u32.wrap (bits .and .i64 a 31)) * 128)))) + (IntKind.u32.wrap ((IntKind.u32.wrap (bits .and .i64 b 31)) * 32768)))) + (IntKind.u32.wrap ((IntKind.u32.wrap (bits .and .i64 c 31)) * 1048576)))) + (IntKind.u32.wrap ((((oth (j + 1) : Nat) : Int)) * 33554432))), fun W => ?_, fun y hy => ?_⟩
  · rw [all_R j hs a b c m]
    have hrow : ∀ W N, RowsAt W N → W.cell? ⟨N, j * 5, none⟩ = some (.string (nameB (j + 1))) ∧ W.cell? ⟨N, j * 5 + 1, none⟩ = some (.int .u8 82) ∧ W.cell? ⟨N, j * 5 + 2, none⟩ = some (.int .u32 ((cod (j + 1) : Nat) : Int)) ∧ W.cell? ⟨N, j * 5 + 3, none⟩ = some (.int .u32 ((fof (j + 1) : Nat) : Int)) ∧ W.cell? ⟨N, j * 5 + 4, none⟩ = some (.int .u32 ((oth (j + 1) : Nat) : Int)) := fun W N h => by
      have := h j hj
      rw [hs] at this
      exact this
    have ha := fun W => rreg_any a W
    have hb := fun W => rreg_any b W
    have hc := fun W => rreg_any c W
    cases e0 : regB a with
    | false =>
      rw [e0] at ha
      exact renc_R0 j hj _ _ _ _ _ _ _ _ _ _ _ _ _ _ _ _ _ _ _ _ _ _ _ _ ha hrow rfl rfl rfl rfl rfl rfl rfl rfl rfl rfl rfl rfl rfl rfl rfl rfl W
    | true =>
      rw [e0] at ha
      cases e1 : regB b with
      | false =>
        rw [e1] at hb
        exact renc_R1 j hj _ _ _ _ _ _ _ _ _ _ _ _ _ _ _ _ _ _ _ _ _ _ _ _ ha hb hrow rfl rfl rfl rfl rfl rfl rfl rfl rfl rfl rfl rfl rfl rfl rfl rfl W
      | true =>
        rw [e1] at hb
        exact renc_R2 j hj _ _ _ _ _ _ _ _ _ _ _ _ _ _ _ _ _ _ _ _ _ _ _ _ _ ha hb hc hrow rfl rfl rfl rfl rfl rfl rfl rfl rfl rfl rfl rfl rfl rfl rfl rfl W
  · have hsum := encK_sum (k := j + 1) (by omega) (by omega) hy
    rw [hs] at hsum
    have hsum2 : y.toNat = wrd (j + 1) + ((BitVec.ofInt 64 a >>> 0).toNat % 2 ^ 5 * 2 ^ 7 + ((BitVec.ofInt 64 b >>> 0).toNat % 2 ^ 5 * 2 ^ 15 + ((BitVec.ofInt 64 c >>> 0).toNat % 2 ^ 5 * 2 ^ 20 + 0))) := hsum
    clear hsum
    have hyl := (enc_match (k := j + 1) (by omega) (by omega) hy).1
    rw [wrd_R (j + 1) (by omega) hs] at hsum2
    have hf := enc_fits hy
    rw [hs] at hf
    have fa : regB a = true := by rw [← reg_fit 82 (o := 0) (by decide)]; exact hf (0, 0, 5, 7) (by decide)
    obtain ⟨la, ua⟩ := reg_in fa
    rw [reg_term fa] at hsum2
    rw [and31 fa]
    have fb : regB b = true := by rw [← reg_fit 82 (o := 1) (by decide)]; exact hf (1, 0, 5, 15) (by decide)
    obtain ⟨lb, ub⟩ := reg_in fb
    rw [reg_term fb] at hsum2
    rw [and31 fb]
    have fc : regB c = true := by rw [← reg_fit 82 (o := 2) (by decide)]; exact hf (2, 0, 5, 20) (by decide)
    obtain ⟨lc, uc⟩ := reg_in fc
    rw [reg_term fc] at hsum2
    rw [and31 fc]
    simp only [IntKind.wrap_u32', mm1, mm2, mm3, mm4, mm5]
    omega

theorem wrd_G : ∀ k, k < 70 → shp k = 71 → wrd k = cod k + fof k * 4096 + oth k * 1048576 + 4261412864 := by decide +kernel
theorem all_G (j : Nat) (hs : shp (j + 1) = 71) (a b c m : Int) : (encK (j + 1) (four a b c m)).isSome = (regB a && regB b) := by
  unfold encK
  rw [enc_all, hs]
  rw [show partsL 71 = [(0, 0, 5, 7), (1, 0, 5, 15)] from rfl]
  simp only [List.all_cons, List.all_nil, Bool.and_true]
  rw [show fitB 71 0 (four a b c m 0) = regB a from reg_fit 71 (by decide) _]
  rw [show fitB 71 1 (four a b c m 1) = regB b from reg_fit 71 (by decide) _]
  all_goals (generalize regB a = Ra; generalize regB b = Rb; cases Ra <;> cases Rb <;> rfl)
set_option maxRecDepth 100000 in
theorem doc_G (j : Nat) (hj : j < 69) (hs : shp (j + 1) = 71) (a b c m : Int) : DocE j a b c m := by
  refine ⟨IntKind.u32.wrap ((IntKind.u32.wrap ((IntKind.u32.wrap ((IntKind.u32.wrap ((IntKind.u32.wrap ((((cod (j + 1) : Nat) : Int)) + (IntKind.u32.wrap ((((fof (j + 1) : Nat) : Int)) * 4096)))) + (IntKind.u32.wrap ((IntKind.u32.wrap (bits .and .i64 a 31)) * 128)))) + (IntKind.u32.wrap ((IntKind.u32.wrap (bits .and .i64 b 31)) * 32768)))) + (IntKind.u32.wrap ((((oth (j + 1) : Nat) : Int)) * 1048576)))) + 4261412864), fun W => ?_, fun y hy => ?_⟩
  · rw [all_G j hs a b c m]
    have hrow : ∀ W N, RowsAt W N → W.cell? ⟨N, j * 5, none⟩ = some (.string (nameB (j + 1))) ∧ W.cell? ⟨N, j * 5 + 1, none⟩ = some (.int .u8 71) ∧ W.cell? ⟨N, j * 5 + 2, none⟩ = some (.int .u32 ((cod (j + 1) : Nat) : Int)) ∧ W.cell? ⟨N, j * 5 + 3, none⟩ = some (.int .u32 ((fof (j + 1) : Nat) : Int)) ∧ W.cell? ⟨N, j * 5 + 4, none⟩ = some (.int .u32 ((oth (j + 1) : Nat) : Int)) := fun W N h => by
      have := h j hj
      rw [hs] at this
      exact this
    have ha := fun W => rreg_any a W
    have hb := fun W => rreg_any b W
    cases e0 : regB a with
    | false =>
      rw [e0] at ha
      exact renc_G0 j hj _ _ _ _ _ _ _ _ _ _ _ _ _ _ _ _ _ _ _ _ _ _ _ _ ha hrow rfl rfl rfl rfl rfl rfl rfl rfl rfl rfl rfl rfl rfl rfl rfl rfl W
    | true =>
      rw [e0] at ha
      exact renc_G1 j hj _ _ _ _ _ _ _ _ _ _ _ _ _ _ _ _ _ _ _ _ _ _ _ _ _ ha hb hrow rfl rfl rfl rfl rfl rfl rfl rfl rfl rfl rfl rfl rfl rfl rfl rfl W
  · have hsum := encK_sum (k := j + 1) (by omega) (by omega) hy
    rw [hs] at hsum
    have hsum2 : y.toNat = wrd (j + 1) + ((BitVec.ofInt 64 a >>> 0).toNat % 2 ^ 5 * 2 ^ 7 + ((BitVec.ofInt 64 b >>> 0).toNat % 2 ^ 5 * 2 ^ 15 + 0)) := hsum
    clear hsum
    have hyl := (enc_match (k := j + 1) (by omega) (by omega) hy).1
    rw [wrd_G (j + 1) (by omega) hs] at hsum2
    have hf := enc_fits hy
    rw [hs] at hf
    have fa : regB a = true := by rw [← reg_fit 71 (o := 0) (by decide)]; exact hf (0, 0, 5, 7) (by decide)
    obtain ⟨la, ua⟩ := reg_in fa
    rw [reg_term fa] at hsum2
    rw [and31 fa]
    have fb : regB b = true := by rw [← reg_fit 71 (o := 1) (by decide)]; exact hf (1, 0, 5, 15) (by decide)
    obtain ⟨lb, ub⟩ := reg_in fb
    rw [reg_term fb] at hsum2
    rw [and31 fb]
    simp only [IntKind.wrap_u32', mm1, mm2, mm3, mm4]
    omega

theorem wrd_I : ∀ k, k < 70 → shp k = 73 → wrd k = cod k + fof k * 4096 := by decide +kernel
theorem all_I (j : Nat) (hs : shp (j + 1) = 73) (a b c m : Int) : (encK (j + 1) (four a b c m)).isSome = (regB a && regB b && fitsB m 12 true) := by
  unfold encK
  rw [enc_all, hs]
  rw [show partsL 73 = [(0, 0, 5, 7), (1, 0, 5, 15), (3, 0, 12, 20)] from rfl]
  simp only [List.all_cons, List.all_nil, Bool.and_true]
  rw [show fitB 73 0 (four a b c m 0) = regB a from reg_fit 73 (by decide) _]
  rw [show fitB 73 1 (four a b c m 1) = regB b from reg_fit 73 (by decide) _]
  rw [show fitB 73 3 (four a b c m 3) = (fitsB m 12 true && (m.tmod 1 == 0)) from rfl]
  rw [show (m.tmod 1 == 0) = true by simp]
  all_goals (generalize fitsB m 12 true = F; generalize regB a = Ra; generalize regB b = Rb; cases Ra <;> cases Rb <;> cases F <;> rfl)
set_option maxRecDepth 100000 in
theorem doc_I (j : Nat) (hj : j < 69) (hs : shp (j + 1) = 73) (a b c m : Int) (rm : rng m) : DocE j a b c m := by
  refine ⟨IntKind.u32.wrap ((IntKind.u32.wrap ((IntKind.u32.wrap ((IntKind.u32.wrap ((((cod (j + 1) : Nat) : Int)) + (IntKind.u32.wrap ((((fof (j + 1) : Nat) : Int)) * 4096)))) + (IntKind.u32.wrap ((IntKind.u32.wrap (bits .and .i64 a 31)) * 128)))) + (IntKind.u32.wrap ((IntKind.u32.wrap (bits .and .i64 b 31)) * 32768)))) + (IntKind.u32.wrap ((getB (BitVec.ofInt 64 m) 0 12 <<< 20).toNat : Int))), fun W => ?_, fun y hy => ?_⟩
  · rw [all_I j hs a b c m]
    have hrow : ∀ W N, RowsAt W N → W.cell? ⟨N, j * 5, none⟩ = some (.string (nameB (j + 1))) ∧ W.cell? ⟨N, j * 5 + 1, none⟩ = some (.int .u8 73) ∧ W.cell? ⟨N, j * 5 + 2, none⟩ = some (.int .u32 ((cod (j + 1) : Nat) : Int)) ∧ W.cell? ⟨N, j * 5 + 3, none⟩ = some (.int .u32 ((fof (j + 1) : Nat) : Int)) ∧ W.cell? ⟨N, j * 5 + 4, none⟩ = some (.int .u32 ((oth (j + 1) : Nat) : Int)) := fun W N h => by
      have := h j hj
      rw [hs] at this
      exact this
    have ha := fun W => rreg_any a W
    have hb := fun W => rreg_any b W
    have t0 : ∀ W, Calls Tryz.prog 96 #[.int .i64 m, .int .i64 0, .int .i64 12, .int .i64 20] W (Quiet (.int .u32 (IntKind.u32.wrap ((getB (BitVec.ofInt 64 m) 0 12 <<< 20).toNat : Int))) W) := fun W => rbits_any m 0 12 20 (by decide) W
    have hf := fun W => rfits_any m 12 true W rm.1 rm.2
    cases e0 : regB a with
    | false =>
      rw [e0] at ha
      exact renc_I0 j hj _ _ _ _ _ _ _ _ _ _ _ _ _ _ _ _ _ _ _ _ _ _ _ ha t0 hrow rfl rfl rfl rfl rfl rfl rfl rfl rfl rfl rfl rfl rfl rfl W
    | true =>
      rw [e0] at ha
      cases e1 : regB b with
      | false =>
        rw [e1] at hb
        exact renc_I1 j hj _ _ _ _ _ _ _ _ _ _ _ _ _ _ _ _ _ _ _ _ _ _ _ ha hb t0 hrow rfl rfl rfl rfl rfl rfl rfl rfl rfl rfl rfl rfl rfl rfl W
      | true =>
        rw [e1] at hb
        exact renc_I2 j hj _ _ _ _ _ _ _ _ _ _ _ _ _ _ _ _ _ _ _ _ _ _ _ _ ha hb t0 hf hrow rfl rfl rfl rfl rfl rfl rfl rfl rfl rfl rfl rfl rfl rfl W
  · have hsum := encK_sum (k := j + 1) (by omega) (by omega) hy
    rw [hs] at hsum
    have hsum2 : y.toNat = wrd (j + 1) + ((BitVec.ofInt 64 a >>> 0).toNat % 2 ^ 5 * 2 ^ 7 + ((BitVec.ofInt 64 b >>> 0).toNat % 2 ^ 5 * 2 ^ 15 + ((BitVec.ofInt 64 m >>> 0).toNat % 2 ^ 12 * 2 ^ 20 + 0))) := hsum
    clear hsum
    have hyl := (enc_match (k := j + 1) (by omega) (by omega) hy).1
    rw [wrd_I (j + 1) (by omega) hs] at hsum2
    have hf := enc_fits hy
    rw [hs] at hf
    have fa : regB a = true := by rw [← reg_fit 73 (o := 0) (by decide)]; exact hf (0, 0, 5, 7) (by decide)
    obtain ⟨la, ua⟩ := reg_in fa
    rw [reg_term fa] at hsum2
    rw [and31 fa]
    have fb : regB b = true := by rw [← reg_fit 73 (o := 1) (by decide)]; exact hf (1, 0, 5, 15) (by decide)
    obtain ⟨lb, ub⟩ := reg_in fb
    rw [reg_term fb] at hsum2
    rw [and31 fb]
    have b0 := bits_term (BitVec.ofInt 64 m) 0 12 20 (by decide) (by decide)
    have bb0 := term_bd (BitVec.ofInt 64 m) 0 12 20 (by decide)
    have bc0 : ((getB (BitVec.ofInt 64 m) 0 12 <<< 20).toNat : Int) = (((BitVec.ofInt 64 m >>> 0).toNat % 2 ^ 12 * 2 ^ 20 : Nat) : Int) := congrArg _ b0
    obtain ⟨t0, ht0⟩ : ∃ t, (BitVec.ofInt 64 m >>> 0).toNat % 2 ^ 12 * 2 ^ 20 = t := ⟨_, rfl⟩
    rw [ht0] at bb0 bc0 hsum2
    rw [bc0]
    clear b0 bc0 ht0
    simp only [IntKind.wrap_u32', mm1, mm2, mm3, mm4]
    omega

theorem wrd_C : ∀ k, k < 70 → shp k = 67 → wrd k = cod k + fof k * 4096 := by decide +kernel
theorem all_C (j : Nat) (hs : shp (j + 1) = 67) (a b c m : Int) : (encK (j + 1) (four a b c m)).isSome = (regB a && regB b && fitsB m 12 false) := by
  unfold encK
  rw [enc_all, hs]
  rw [show partsL 67 = [(0, 0, 5, 7), (1, 0, 5, 15), (3, 0, 12, 20)] from rfl]
  simp only [List.all_cons, List.all_nil, Bool.and_true]
  rw [show fitB 67 0 (four a b c m 0) = regB a from reg_fit 67 (by decide) _]
  rw [show fitB 67 1 (four a b c m 1) = regB b from reg_fit 67 (by decide) _]
  rw [show fitB 67 3 (four a b c m 3) = (fitsB m 12 false && (m.tmod 1 == 0)) from rfl]
  rw [show (m.tmod 1 == 0) = true by simp]
  all_goals (generalize fitsB m 12 false = F; generalize regB a = Ra; generalize regB b = Rb; cases Ra <;> cases Rb <;> cases F <;> rfl)
set_option maxRecDepth 100000 in
theorem doc_C (j : Nat) (hj : j < 69) (hs : shp (j + 1) = 67) (a b c m : Int) (rm : rng m) : DocE j a b c m := by
  refine ⟨IntKind.u32.wrap ((IntKind.u32.wrap ((IntKind.u32.wrap ((IntKind.u32.wrap ((((cod (j + 1) : Nat) : Int)) + (IntKind.u32.wrap ((((fof (j + 1) : Nat) : Int)) * 4096)))) + (IntKind.u32.wrap ((IntKind.u32.wrap (bits .and .i64 a 31)) * 128)))) + (IntKind.u32.wrap ((IntKind.u32.wrap (bits .and .i64 b 31)) * 32768)))) + (IntKind.u32.wrap ((getB (BitVec.ofInt 64 m) 0 12 <<< 20).toNat : Int))), fun W => ?_, fun y hy => ?_⟩
  · rw [all_C j hs a b c m]
    have hrow : ∀ W N, RowsAt W N → W.cell? ⟨N, j * 5, none⟩ = some (.string (nameB (j + 1))) ∧ W.cell? ⟨N, j * 5 + 1, none⟩ = some (.int .u8 67) ∧ W.cell? ⟨N, j * 5 + 2, none⟩ = some (.int .u32 ((cod (j + 1) : Nat) : Int)) ∧ W.cell? ⟨N, j * 5 + 3, none⟩ = some (.int .u32 ((fof (j + 1) : Nat) : Int)) ∧ W.cell? ⟨N, j * 5 + 4, none⟩ = some (.int .u32 ((oth (j + 1) : Nat) : Int)) := fun W N h => by
      have := h j hj
      rw [hs] at this
      exact this
    have ha := fun W => rreg_any a W
    have hb := fun W => rreg_any b W
    have t0 : ∀ W, Calls Tryz.prog 96 #[.int .i64 m, .int .i64 0, .int .i64 12, .int .i64 20] W (Quiet (.int .u32 (IntKind.u32.wrap ((getB (BitVec.ofInt 64 m) 0 12 <<< 20).toNat : Int))) W) := fun W => rbits_any m 0 12 20 (by decide) W
    have hf := fun W => rfits_any m 12 false W rm.1 rm.2
    cases e0 : regB a with
    | false =>
      rw [e0] at ha
      exact renc_C0 j hj _ _ _ _ _ _ _ _ _ _ _ _ _ _ _ _ _ _ _ _ _ _ _ ha t0 hrow rfl rfl rfl rfl rfl rfl rfl rfl rfl rfl rfl rfl rfl rfl W
    | true =>
      rw [e0] at ha
      cases e1 : regB b with
      | false =>
        rw [e1] at hb
        exact renc_C1 j hj _ _ _ _ _ _ _ _ _ _ _ _ _ _ _ _ _ _ _ _ _ _ _ ha hb t0 hrow rfl rfl rfl rfl rfl rfl rfl rfl rfl rfl rfl rfl rfl rfl W
      | true =>
        rw [e1] at hb
        exact renc_C2 j hj _ _ _ _ _ _ _ _ _ _ _ _ _ _ _ _ _ _ _ _ _ _ _ _ ha hb t0 hf hrow rfl rfl rfl rfl rfl rfl rfl rfl rfl rfl rfl rfl rfl rfl W
  · have hsum := encK_sum (k := j + 1) (by omega) (by omega) hy
    rw [hs] at hsum
    have hsum2 : y.toNat = wrd (j + 1) + ((BitVec.ofInt 64 a >>> 0).toNat % 2 ^ 5 * 2 ^ 7 + ((BitVec.ofInt 64 b >>> 0).toNat % 2 ^ 5 * 2 ^ 15 + ((BitVec.ofInt 64 m >>> 0).toNat % 2 ^ 12 * 2 ^ 20 + 0))) := hsum
    clear hsum
    have hyl := (enc_match (k := j + 1) (by omega) (by omega) hy).1
    rw [wrd_C (j + 1) (by omega) hs] at hsum2
    have hf := enc_fits hy
    rw [hs] at hf
    have fa : regB a = true := by rw [← reg_fit 67 (o := 0) (by decide)]; exact hf (0, 0, 5, 7) (by decide)
    obtain ⟨la, ua⟩ := reg_in fa
    rw [reg_term fa] at hsum2
    rw [and31 fa]
    have fb : regB b = true := by rw [← reg_fit 67 (o := 1) (by decide)]; exact hf (1, 0, 5, 15) (by decide)
    obtain ⟨lb, ub⟩ := reg_in fb
    rw [reg_term fb] at hsum2
    rw [and31 fb]
    have b0 := bits_term (BitVec.ofInt 64 m) 0 12 20 (by decide) (by decide)
    have bb0 := term_bd (BitVec.ofInt 64 m) 0 12 20 (by decide)
    have bc0 : ((getB (BitVec.ofInt 64 m) 0 12 <<< 20).toNat : Int) = (((BitVec.ofInt 64 m >>> 0).toNat % 2 ^ 12 * 2 ^ 20 : Nat) : Int) := congrArg _ b0
    obtain ⟨t0, ht0⟩ : ∃ t, (BitVec.ofInt 64 m >>> 0).toNat % 2 ^ 12 * 2 ^ 20 = t := ⟨_, rfl⟩
    rw [ht0] at bb0 bc0 hsum2
    rw [bc0]
    clear b0 bc0 ht0
    simp only [IntKind.wrap_u32', mm1, mm2, mm3, mm4]
    omega

theorem wrd_H : ∀ k, k < 70 → shp k = 72 → wrd k = cod k + fof k * 4096 + oth k * 67108864 := by decide +kernel
theorem all_H (j : Nat) (hs : shp (j + 1) = 72) (a b c m : Int) : (encK (j + 1) (four a b c m)).isSome = (regB a && regB b && fitsB m 6 false) := by
  unfold encK
  rw [enc_all, hs]
  rw [show partsL 72 = [(0, 0, 5, 7), (1, 0, 5, 15), (3, 0, 6, 20)] from rfl]
  simp only [List.all_cons, List.all_nil, Bool.and_true]
  rw [show fitB 72 0 (four a b c m 0) = regB a from reg_fit 72 (by decide) _]
  rw [show fitB 72 1 (four a b c m 1) = regB b from reg_fit 72 (by decide) _]
  rw [show fitB 72 3 (four a b c m 3) = (fitsB m 6 false && (m.tmod 1 == 0)) from rfl]
  rw [show (m.tmod 1 == 0) = true by simp]
  all_goals (generalize fitsB m 6 false = F; generalize regB a = Ra; generalize regB b = Rb; cases Ra <;> cases Rb <;> cases F <;> rfl)
set_option maxRecDepth 100000 in
theorem doc_H (j : Nat) (hj : j < 69) (hs : shp (j + 1) = 72) (a b c m : Int) (rm : rng m) : DocE j a b c m := by
  refine ⟨IntKind.u32.wrap ((IntKind.u32.wrap ((IntKind.u32.wrap ((IntKind.u32.wrap ((IntKind.u32.wrap ((((cod (j + 1) : Nat) : Int)) + (IntKind.u32.wrap ((((fof (j + 1) : Nat) : Int)) * 4096)))) + (IntKind.u32.wrap ((IntKind.u32.wrap (bits .and .i64 a 31)) * 128)))) + (IntKind.u32.wrap ((IntKind.u32.wrap (bits .and .i64 b 31)) * 32768)))) + (IntKind.u32.wrap ((getB (BitVec.ofInt 64 m) 0 6 <<< 20).toNat : Int)))) + (IntKind.u32.wrap ((((oth (j + 1) : Nat) : Int)) * 67108864))), fun W => ?_, fun y hy => ?_⟩
  · rw [all_H j hs a b c m]
    have hrow : ∀ W N, RowsAt W N → W.cell? ⟨N, j * 5, none⟩ = some (.string (nameB (j + 1))) ∧ W.cell? ⟨N, j * 5 + 1, none⟩ = some (.int .u8 72) ∧ W.cell? ⟨N, j * 5 + 2, none⟩ = some (.int .u32 ((cod (j + 1) : Nat) : Int)) ∧ W.cell? ⟨N, j * 5 + 3, none⟩ = some (.int .u32 ((fof (j + 1) : Nat) : Int)) ∧ W.cell? ⟨N, j * 5 + 4, none⟩ = some (.int .u32 ((oth (j + 1) : Nat) : Int)) := fun W N h => by
      have := h j hj
      rw [hs] at this
      exact this
    have ha := fun W => rreg_any a W
    have hb := fun W => rreg_any b W
    have t0 : ∀ W, Calls Tryz.prog 96 #[.int .i64 m, .int .i64 0, .int .i64 6, .int .i64 20] W (Quiet (.int .u32 (IntKind.u32.wrap ((getB (BitVec.ofInt 64 m) 0 6 <<< 20).toNat : Int))) W) := fun W => rbits_any m 0 6 20 (by decide) W
    have hf := fun W => rfits_any m 6 false W rm.1 rm.2
    cases e0 : regB a with
    | false =>
      rw [e0] at ha
      exact renc_H0 j hj _ _ _ _ _ _ _ _ _ _ _ _ _ _ _ _ _ _ _ _ _ _ _ _ _ ha t0 hrow rfl rfl rfl rfl rfl rfl rfl rfl rfl rfl rfl rfl rfl rfl rfl rfl W
    | true =>
      rw [e0] at ha
      cases e1 : regB b with
      | false =>
        rw [e1] at hb
        exact renc_H1 j hj _ _ _ _ _ _ _ _ _ _ _ _ _ _ _ _ _ _ _ _ _ _ _ _ _ ha hb t0 hrow rfl rfl rfl rfl rfl rfl rfl rfl rfl rfl rfl rfl rfl rfl rfl rfl W
      | true =>
        rw [e1] at hb
        exact renc_H2 j hj _ _ _ _ _ _ _ _ _ _ _ _ _ _ _ _ _ _ _ _ _ _ _ _ _ _ ha hb t0 hf hrow rfl rfl rfl rfl rfl rfl rfl rfl rfl rfl rfl rfl rfl rfl rfl rfl W
  · have hsum := encK_sum (k := j + 1) (by omega) (by omega) hy
    rw [hs] at hsum
    have hsum2 : y.toNat = wrd (j + 1) + ((BitVec.ofInt 64 a >>> 0).toNat % 2 ^ 5 * 2 ^ 7 + ((BitVec.ofInt 64 b >>> 0).toNat % 2 ^ 5 * 2 ^ 15 + ((BitVec.ofInt 64 m >>> 0).toNat % 2 ^ 6 * 2 ^ 20 + 0))) := hsum
    clear hsum
    have hyl := (enc_match (k := j + 1) (by omega) (by omega) hy).1
    rw [wrd_H (j + 1) (by omega) hs] at hsum2
    have hf := enc_fits hy
    rw [hs] at hf
    have fa : regB a = true := by rw [← reg_fit 72 (o := 0) (by decide)]; exact hf (0, 0, 5, 7) (by decide)
    obtain ⟨la, ua⟩ := reg_in fa
    rw [reg_term fa] at hsum2
    rw [and31 fa]
    have fb : regB b = true := by rw [← reg_fit 72 (o := 1) (by decide)]; exact hf (1, 0, 5, 15) (by decide)
    obtain ⟨lb, ub⟩ := reg_in fb
    rw [reg_term fb] at hsum2
    rw [and31 fb]
    have b0 := bits_term (BitVec.ofInt 64 m) 0 6 20 (by decide) (by decide)
    have bb0 := term_bd (BitVec.ofInt 64 m) 0 6 20 (by decide)
    have bc0 : ((getB (BitVec.ofInt 64 m) 0 6 <<< 20).toNat : Int) = (((BitVec.ofInt 64 m >>> 0).toNat % 2 ^ 6 * 2 ^ 20 : Nat) : Int) := congrArg _ b0
    obtain ⟨t0, ht0⟩ : ∃ t, (BitVec.ofInt 64 m >>> 0).toNat % 2 ^ 6 * 2 ^ 20 = t := ⟨_, rfl⟩
    rw [ht0] at bb0 bc0 hsum2
    rw [bc0]
    clear b0 bc0 ht0
    simp only [IntKind.wrap_u32', mm1, mm2, mm3, mm4]
    omega

theorem wrd_S : ∀ k, k < 70 → shp k = 83 → wrd k = cod k + fof k * 4096 := by decide +kernel
theorem all_S (j : Nat) (hs : shp (j + 1) = 83) (a b c m : Int) : (encK (j + 1) (four a b c m)).isSome = (regB b && regB c && fitsB m 12 true) := by
  unfold encK
  rw [enc_all, hs]
  rw [show partsL 83 = [(1, 0, 5, 15), (2, 0, 5, 20), (3, 0, 5, 7), (3, 5, 7, 25)] from rfl]
  simp only [List.all_cons, List.all_nil, Bool.and_true]
  rw [show fitB 83 1 (four a b c m 1) = regB b from reg_fit 83 (by decide) _]
  rw [show fitB 83 2 (four a b c m 2) = regB c from reg_fit 83 (by decide) _]
  rw [show fitB 83 3 (four a b c m 3) = (fitsB m 12 true && (m.tmod 1 == 0)) from rfl]
  rw [show (m.tmod 1 == 0) = true by simp]
  all_goals (generalize fitsB m 12 true = F; generalize regB b = Rb; generalize regB c = Rc; cases Rb <;> cases Rc <;> cases F <;> rfl)
set_option maxRecDepth 100000 in
theorem doc_S (j : Nat) (hj : j < 69) (hs : shp (j + 1) = 83) (a b c m : Int) (rm : rng m) : DocE j a b c m := by
  refine ⟨IntKind.u32.wrap ((IntKind.u32.wrap ((IntKind.u32.wrap ((IntKind.u32.wrap ((IntKind.u32.wrap ((((cod (j + 1) : Nat) : Int)) + (IntKind.u32.wrap ((((fof (j + 1) : Nat) : Int)) * 4096)))) + (IntKind.u32.wrap ((IntKind.u32.wrap (bits .and .i64 b 31)) * 32768)))) + (IntKind.u32.wrap ((IntKind.u32.wrap (bits .and .i64 c 31)) * 1048576)))) + (IntKind.u32.wrap ((getB (BitVec.ofInt 64 m) 0 5 <<< 7).toNat : Int)))) + (IntKind.u32.wrap ((getB (BitVec.ofInt 64 m) 5 7 <<< 25).toNat : Int))), fun W => ?_, fun y hy => ?_⟩
  · rw [all_S j hs a b c m]
    have hrow : ∀ W N, RowsAt W N → W.cell? ⟨N, j * 5, none⟩ = some (.string (nameB (j + 1))) ∧ W.cell? ⟨N, j * 5 + 1, none⟩ = some (.int .u8 83) ∧ W.cell? ⟨N, j * 5 + 2, none⟩ = some (.int .u32 ((cod (j + 1) : Nat) : Int)) ∧ W.cell? ⟨N, j * 5 + 3, none⟩ = some (.int .u32 ((fof (j + 1) : Nat) : Int)) ∧ W.cell? ⟨N, j * 5 + 4, none⟩ = some (.int .u32 ((oth (j + 1) : Nat) : Int)) := fun W N h => by
      have := h j hj
      rw [hs] at this
      exact this
    have hb := fun W => rreg_any b W
    have hc := fun W => rreg_any c W
    have t0 : ∀ W, Calls Tryz.prog 96 #[.int .i64 m, .int .i64 0, .int .i64 5, .int .i64 7] W (Quiet (.int .u32 (IntKind.u32.wrap ((getB (BitVec.ofInt 64 m) 0 5 <<< 7).toNat : Int))) W) := fun W => rbits_any m 0 5 7 (by decide) W
    have t1 : ∀ W, Calls Tryz.prog 96 #[.int .i64 m, .int .i64 5, .int .i64 7, .int .i64 25] W (Quiet (.int .u32 (IntKind.u32.wrap ((getB (BitVec.ofInt 64 m) 5 7 <<< 25).toNat : Int))) W) := fun W => rbits_any m 5 7 25 (by decide) W
    have hf := fun W => rfits_any m 12 true W rm.1 rm.2
    cases e0 : regB b with
    | false =>
      rw [e0] at hb
      exact renc_S0 j hj _ _ _ _ _ _ _ _ _ _ _ _ _ _ _ _ _ _ _ _ _ _ _ _ _ hb t0 t1 hrow rfl rfl rfl rfl rfl rfl rfl rfl rfl rfl rfl rfl rfl rfl rfl W
    | true =>
      rw [e0] at hb
      cases e1 : regB c with
      | false =>
        rw [e1] at hc
        exact renc_S1 j hj _ _ _ _ _ _ _ _ _ _ _ _ _ _ _ _ _ _ _ _ _ _ _ _ _ hb hc t0 t1 hrow rfl rfl rfl rfl rfl rfl rfl rfl rfl rfl rfl rfl rfl rfl rfl W
      | true =>
        rw [e1] at hc
        exact renc_S2 j hj _ _ _ _ _ _ _ _ _ _ _ _ _ _ _ _ _ _ _ _ _ _ _ _ _ _ hb hc t0 t1 hf hrow rfl rfl rfl rfl rfl rfl rfl rfl rfl rfl rfl rfl rfl rfl rfl W
  · have hsum := encK_sum (k := j + 1) (by omega) (by omega) hy
    rw [hs] at hsum
    have hsum2 : y.toNat = wrd (j + 1) + ((BitVec.ofInt 64 b >>> 0).toNat % 2 ^ 5 * 2 ^ 15 + ((BitVec.ofInt 64 c >>> 0).toNat % 2 ^ 5 * 2 ^ 20 + ((BitVec.ofInt 64 m >>> 0).toNat % 2 ^ 5 * 2 ^ 7 + ((BitVec.ofInt 64 m >>> 5).toNat % 2 ^ 7 * 2 ^ 25 + 0)))) := hsum
    clear hsum
    have hyl := (enc_match (k := j + 1) (by omega) (by omega) hy).1
    rw [wrd_S (j + 1) (by omega) hs] at hsum2
    have hf := enc_fits hy
    rw [hs] at hf
    have fb : regB b = true := by rw [← reg_fit 83 (o := 1) (by decide)]; exact hf (1, 0, 5, 15) (by decide)
    obtain ⟨lb, ub⟩ := reg_in fb
    rw [reg_term fb] at hsum2
    rw [and31 fb]
    have fc : regB c = true := by rw [← reg_fit 83 (o := 2) (by decide)]; exact hf (2, 0, 5, 20) (by decide)
    obtain ⟨lc, uc⟩ := reg_in fc
    rw [reg_term fc] at hsum2
    rw [and31 fc]
    have b0 := bits_term (BitVec.ofInt 64 m) 0 5 7 (by decide) (by decide)
    have bb0 := term_bd (BitVec.ofInt 64 m) 0 5 7 (by decide)
    have bc0 : ((getB (BitVec.ofInt 64 m) 0 5 <<< 7).toNat : Int) = (((BitVec.ofInt 64 m >>> 0).toNat % 2 ^ 5 * 2 ^ 7 : Nat) : Int) := congrArg _ b0
    obtain ⟨t0, ht0⟩ : ∃ t, (BitVec.ofInt 64 m >>> 0).toNat % 2 ^ 5 * 2 ^ 7 = t := ⟨_, rfl⟩
    rw [ht0] at bb0 bc0 hsum2
    rw [bc0]
    clear b0 bc0 ht0
    have b1 := bits_term (BitVec.ofInt 64 m) 5 7 25 (by decide) (by decide)
    have bb1 := term_bd (BitVec.ofInt 64 m) 5 7 25 (by decide)
    have bc1 : ((getB (BitVec.ofInt 64 m) 5 7 <<< 25).toNat : Int) = (((BitVec.ofInt 64 m >>> 5).toNat % 2 ^ 7 * 2 ^ 25 : Nat) : Int) := congrArg _ b1
    obtain ⟨t1, ht1⟩ : ∃ t, (BitVec.ofInt 64 m >>> 5).toNat % 2 ^ 7 * 2 ^ 25 = t := ⟨_, rfl⟩
    rw [ht1] at bb1 bc1 hsum2
    rw [bc1]
    clear b1 bc1 ht1
    simp only [IntKind.wrap_u32', mm1, mm2, mm4, mm5]
    omega

theorem wrd_B : ∀ k, k < 70 → shp k = 66 → wrd k = cod k + fof k * 4096 := by decide +kernel
theorem all_B (j : Nat) (hs : shp (j + 1) = 66) (a b c m : Int) : (encK (j + 1) (four a b c m)).isSome = (regB b && regB c && fitsB m 13 true && (m.tmod 2 == 0)) := by
  unfold encK
  rw [enc_all, hs]
  rw [show partsL 66 = [(1, 0, 5, 15), (2, 0, 5, 20), (3, 1, 4, 8), (3, 5, 6, 25), (3, 11, 1, 7), (3, 12, 1, 31)] from rfl]
  simp only [List.all_cons, List.all_nil, Bool.and_true]
  rw [show fitB 66 1 (four a b c m 1) = regB b from reg_fit 66 (by decide) _]
  rw [show fitB 66 2 (four a b c m 2) = regB c from reg_fit 66 (by decide) _]
  rw [show fitB 66 3 (four a b c m 3) = (fitsB m 13 true && (m.tmod 2 == 0)) from rfl]
  all_goals (generalize fitsB m 13 true = F; generalize (m.tmod 2 == 0) = Z; generalize regB b = Rb; generalize regB c = Rc; cases Rb <;> cases Rc <;> cases F <;> cases Z <;> rfl)
set_option maxRecDepth 100000 in
theorem doc_B (j : Nat) (hj : j < 69) (hs : shp (j + 1) = 66) (a b c m : Int) (rm : rng m) : DocE j a b c m := by
  refine ⟨IntKind.u32.wrap ((IntKind.u32.wrap ((IntKind.u32.wrap ((IntKind.u32.wrap ((IntKind.u32.wrap ((IntKind.u32.wrap ((IntKind.u32.wrap ((((cod (j + 1) : Nat) : Int)) + (IntKind.u32.wrap ((((fof (j + 1) : Nat) : Int)) * 4096)))) + (IntKind.u32.wrap ((IntKind.u32.wrap (bits .and .i64 b 31)) * 32768)))) + (IntKind.u32.wrap ((IntKind.u32.wrap (bits .and .i64 c 31)) * 1048576)))) + (IntKind.u32.wrap ((getB (BitVec.ofInt 64 m) 1 4 <<< 8).toNat : Int)))) + (IntKind.u32.wrap ((getB (BitVec.ofInt 64 m) 5 6 <<< 25).toNat : Int)))) + (IntKind.u32.wrap ((getB (BitVec.ofInt 64 m) 11 1 <<< 7).toNat : Int)))) + (IntKind.u32.wrap ((getB (BitVec.ofInt 64 m) 12 1 <<< 31).toNat : Int))), fun W => ?_, fun y hy => ?_⟩
  · rw [all_B j hs a b c m]
    have hrow : ∀ W N, RowsAt W N → W.cell? ⟨N, j * 5, none⟩ = some (.string (nameB (j + 1))) ∧ W.cell? ⟨N, j * 5 + 1, none⟩ = some (.int .u8 66) ∧ W.cell? ⟨N, j * 5 + 2, none⟩ = some (.int .u32 ((cod (j + 1) : Nat) : Int)) ∧ W.cell? ⟨N, j * 5 + 3, none⟩ = some (.int .u32 ((fof (j + 1) : Nat) : Int)) ∧ W.cell? ⟨N, j * 5 + 4, none⟩ = some (.int .u32 ((oth (j + 1) : Nat) : Int)) := fun W N h => by
      have := h j hj
      rw [hs] at this
      exact this
    have hb := fun W => rreg_any b W
    have hc := fun W => rreg_any c W
    have t0 : ∀ W, Calls Tryz.prog 96 #[.int .i64 m, .int .i64 1, .int .i64 4, .int .i64 8] W (Quiet (.int .u32 (IntKind.u32.wrap ((getB (BitVec.ofInt 64 m) 1 4 <<< 8).toNat : Int))) W) := fun W => rbits_any m 1 4 8 (by decide) W
    have t1 : ∀ W, Calls Tryz.prog 96 #[.int .i64 m, .int .i64 5, .int .i64 6, .int .i64 25] W (Quiet (.int .u32 (IntKind.u32.wrap ((getB (BitVec.ofInt 64 m) 5 6 <<< 25).toNat : Int))) W) := fun W => rbits_any m 5 6 25 (by decide) W
    have t2 : ∀ W, Calls Tryz.prog 96 #[.int .i64 m, .int .i64 11, .int .i64 1, .int .i64 7] W (Quiet (.int .u32 (IntKind.u32.wrap ((getB (BitVec.ofInt 64 m) 11 1 <<< 7).toNat : Int))) W) := fun W => rbits_any m 11 1 7 (by decide) W
    have t3 : ∀ W, Calls Tryz.prog 96 #[.int .i64 m, .int .i64 12, .int .i64 1, .int .i64 31] W (Quiet (.int .u32 (IntKind.u32.wrap ((getB (BitVec.ofInt 64 m) 12 1 <<< 31).toNat : Int))) W) := fun W => rbits_any m 12 1 31 (by decide) W
    have hf := fun W => rfits_any m 13 true W rm.1 rm.2
    cases e0 : regB b with
    | false =>
      rw [e0] at hb
      exact renc_B0 j hj _ _ _ _ _ _ _ _ _ _ _ _ _ _ _ _ _ _ _ _ _ _ _ _ _ _ _ _ _ hb t0 t1 t2 t3 hrow rfl rfl rfl rfl rfl rfl rfl rfl rfl rfl rfl rfl rfl rfl rfl rfl rfl W
    | true =>
      rw [e0] at hb
      cases e1 : regB c with
      | false =>
        rw [e1] at hc
        exact renc_B1 j hj _ _ _ _ _ _ _ _ _ _ _ _ _ _ _ _ _ _ _ _ _ _ _ _ _ _ _ _ _ hb hc t0 t1 t2 t3 hrow rfl rfl rfl rfl rfl rfl rfl rfl rfl rfl rfl rfl rfl rfl rfl rfl rfl W
      | true =>
        rw [e1] at hc
        cases e2 : fitsB m 13 true with
        | false =>
          rw [e2] at hf
          exact renc_B2 j hj _ _ _ _ _ _ _ _ _ _ _ _ _ _ _ _ _ _ _ _ _ _ _ _ _ _ _ _ _ hb hc t0 t1 t2 t3 hf hrow rfl rfl rfl rfl rfl rfl rfl rfl rfl rfl rfl rfl rfl rfl rfl rfl rfl W
        | true =>
          rw [e2] at hf
          exact renc_B3 j hj _ _ _ _ _ _ _ _ _ _ _ _ _ _ _ _ _ _ _ _ _ _ _ _ _ _ _ _ _ _ _ hb hc t0 t1 t2 t3 hf hrow rfl rfl rfl rfl rfl rfl rfl rfl rfl rfl rfl rfl rfl rfl rfl rfl rfl rfl rfl W
  · have hsum := encK_sum (k := j + 1) (by omega) (by omega) hy
    rw [hs] at hsum
    have hsum2 : y.toNat = wrd (j + 1) + ((BitVec.ofInt 64 b >>> 0).toNat % 2 ^ 5 * 2 ^ 15 + ((BitVec.ofInt 64 c >>> 0).toNat % 2 ^ 5 * 2 ^ 20 + ((BitVec.ofInt 64 m >>> 1).toNat % 2 ^ 4 * 2 ^ 8 + ((BitVec.ofInt 64 m >>> 5).toNat % 2 ^ 6 * 2 ^ 25 + ((BitVec.ofInt 64 m >>> 11).toNat % 2 ^ 1 * 2 ^ 7 + ((BitVec.ofInt 64 m >>> 12).toNat % 2 ^ 1 * 2 ^ 31 + 0)))))) := hsum
    clear hsum
    have hyl := (enc_match (k := j + 1) (by omega) (by omega) hy).1
    rw [wrd_B (j + 1) (by omega) hs] at hsum2
    have hf := enc_fits hy
    rw [hs] at hf
    have fb : regB b = true := by rw [← reg_fit 66 (o := 1) (by decide)]; exact hf (1, 0, 5, 15) (by decide)
    obtain ⟨lb, ub⟩ := reg_in fb
    rw [reg_term fb] at hsum2
    rw [and31 fb]
    have fc : regB c = true := by rw [← reg_fit 66 (o := 2) (by decide)]; exact hf (2, 0, 5, 20) (by decide)
    obtain ⟨lc, uc⟩ := reg_in fc
    rw [reg_term fc] at hsum2
    rw [and31 fc]
    have b0 := bits_term (BitVec.ofInt 64 m) 1 4 8 (by decide) (by decide)
    have bb0 := term_bd (BitVec.ofInt 64 m) 1 4 8 (by decide)
    have bc0 : ((getB (BitVec.ofInt 64 m) 1 4 <<< 8).toNat : Int) = (((BitVec.ofInt 64 m >>> 1).toNat % 2 ^ 4 * 2 ^ 8 : Nat) : Int) := congrArg _ b0
    obtain ⟨t0, ht0⟩ : ∃ t, (BitVec.ofInt 64 m >>> 1).toNat % 2 ^ 4 * 2 ^ 8 = t := ⟨_, rfl⟩
    rw [ht0] at bb0 bc0 hsum2
    rw [bc0]
    clear b0 bc0 ht0
    have b1 := bits_term (BitVec.ofInt 64 m) 5 6 25 (by decide) (by decide)
    have bb1 := term_bd (BitVec.ofInt 64 m) 5 6 25 (by decide)
    have bc1 : ((getB (BitVec.ofInt 64 m) 5 6 <<< 25).toNat : Int) = (((BitVec.ofInt 64 m >>> 5).toNat % 2 ^ 6 * 2 ^ 25 : Nat) : Int) := congrArg _ b1
    obtain ⟨t1, ht1⟩ : ∃ t, (BitVec.ofInt 64 m >>> 5).toNat % 2 ^ 6 * 2 ^ 25 = t := ⟨_, rfl⟩
    rw [ht1] at bb1 bc1 hsum2
    rw [bc1]
    clear b1 bc1 ht1
    have b2 := bits_term (BitVec.ofInt 64 m) 11 1 7 (by decide) (by decide)
    have bb2 := term_bd (BitVec.ofInt 64 m) 11 1 7 (by decide)
    have bc2 : ((getB (BitVec.ofInt 64 m) 11 1 <<< 7).toNat : Int) = (((BitVec.ofInt 64 m >>> 11).toNat % 2 ^ 1 * 2 ^ 7 : Nat) : Int) := congrArg _ b2
    obtain ⟨t2, ht2⟩ : ∃ t, (BitVec.ofInt 64 m >>> 11).toNat % 2 ^ 1 * 2 ^ 7 = t := ⟨_, rfl⟩
    rw [ht2] at bb2 bc2 hsum2
    rw [bc2]
    clear b2 bc2 ht2
    have b3 := bits_term (BitVec.ofInt 64 m) 12 1 31 (by decide) (by decide)
    have bb3 := term_bd (BitVec.ofInt 64 m) 12 1 31 (by decide)
    have bc3 : ((getB (BitVec.ofInt 64 m) 12 1 <<< 31).toNat : Int) = (((BitVec.ofInt 64 m >>> 12).toNat % 2 ^ 1 * 2 ^ 31 : Nat) : Int) := congrArg _ b3
    obtain ⟨t3, ht3⟩ : ∃ t, (BitVec.ofInt 64 m >>> 12).toNat % 2 ^ 1 * 2 ^ 31 = t := ⟨_, rfl⟩
    rw [ht3] at bb3 bc3 hsum2
    rw [bc3]
    clear b3 bc3 ht3
    simp only [IntKind.wrap_u32', mm1, mm2, mm4, mm5]
    omega

theorem wrd_U : ∀ k, k < 70 → shp k = 85 → wrd k = cod k := by decide +kernel
theorem all_U (j : Nat) (hs : shp (j + 1) = 85) (a b c m : Int) : (encK (j + 1) (four a b c m)).isSome = (regB a && fitsB m 32 true && (m.tmod 4096 == 0)) := by
  unfold encK
  rw [enc_all, hs]
  rw [show partsL 85 = [(0, 0, 5, 7), (3, 12, 20, 12)] from rfl]
  simp only [List.all_cons, List.all_nil, Bool.and_true]
  rw [show fitB 85 0 (four a b c m 0) = regB a from reg_fit 85 (by decide) _]
  rw [show fitB 85 3 (four a b c m 3) = (fitsB m 32 true && (m.tmod 4096 == 0)) from rfl]
  all_goals (generalize fitsB m 32 true = F; generalize (m.tmod 4096 == 0) = Z; generalize regB a = Ra; cases Ra <;> cases F <;> cases Z <;> rfl)
set_option maxRecDepth 100000 in
theorem doc_U (j : Nat) (hj : j < 69) (hs : shp (j + 1) = 85) (a b c m : Int) (rm : rng m) : DocE j a b c m := by
  refine ⟨IntKind.u32.wrap ((IntKind.u32.wrap ((((cod (j + 1) : Nat) : Int)) + (IntKind.u32.wrap ((IntKind.u32.wrap (bits .and .i64 a 31)) * 128)))) + (IntKind.u32.wrap ((getB (BitVec.ofInt 64 m) 12 20 <<< 12).toNat : Int))), fun W => ?_, fun y hy => ?_⟩
  · rw [all_U j hs a b c m]
    have hrow : ∀ W N, RowsAt W N → W.cell? ⟨N, j * 5, none⟩ = some (.string (nameB (j + 1))) ∧ W.cell? ⟨N, j * 5 + 1, none⟩ = some (.int .u8 85) ∧ W.cell? ⟨N, j * 5 + 2, none⟩ = some (.int .u32 ((cod (j + 1) : Nat) : Int)) ∧ W.cell? ⟨N, j * 5 + 3, none⟩ = some (.int .u32 ((fof (j + 1) : Nat) : Int)) ∧ W.cell? ⟨N, j * 5 + 4, none⟩ = some (.int .u32 ((oth (j + 1) : Nat) : Int)) := fun W N h => by
      have := h j hj
      rw [hs] at this
      exact this
    have ha := fun W => rreg_any a W
    have t0 : ∀ W, Calls Tryz.prog 96 #[.int .i64 m, .int .i64 12, .int .i64 20, .int .i64 12] W (Quiet (.int .u32 (IntKind.u32.wrap ((getB (BitVec.ofInt 64 m) 12 20 <<< 12).toNat : Int))) W) := fun W => rbits_any m 12 20 12 (by decide) W
    have hf := fun W => rfits_any m 32 true W rm.1 rm.2
    cases e0 : regB a with
    | false =>
      rw [e0] at ha
      exact renc_U0 j hj _ _ _ _ _ _ _ _ _ _ _ _ _ _ _ _ _ _ _ _ _ _ ha t0 hrow rfl rfl rfl rfl rfl rfl rfl rfl rfl rfl rfl rfl rfl W
    | true =>
      rw [e0] at ha
      cases e1 : fitsB m 32 true with
      | false =>
        rw [e1] at hf
        exact renc_U1 j hj _ _ _ _ _ _ _ _ _ _ _ _ _ _ _ _ _ _ _ _ _ _ ha t0 hf hrow rfl rfl rfl rfl rfl rfl rfl rfl rfl rfl rfl rfl rfl W
      | true =>
        rw [e1] at hf
        exact renc_U2 j hj _ _ _ _ _ _ _ _ _ _ _ _ _ _ _ _ _ _ _ _ _ _ _ _ ha t0 hf hrow rfl rfl rfl rfl rfl rfl rfl rfl rfl rfl rfl rfl rfl rfl rfl W
  · have hsum := encK_sum (k := j + 1) (by omega) (by omega) hy
    rw [hs] at hsum
    have hsum2 : y.toNat = wrd (j + 1) + ((BitVec.ofInt 64 a >>> 0).toNat % 2 ^ 5 * 2 ^ 7 + ((BitVec.ofInt 64 m >>> 12).toNat % 2 ^ 20 * 2 ^ 12 + 0)) := hsum
    clear hsum
    have hyl := (enc_match (k := j + 1) (by omega) (by omega) hy).1
    rw [wrd_U (j + 1) (by omega) hs] at hsum2
    have hf := enc_fits hy
    rw [hs] at hf
    have fa : regB a = true := by rw [← reg_fit 85 (o := 0) (by decide)]; exact hf (0, 0, 5, 7) (by decide)
    obtain ⟨la, ua⟩ := reg_in fa
    rw [reg_term fa] at hsum2
    rw [and31 fa]
    have b0 := bits_term (BitVec.ofInt 64 m) 12 20 12 (by decide) (by decide)
    have bb0 := term_bd (BitVec.ofInt 64 m) 12 20 12 (by decide)
    have bc0 : ((getB (BitVec.ofInt 64 m) 12 20 <<< 12).toNat : Int) = (((BitVec.ofInt 64 m >>> 12).toNat % 2 ^ 20 * 2 ^ 12 : Nat) : Int) := congrArg _ b0
    obtain ⟨t0, ht0⟩ : ∃ t, (BitVec.ofInt 64 m >>> 12).toNat % 2 ^ 20 * 2 ^ 12 = t := ⟨_, rfl⟩
    rw [ht0] at bb0 bc0 hsum2
    rw [bc0]
    clear b0 bc0 ht0
    simp only [IntKind.wrap_u32', mm1, mm2, mm3]
    omega

theorem wrd_J : ∀ k, k < 70 → shp k = 74 → wrd k = cod k := by decide +kernel
theorem all_J (j : Nat) (hs : shp (j + 1) = 74) (a b c m : Int) : (encK (j + 1) (four a b c m)).isSome = (regB a && fitsB m 21 true && (m.tmod 2 == 0)) := by
  unfold encK
  rw [enc_all, hs]
  rw [show partsL 74 = [(0, 0, 5, 7), (3, 12, 8, 12), (3, 11, 1, 20), (3, 1, 10, 21), (3, 20, 1, 31)] from rfl]
  simp only [List.all_cons, List.all_nil, Bool.and_true]
  rw [show fitB 74 0 (four a b c m 0) = regB a from reg_fit 74 (by decide) _]
  rw [show fitB 74 3 (four a b c m 3) = (fitsB m 21 true && (m.tmod 2 == 0)) from rfl]
  all_goals (generalize fitsB m 21 true = F; generalize (m.tmod 2 == 0) = Z; generalize regB a = Ra; cases Ra <;> cases F <;> cases Z <;> rfl)
set_option maxRecDepth 100000 in
theorem doc_J (j : Nat) (hj : j < 69) (hs : shp (j + 1) = 74) (a b c m : Int) (rm : rng m) : DocE j a b c m := by
  refine ⟨IntKind.u32.wrap ((IntKind.u32.wrap ((IntKind.u32.wrap ((IntKind.u32.wrap ((IntKind.u32.wrap ((((cod (j + 1) : Nat) : Int)) + (IntKind.u32.wrap ((IntKind.u32.wrap (bits .and .i64 a 31)) * 128)))) + (IntKind.u32.wrap ((getB (BitVec.ofInt 64 m) 12 8 <<< 12).toNat : Int)))) + (IntKind.u32.wrap ((getB (BitVec.ofInt 64 m) 11 1 <<< 20).toNat : Int)))) + (IntKind.u32.wrap ((getB (BitVec.ofInt 64 m) 1 10 <<< 21).toNat : Int)))) + (IntKind.u32.wrap ((getB (BitVec.ofInt 64 m) 20 1 <<< 31).toNat : Int))), fun W => ?_, fun y hy => ?_⟩
  · rw [all_J j hs a b c m]
    have hrow : ∀ W N, RowsAt W N → W.cell? ⟨N, j * 5, none⟩ = some (.string (nameB (j + 1))) ∧ W.cell? ⟨N, j * 5 + 1, none⟩ = some (.int .u8 74) ∧ W.cell? ⟨N, j * 5 + 2, none⟩ = some (.int .u32 ((cod (j + 1) : Nat) : Int)) ∧ W.cell? ⟨N, j * 5 + 3, none⟩ = some (.int .u32 ((fof (j + 1) : Nat) : Int)) ∧ W.cell? ⟨N, j * 5 + 4, none⟩ = some (.int .u32 ((oth (j + 1) : Nat) : Int)) := fun W N h => by
      have := h j hj
      rw [hs] at this
      exact this
    have ha := fun W => rreg_any a W
    have t0 : ∀ W, Calls Tryz.prog 96 #[.int .i64 m, .int .i64 12, .int .i64 8, .int .i64 12] W (Quiet (.int .u32 (IntKind.u32.wrap ((getB (BitVec.ofInt 64 m) 12 8 <<< 12).toNat : Int))) W) := fun W => rbits_any m 12 8 12 (by decide) W
    have t1 : ∀ W, Calls Tryz.prog 96 #[.int .i64 m, .int .i64 11, .int .i64 1, .int .i64 20] W (Quiet (.int .u32 (IntKind.u32.wrap ((getB (BitVec.ofInt 64 m) 11 1 <<< 20).toNat : Int))) W) := fun W => rbits_any m 11 1 20 (by decide) W
    have t2 : ∀ W, Calls Tryz.prog 96 #[.int .i64 m, .int .i64 1, .int .i64 10, .int .i64 21] W (Quiet (.int .u32 (IntKind.u32.wrap ((getB (BitVec.ofInt 64 m) 1 10 <<< 21).toNat : Int))) W) := fun W => rbits_any m 1 10 21 (by decide) W
    have t3 : ∀ W, Calls Tryz.prog 96 #[.int .i64 m, .int .i64 20, .int .i64 1, .int .i64 31] W (Quiet (.int .u32 (IntKind.u32.wrap ((getB (BitVec.ofInt 64 m) 20 1 <<< 31).toNat : Int))) W) := fun W => rbits_any m 20 1 31 (by decide) W
    have hf := fun W => rfits_any m 21 true W rm.1 rm.2
    cases e0 : regB a with
    | false =>
      rw [e0] at ha
      exact renc_J0 j hj _ _ _ _ _ _ _ _ _ _ _ _ _ _ _ _ _ _ _ _ _ _ _ _ _ _ _ _ ha t0 t1 t2 t3 hrow rfl rfl rfl rfl rfl rfl rfl rfl rfl rfl rfl rfl rfl rfl rfl rfl W
    | true =>
      rw [e0] at ha
      cases e1 : fitsB m 21 true with
      | false =>
        rw [e1] at hf
        exact renc_J1 j hj _ _ _ _ _ _ _ _ _ _ _ _ _ _ _ _ _ _ _ _ _ _ _ _ _ _ _ _ ha t0 t1 t2 t3 hf hrow rfl rfl rfl rfl rfl rfl rfl rfl rfl rfl rfl rfl rfl rfl rfl rfl W
      | true =>
        rw [e1] at hf
        exact renc_J2 j hj _ _ _ _ _ _ _ _ _ _ _ _ _ _ _ _ _ _ _ _ _ _ _ _ _ _ _ _ _ _ ha t0 t1 t2 t3 hf hrow rfl rfl rfl rfl rfl rfl rfl rfl rfl rfl rfl rfl rfl rfl rfl rfl rfl rfl W
  · have hsum := encK_sum (k := j + 1) (by omega) (by omega) hy
    rw [hs] at hsum
    have hsum2 : y.toNat = wrd (j + 1) + ((BitVec.ofInt 64 a >>> 0).toNat % 2 ^ 5 * 2 ^ 7 + ((BitVec.ofInt 64 m >>> 12).toNat % 2 ^ 8 * 2 ^ 12 + ((BitVec.ofInt 64 m >>> 11).toNat % 2 ^ 1 * 2 ^ 20 + ((BitVec.ofInt 64 m >>> 1).toNat % 2 ^ 10 * 2 ^ 21 + ((BitVec.ofInt 64 m >>> 20).toNat % 2 ^ 1 * 2 ^ 31 + 0))))) := hsum
    clear hsum
    have hyl := (enc_match (k := j + 1) (by omega) (by omega) hy).1
    rw [wrd_J (j + 1) (by omega) hs] at hsum2
    have hf := enc_fits hy
    rw [hs] at hf
    have fa : regB a = true := by rw [← reg_fit 74 (o := 0) (by decide)]; exact hf (0, 0, 5, 7) (by decide)
    obtain ⟨la, ua⟩ := reg_in fa
    rw [reg_term fa] at hsum2
    rw [and31 fa]
    have b0 := bits_term (BitVec.ofInt 64 m) 12 8 12 (by decide) (by decide)
    have bb0 := term_bd (BitVec.ofInt 64 m) 12 8 12 (by decide)
    have bc0 : ((getB (BitVec.ofInt 64 m) 12 8 <<< 12).toNat : Int) = (((BitVec.ofInt 64 m >>> 12).toNat % 2 ^ 8 * 2 ^ 12 : Nat) : Int) := congrArg _ b0
    obtain ⟨t0, ht0⟩ : ∃ t, (BitVec.ofInt 64 m >>> 12).toNat % 2 ^ 8 * 2 ^ 12 = t := ⟨_, rfl⟩
    rw [ht0] at bb0 bc0 hsum2
    rw [bc0]
    clear b0 bc0 ht0
    have b1 := bits_term (BitVec.ofInt 64 m) 11 1 20 (by decide) (by decide)
    have bb1 := term_bd (BitVec.ofInt 64 m) 11 1 20 (by decide)
    have bc1 : ((getB (BitVec.ofInt 64 m) 11 1 <<< 20).toNat : Int) = (((BitVec.ofInt 64 m >>> 11).toNat % 2 ^ 1 * 2 ^ 20 : Nat) : Int) := congrArg _ b1
    obtain ⟨t1, ht1⟩ : ∃ t, (BitVec.ofInt 64 m >>> 11).toNat % 2 ^ 1 * 2 ^ 20 = t := ⟨_, rfl⟩
    rw [ht1] at bb1 bc1 hsum2
    rw [bc1]
    clear b1 bc1 ht1
    have b2 := bits_term (BitVec.ofInt 64 m) 1 10 21 (by decide) (by decide)
    have bb2 := term_bd (BitVec.ofInt 64 m) 1 10 21 (by decide)
    have bc2 : ((getB (BitVec.ofInt 64 m) 1 10 <<< 21).toNat : Int) = (((BitVec.ofInt 64 m >>> 1).toNat % 2 ^ 10 * 2 ^ 21 : Nat) : Int) := congrArg _ b2
    obtain ⟨t2, ht2⟩ : ∃ t, (BitVec.ofInt 64 m >>> 1).toNat % 2 ^ 10 * 2 ^ 21 = t := ⟨_, rfl⟩
    rw [ht2] at bb2 bc2 hsum2
    rw [bc2]
    clear b2 bc2 ht2
    have b3 := bits_term (BitVec.ofInt 64 m) 20 1 31 (by decide) (by decide)
    have bb3 := term_bd (BitVec.ofInt 64 m) 20 1 31 (by decide)
    have bc3 : ((getB (BitVec.ofInt 64 m) 20 1 <<< 31).toNat : Int) = (((BitVec.ofInt 64 m >>> 20).toNat % 2 ^ 1 * 2 ^ 31 : Nat) : Int) := congrArg _ b3
    obtain ⟨t3, ht3⟩ : ∃ t, (BitVec.ofInt 64 m >>> 20).toNat % 2 ^ 1 * 2 ^ 31 = t := ⟨_, rfl⟩
    rw [ht3] at bb3 bc3 hsum2
    rw [bc3]
    clear b3 bc3 ht3
    simp only [IntKind.wrap_u32', mm1, mm2, mm3]
    omega

theorem wrd_N : ∀ k, k < 70 → shp k = 78 → wrd k = cod k + oth k * 1048576 := by decide +kernel
theorem all_N (j : Nat) (hs : shp (j + 1) = 78) (a b c m : Int) : (encK (j + 1) (four a b c m)).isSome = (true) := by
  unfold encK
  rw [enc_all, hs]
  rfl
set_option maxRecDepth 100000 in
theorem doc_N (j : Nat) (hj : j < 69) (hs : shp (j + 1) = 78) (a b c m : Int) : DocE j a b c m := by
  refine ⟨IntKind.u32.wrap ((((cod (j + 1) : Nat) : Int)) + (IntKind.u32.wrap ((((oth (j + 1) : Nat) : Int)) * 1048576))), fun W => ?_, fun y hy => ?_⟩
  · rw [all_N j hs a b c m]
    have hrow : ∀ W N, RowsAt W N → W.cell? ⟨N, j * 5, none⟩ = some (.string (nameB (j + 1))) ∧ W.cell? ⟨N, j * 5 + 1, none⟩ = some (.int .u8 78) ∧ W.cell? ⟨N, j * 5 + 2, none⟩ = some (.int .u32 ((cod (j + 1) : Nat) : Int)) ∧ W.cell? ⟨N, j * 5 + 3, none⟩ = some (.int .u32 ((fof (j + 1) : Nat) : Int)) ∧ W.cell? ⟨N, j * 5 + 4, none⟩ = some (.int .u32 ((oth (j + 1) : Nat) : Int)) := fun W N h => by
      have := h j hj
      rw [hs] at this
      exact this
    exact renc_N0 j hj _ _ _ _ _ _ _ _ _ _ _ _ _ _ _ _ _ _ _ _ _ hrow rfl rfl rfl rfl rfl rfl rfl rfl rfl rfl rfl rfl rfl W
  · have hsum := encK_sum (k := j + 1) (by omega) (by omega) hy
    rw [hs] at hsum
    have hsum2 : y.toNat = wrd (j + 1) + 0 := hsum
    clear hsum
    have hyl := (enc_match (k := j + 1) (by omega) (by omega) hy).1
    rw [wrd_N (j + 1) (by omega) hs] at hsum2
    simp only [IntKind.wrap_u32', mm2]
    omega

theorem doc_any (j : Nat) (hj : j < 69) (a b c m : Int) (rm : rng m) : DocE j a b c m := by
  have hs := shape_of (k := j + 1) (by omega) (by omega)
  simp only [IsShape, List.mem_cons, List.not_mem_nil, or_false] at hs
  rcases hs with h | h | h | h | h | h | h | h | h | h
  · exact doc_R j hj h a b c m
  · exact doc_G j hj h a b c m
  · exact doc_I j hj h a b c m rm
  · exact doc_C j hj h a b c m rm
  · exact doc_H j hj h a b c m rm
  · exact doc_S j hj h a b c m rm
  · exact doc_B j hj h a b c m rm
  · exact doc_U j hj h a b c m rm
  · exact doc_J j hj h a b c m rm
  · exact doc_N j hj h a b c m
end Go.Proofs.YtlommbeokbicjaaGreatDoor
