/-
  Plain mathematics of capabilities: what is made of a view tells it; what is right is made of what it tells; within. No Go text here.
-/
import Derived.Test.YtbncoiejbclpjaaDoorMakeMath
import Derived.Test.YtbncoiejbclpjaaDoorCapMeta
import Derived.Test.YtbncoiejbclpjaaDoorCapWithin
namespace Go.Proofs.YtbncoiejbclpjaaDoor
open Go.RowKit Words FieldMath BoundsMath

/-- What is made of a view tells it, and is right. -/
theorem made {b t p k a fb ft e : Nat} {ex : Bool} (h : EncRel b t fb ft e ex) (ho : mkO b t p k a fb ft e ex = true) :
    lO (metaN (wordN fb ft e) p k) a = true ∧ lB (metaN (wordN fb ft e) p k) a = b ∧ lT (metaN (wordN fb ft e) p k) a = t ∧ mP (metaN (wordN fb ft e) p k) = p ∧ mK (metaN (wordN fb ft e) p k) = k ∧
      rightB (metaN (wordN fb ft e) p k) a = true := by
  obtain ⟨l1, l2, l3⟩ := h.lt
  unfold mkO at ho
  rw [Bool.and_eq_true, Bool.and_eq_true, Bool.and_eq_true, Bool.and_eq_true, decide_eq_true_eq, decide_eq_true_eq, decide_eq_true_eq] at ho
  obtain ⟨_, hp, hk, hd, hb, ht⟩ := ho
  obtain ⟨e1, e2, e3, e4, e5⟩ := meta_parts (s := wordN fb ft e) (p := p) (k := k) (word_lt ..) (by omega) (by omega)
  obtain ⟨f1, f2, f3⟩ := word_parts (b := fb) (t := ft) (e := e) l1 l2 (by omega)
  have h1 : lO (metaN (wordN fb ft e) p k) a = true := by unfold lO; rw [e1, e2, e3, f1, f2, f3]; exact hd
  refine ⟨h1, by unfold lB; rw [e1, e2, e3, f1, f2, f3]; exact hb, by unfold lT; rw [e1, e2, e3, f1, f2, f3]; exact ht, e4, e5, ?_⟩
  unfold rightB
  rw [h1, decide_eq_true (meta_plain ..)]
  rfl
/-- A root is there just if its span is kept as it is, and so on. -/
theorem root_ok {b t p fb ft e : Nat} {ex : Bool} (h : EncRel b t fb ft e ex) : mkO b t p 0 b fb ft e ex = (ex && (decide (p ≤ 511) && decide (b < 281474976710656))) := by
  unfold mkO
  cases hx : ex with
  | false => rfl
  | true =>
    rw [hx] at h
    rcases h with ⟨h1, h2, hk, rfl, rfl, h3⟩ | ⟨_, _, _, _, h3⟩
    · obtain ⟨d1, d2⟩ := of_decide_eq_true h3.symm
      by_cases hb : b < 281474976710656
      · have hle := hk.le
        have hpos := BoundsMath.pow_pos (e - 1)
        obtain ⟨n1, n2, n3⟩ := near_math b t e b hk h1 h2 (by rw [d1]; omega) (by rw [d1]; omega) hb
        have hd := (decB_iff ..).2 n1
        unfold dO dB dT
        rw [hd, if_pos rfl, if_pos rfl, n2, n3, d1, d2, decide_eq_true hb]
        simp
      · have hd : dO (dn b (e - 1) / 2 ^ (e - 1) % 16384) (up t (e - 1) / 2 ^ (e - 1) % 4096) e b = false := by
          cases hc : dO (dn b (e - 1) / 2 ^ (e - 1) % 16384) (up t (e - 1) / 2 ^ (e - 1) % 4096) e b with
          | false => rfl
          | true => exact absurd ((decB_iff ..).1 hc).1.2.2.2 hb
        rw [hd, decide_eq_false hb]
        simp
    · cases h3
/-- What is right is made of what it tells. -/
theorem remade {m a fb ft e : Nat} {ex : Bool} (hr : rightB m a = true) (h : EncRel (lB m a) (lT m a) fb ft e ex) :
    metaN (wordN fb ft e) (mP m) (mK m) = m := by
  unfold rightB at hr
  rw [Bool.and_eq_true, decide_eq_true_eq] at hr
  obtain ⟨ho, hm⟩ := hr
  have hok := (decB_iff ..).1 (show decB (mB m) (mT m) (mE m) a = true from ho)
  obtain ⟨k1, k2, k3⟩ := dec_kept hok
  have eB : lB m a = baseN (mB m) (mE m) a * 2 ^ (mE m - 1) := by unfold lB dB; rw [if_pos (show decB (mB m) (mT m) (mE m) a = true from ho)]
  have eT : lT m a = (baseN (mB m) (mE m) a + lenN (mB m) (mT m) (mE m)) * 2 ^ (mE m - 1) := by unfold lT dT; rw [if_pos (show decB (mB m) (mT m) (mE m) a = true from ho)]
  have hpos := BoundsMath.pow_pos (mE m - 1)
  rcases h with ⟨h1, h2, hk, rfl, rfl, _⟩ | ⟨h1, _⟩
  · rw [eB, eT] at hk ⊢
    obtain rfl := k1.uniq hk
    rw [dn_mul, up_mul, Nat.mul_div_cancel _ hpos, Nat.mul_div_cancel _ hpos, k2, k3, meta_word]
    exact hm
  · exact absurd ⟨dB_le .., dT_le ..⟩ h1
/-- All that is right is within the root of all. -/
theorem all_meta : lB (metaN (wordN 0 0 37) 511 0) 0 = 0 ∧ lT (metaN (wordN 0 0 37) 511 0) 0 = 281474976710656 ∧ mP (metaN (wordN 0 0 37) 511 0) = 511 ∧ rightB (metaN (wordN 0 0 37) 511 0) 0 = true := by
  refine ⟨by decide +kernel, by decide +kernel, by decide +kernel, by decide +kernel⟩
theorem sub_all {p : Nat} (h : p < 512) : subN p 511 = true := by
  unfold subN
  refine decide_eq_true ?_
  rw [show (511 : Nat) = 2 ^ 9 - 1 from rfl, Nat.and_two_pow_sub_one_eq_mod]
  exact Nat.mod_eq_of_lt h
theorem within_all (m a : Nat) : withinC m a (metaN (wordN 0 0 37) 511 0) 0 = rightB m a := by
  obtain ⟨h1, h2, h3, h4⟩ := all_meta
  unfold withinC
  rw [h1, h2, h3, h4, sub_all (by unfold mP; omega), decide_eq_true ⟨Nat.zero_le _, dT_le ..⟩]
  simp
theorem sub_refl (p : Nat) : subN p p = true := by unfold subN; exact decide_eq_true (Nat.and_self p)
theorem within_refl {m a : Nat} (h : rightB m a = true) : withinC m a m a = true := by
  unfold withinC
  rw [h, sub_refl, decide_eq_true ⟨Nat.le_refl _, Nat.le_refl _⟩]
  rfl
theorem sub_trans {p q r : Nat} (h : subN p q = true) (k : subN q r = true) : subN p r = true := by
  unfold subN at *
  rw [decide_eq_true_eq] at *
  rw [← h, Nat.and_assoc, k]
theorem sub_anti {p q : Nat} (h : subN p q = true) (k : subN q p = true) : p = q := by
  unfold subN at *
  rw [decide_eq_true_eq] at *
  rw [← h, Nat.and_comm, k]
theorem within_trans {m a n b o c : Nat} (h : withinC m a n b = true) (k : withinC n b o c = true) : withinC m a o c = true := by
  unfold withinC at *
  simp only [Bool.and_eq_true, decide_eq_true_eq] at *
  obtain ⟨⟨h1, h2⟩, ⟨h3, h4⟩, h5⟩ := h
  obtain ⟨⟨k1, k2⟩, ⟨k3, k4⟩, k5⟩ := k
  exact ⟨⟨h1, k2⟩, ⟨Nat.le_trans k3 h3, Nat.le_trans h4 k4⟩, sub_trans h5 k5⟩
/-- A number is told for no use. -/
theorem null_look (n : Nat) : mP 0 = 0 ∧ mK 0 = 0 ∧ lB 0 n = lT 0 n ∧ rightB 0 n = lO 0 n := by
  refine ⟨by decide, by decide, ?_, ?_⟩
  · unfold lB lT dB dT
    have : lenN (mB 0) (mT 0) (mE 0) = 0 := by decide
    rw [this, Nat.add_zero]
  · unfold rightB
    rw [show decide (metaN 0 (mP 0) (mK 0) = 0) = true by decide]
    simp
end Go.Proofs.YtbncoiejbclpjaaDoor
