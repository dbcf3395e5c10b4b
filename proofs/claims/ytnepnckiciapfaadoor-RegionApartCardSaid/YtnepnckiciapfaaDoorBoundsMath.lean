/-
  Plain mathematics of compressed bounds, on natural numbers: multiples below and above, how many steps a span takes, the first exponent that keeps it. No Go text here.
-/
import Derived.Test.YtnepnckiciapfaaDoorWords
namespace Go.Proofs.YtnepnckiciapfaaDoor.BoundsMath

def dn (b x : Nat) : Nat := b / 2 ^ x * 2 ^ x
def cq (t x : Nat) : Nat := (t + (2 ^ x - 1)) / 2 ^ x
def up (t x : Nat) : Nat := cq t x * 2 ^ x
def steps (b t x : Nat) : Nat := cq t x - b / 2 ^ x
/-- An E keeps a span. -/
def keeps (b t e : Nat) : Prop := if e = 0 then steps b t 0 < 4096 else 4096 ≤ steps b t (e - 1) ∧ steps b t (e - 1) < 8192
/-- The first E that keeps it. -/
structure Kept (b t e : Nat) : Prop where
  le : e ≤ 37
  ok : keeps b t e
  no : ∀ k, k < e → ¬ keeps b t k

theorem pow_pos (x : Nat) : 0 < 2 ^ x := Nat.two_pow_pos x
theorem dn_le (b x : Nat) : dn b x ≤ b := Nat.div_mul_le_self _ _
theorem dn_gap (b x : Nat) : b < dn b x + 2 ^ x := by
  have h1 := Nat.div_add_mod b (2 ^ x)
  have h2 := Nat.mod_lt b (pow_pos x)
  unfold dn
  rw [Nat.mul_comm] at h1
  omega
theorem cq_iff (t x q : Nat) : cq t x ≤ q ↔ t ≤ q * 2 ^ x := by
  have hp := pow_pos x
  unfold cq
  rw [← Nat.lt_succ_iff, Nat.div_lt_iff_lt_mul hp, Nat.succ_mul]
  omega
theorem cq_lt_iff (t x q : Nat) : q < cq t x ↔ q * 2 ^ x < t := by
  have := cq_iff t x q
  omega
theorem up_le (t x : Nat) : t ≤ up t x := (cq_iff t x (cq t x)).1 (Nat.le_refl _)
theorem up_gap (t x : Nat) : up t x < t + 2 ^ x := by
  have hp := pow_pos x
  unfold up cq
  have := Nat.div_mul_le_self (t + (2 ^ x - 1)) (2 ^ x)
  omega
theorem dq_iff (b x q : Nat) : q ≤ b / 2 ^ x ↔ q * 2 ^ x ≤ b := Nat.le_div_iff_mul_le (pow_pos x)
theorem cq_mono {s t : Nat} (x : Nat) (h : s ≤ t) : cq s x ≤ cq t x := (cq_iff s x _).2 (Nat.le_trans h (up_le t x))
theorem dq_mono {s t : Nat} (x : Nat) (h : s ≤ t) : s / 2 ^ x ≤ t / 2 ^ x := Nat.div_le_div_right h
theorem steps_mono {b t c u : Nat} (x : Nat) (h1 : c ≤ b) (h2 : t ≤ u) : steps b t x ≤ steps c u x := by
  have := cq_mono x h2
  have := dq_mono x h1
  unfold steps
  omega
theorem cq_zero (t : Nat) : cq t 0 = t := by unfold cq; simp
theorem steps_zero (b t : Nat) : steps b t 0 = t - b := by unfold steps; rw [cq_zero]; simp
theorem pow_succ2 (x : Nat) : 2 ^ (x + 1) = 2 * 2 ^ x := by rw [Nat.pow_succ]; omega
theorem cq_half (t x : Nat) : cq t x ≤ 2 * cq t (x + 1) := by
  rw [cq_iff]
  have := up_le t (x + 1)
  unfold up at this
  rw [pow_succ2] at this
  rw [Nat.mul_assoc, Nat.mul_left_comm]
  exact this
theorem cq_half2 (t x : Nat) : 2 * cq t (x + 1) ≤ cq t x + 1 := by
  have h := (cq_iff t (x + 1) ((cq t x + 1) / 2)).2 (by
    have := up_le t x
    unfold up at this
    rw [pow_succ2, ← Nat.mul_assoc, Nat.mul_comm _ 2]
    exact Nat.le_trans this (Nat.mul_le_mul_right _ (by omega)))
  omega
theorem dq_half (b x : Nat) : b / 2 ^ (x + 1) = b / 2 ^ x / 2 := by rw [Nat.pow_succ, Nat.div_div_eq_div_mul]
theorem steps_half (b t x : Nat) : steps b t x ≤ 2 * steps b t (x + 1) := by
  have h1 := cq_half t x
  have h2 := dq_half b x
  unfold steps
  omega
theorem steps_half2 (b t x : Nat) : steps b t (x + 1) ≤ steps b t x / 2 + 1 := by
  have h1 := cq_half2 t x
  have h2 := dq_half b x
  unfold steps
  omega
theorem top_steps {b t : Nat} (h : t ≤ 2 ^ 48) : steps b t 36 ≤ 4096 := by
  have : cq t 36 ≤ 4096 := (cq_iff t 36 4096).2 (by omega)
  unfold steps
  omega
theorem up_top {t x : Nat} (h : t ≤ 2 ^ 48) (hx : x ≤ 48) : up t x ≤ 2 ^ 48 := by
  have : cq t x ≤ 2 ^ (48 - x) := (cq_iff t x _).2 (by rw [← Nat.pow_add]; simpa [hx] using h)
  have h2 := Nat.mul_le_mul_right (2 ^ x) this
  rw [← Nat.pow_add, show 48 - x + x = 48 by omega] at h2
  exact h2
/-- Some E keeps each span that may be. -/
theorem some_keeps {b t : Nat} (h48 : t ≤ 2 ^ 48) : ∃ e, e ≤ 37 ∧ keeps b t e := by
  by_cases h0 : steps b t 0 < 4096
  · exact ⟨0, by omega, by unfold keeps; rw [if_pos rfl]; exact h0⟩
  · have key : ∀ x, x ≤ 36 → (∃ e, e ≤ 37 ∧ keeps b t e) ∨ 8192 ≤ steps b t x := by
      intro x
      induction x with
      | zero =>
        intro _
        by_cases h : 8192 ≤ steps b t 0
        · exact .inr h
        · exact .inl ⟨1, by omega, by unfold keeps; rw [if_neg (by omega)]; exact ⟨by simp; omega, by simp; omega⟩⟩
      | succ x ih =>
        intro hx
        rcases ih (by omega) with h | h
        · exact .inl h
        · by_cases h2 : 8192 ≤ steps b t (x + 1)
          · exact .inr h2
          · have := steps_half b t x
            exact .inl ⟨x + 2, by omega, by unfold keeps; rw [if_neg (by omega)]; exact ⟨by simp; omega, by simp; omega⟩⟩
    rcases key 36 (Nat.le_refl _) with h | h
    · exact h
    · have := top_steps (b := b) h48
      omega
theorem first_of (p : Nat → Prop) [DecidablePred p] : ∀ n, (∃ e, e ≤ n ∧ p e) → ∃ e, e ≤ n ∧ p e ∧ ∀ k, k < e → ¬ p k
  | 0, ⟨e, he, h⟩ => ⟨0, Nat.le_refl _, by rwa [show e = 0 by omega] at h, fun k hk => by omega⟩
  | n + 1, ⟨e, he, h⟩ => by
    by_cases hn : ∃ e, e ≤ n ∧ p e
    · obtain ⟨d, hd, h1, h2⟩ := first_of p n hn
      exact ⟨d, by omega, h1, h2⟩
    · have hne : e = n + 1 := by
        by_cases h3 : e ≤ n
        · exact absurd ⟨e, h3, h⟩ hn
        · omega
      exact ⟨e, he, h, fun k hk hp => hn ⟨k, by omega, hp⟩⟩
theorem ex_kept {b t : Nat} (h48 : t ≤ 2 ^ 48) : ∃ e, Kept b t e := by
  have : DecidablePred (keeps b t) := fun e => by unfold keeps; exact inferInstance
  obtain ⟨e, h1, h2, h3⟩ := first_of (keeps b t) 37 (some_keeps h48)
  exact ⟨e, h1, h2, h3⟩
theorem Kept.uniq {b t d e : Nat} (h : Kept b t d) (k : Kept b t e) : d = e := by
  rcases Nat.lt_trichotomy d e with h1 | h1 | h1
  · exact absurd h.ok (k.no d h1)
  · exact h1
  · exact absurd k.ok (h.no e h1)
/-- Few steps stay few. -/
theorem few (b t x : Nat) (h : steps b t x < 4096) : ∀ n, steps b t (x + n) < 4096
  | 0 => h
  | n + 1 => by
    have := few b t x h n
    have h2 := steps_half2 b t (x + n)
    rw [Nat.add_assoc] at h2
    omega
/-- A span within another one takes no greater E. -/
theorem Kept.mono {b t c u d e : Nat} (h : Kept b t d) (k : Kept c u e) (h1 : c ≤ b) (h2 : t ≤ u) : d ≤ e := by
  rcases Nat.lt_or_ge e d with hlt | hge
  · exfalso
    have ho := h.ok
    have hn := h.no e hlt
    have hk := k.ok
    unfold keeps at ho hn hk
    rw [if_neg (by omega)] at ho
    by_cases he : e = 0
    · rw [if_pos he] at hn hk
      have := steps_mono (b := b) (t := t) 0 h1 h2
      omega
    · rw [if_neg he] at hn hk
      have := steps_mono (b := b) (t := t) (e - 1) h1 h2
      have hs : steps b t (e - 1) < 4096 := by omega
      have := few b t (e - 1) hs (d - e)
      rw [show e - 1 + (d - e) = d - 1 by omega] at this
      omega
  · exact hge

theorem dn_dn (b x : Nat) : dn (dn b x) x = dn b x := by
  unfold dn
  rw [Nat.mul_div_cancel _ (pow_pos x)]
theorem dn_div (b x : Nat) : dn b x / 2 ^ x = b / 2 ^ x := by
  unfold dn
  rw [Nat.mul_div_cancel _ (pow_pos x)]
theorem cq_up (t x : Nat) : cq (up t x) x = cq t x := by
  have h1 := (cq_iff (up t x) x (cq t x)).2 (Nat.le_refl _)
  have h2 := cq_mono x (up_le t x)
  omega
theorem up_up (t x : Nat) : up (up t x) x = up t x := by
  show cq (up t x) x * 2 ^ x = cq t x * 2 ^ x
  rw [cq_up]
theorem steps_kept (b t x : Nat) : steps (dn b x) (up t x) x = steps b t x := by
  unfold steps
  rw [cq_up, dn_div]
theorem keeps_kept {b t e : Nat} (h : keeps b t e) : keeps (dn b (e - 1)) (up t (e - 1)) e := by
  unfold keeps at h ⊢
  by_cases he : e = 0
  · subst he
    rw [if_pos rfl] at h ⊢
    rw [steps_kept]
    exact h
  · rw [if_neg he] at h ⊢
    rw [steps_kept]
    exact h
/-- What is kept is kept as it is. -/
theorem Kept.again {b t e : Nat} (h : Kept b t e) : Kept (dn b (e - 1)) (up t (e - 1)) e := by
  refine ⟨h.le, keeps_kept h.ok, fun k hk hp => ?_⟩
  have : DecidablePred (keeps (dn b (e - 1)) (up t (e - 1))) := fun e => by unfold keeps; exact inferInstance
  obtain ⟨d, h1, h2, h3⟩ := first_of (keeps (dn b (e - 1)) (up t (e - 1))) k ⟨k, Nat.le_refl _, hp⟩
  have := h.le
  have := h.mono ⟨by omega, h2, h3⟩ (dn_le _ _) (up_le _ _)
  omega
theorem dn_mono_x {b x y : Nat} (h : x ≤ y) : dn b y ≤ dn b x := by
  have h1 : dn b y = (b / 2 ^ y * 2 ^ (y - x)) * 2 ^ x := by
    unfold dn
    rw [Nat.mul_assoc, ← Nat.pow_add, show y - x + x = y by omega]
  rw [h1]
  refine Nat.mul_le_mul_right _ ((dq_iff b x _).2 ?_)
  rw [Nat.mul_assoc, ← Nat.pow_add, show y - x + x = y by omega]
  exact dn_le b y
theorem dn_mono {b c : Nat} (x : Nat) (h : c ≤ b) : dn c x ≤ dn b x := Nat.mul_le_mul_right _ (dq_mono x h)
theorem up_mono {t u : Nat} (x : Nat) (h : t ≤ u) : up t x ≤ up u x := Nat.mul_le_mul_right _ (cq_mono x h)
theorem up_mono_x {t x y : Nat} (h : x ≤ y) : up t x ≤ up t y := by
  have h1 : up t y = (cq t y * 2 ^ (y - x)) * 2 ^ x := by
    unfold up
    rw [Nat.mul_assoc, ← Nat.pow_add, show y - x + x = y by omega]
  rw [h1]
  refine Nat.mul_le_mul_right _ ((cq_iff t x _).2 ?_)
  rw [Nat.mul_assoc, ← Nat.pow_add, show y - x + x = y by omega]
  exact up_le t y
/-- What is kept for a span is within what is kept for one that it is within. -/
theorem Kept.within {b t c u d e : Nat} (h : Kept b t d) (k : Kept c u e) (h1 : c ≤ b) (h2 : t ≤ u) : dn c (e - 1) ≤ dn b (d - 1) ∧ up t (d - 1) ≤ up u (e - 1) := by
  have hde := h.mono k h1 h2
  exact ⟨Nat.le_trans (dn_mono_x (by omega)) (dn_mono _ h1), Nat.le_trans (up_mono _ h2) (up_mono_x (by omega))⟩
theorem dn_zero (x : Nat) : dn 0 x = 0 := by unfold dn; simp
end Go.Proofs.YtnepnckiciapfaaDoor.BoundsMath
