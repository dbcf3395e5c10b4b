/-
  Plain mathematics of operations on capabilities: what comes of each, and that it is within what it was made of. No Go text here.
-/
import Derived.Test.YtbncoiejbclpjaaDoorCapMath2
namespace Go.Proofs.YtbncoiejbclpjaaDoor
open Go.RowKit Words FieldMath BoundsMath

def liveB (q : Bool) (m a : Nat) : Bool := q && rightB m a
def openB (q : Bool) (m a : Nat) : Bool := liveB q m a && decide (mK m = 0)
def addrQ (q : Bool) (m a n : Nat) : Bool := openB q m a && (lO m n && decide (lB m a = lB m n ∧ lT m a = lT m n))
/-- A Meta with another type. -/
def setK (m k : Nat) : Nat := m - mK m * 281474976710656 + k * 281474976710656
/-- A Meta with fewer permissions. -/
def andM (m p : Nat) : Nat := m - (mP m - (mP m &&& p)) * 4294967296
def allowsB (q : Bool) (m a p : Nat) : Bool := openB q m a && (subN p (mP m) && decide (lB m a ≤ a ∧ a + 1 ≤ lT m a))
def checkN (q : Bool) (m a p n : Nat) : Nat :=
  bif liveB q m a then (bif decide (mK m = 0) then (bif subN p (mP m) then (bif decide (lB m a ≤ a ∧ a + n ≤ lT m a) then 0 else 4) else 3) else 2) else 1
def sealQ (q : Bool) (m a : Nat) (r : Bool) (n b : Nat) : Bool := openB q m a && (allowsB r n b 32 && decide (16 ≤ b ∧ b ≤ 4095))
def unsealQ (q : Bool) (m a : Nat) (r : Bool) (n b : Nat) : Bool := liveB q m a && (decide (16 ≤ mK m) && (allowsB r n b 64 && decide (b = mK m)))
def enterQ (q : Bool) (m a : Nat) : Bool := openB q m a && subN 4 (mP m)
def opensQ (q : Bool) (m a : Nat) : Bool := liveB q m a && decide (mK m = 1)
def buildQ (m a : Nat) (r : Bool) (n b : Nat) : Bool := openB r n b && (withinC m a n b && decide (mK m < 2))
def typedM (may : Bool) (m k : Nat) : Nat := bif may then setK m k else m

theorem right_lt {m a : Nat} (h : rightB m a = true) : m / 2199023255552 % 128 = 0 ∧ m / 1152921504606846976 = 0 ∧ lO m a = true := by
  unfold rightB at h
  rw [Bool.and_eq_true, decide_eq_true_eq] at h
  obtain ⟨h1, h2⟩ := h
  have := metaN_lt m (mP m) (mK m)
  have := (right_iff (m := m) (by omega)).1 h2
  exact ⟨this.1, this.2, h1⟩
theorem right_of {m a : Nat} (hm : m < 18446744073709551616) (h1 : m / 2199023255552 % 128 = 0) (h2 : m / 1152921504606846976 = 0) (h3 : lO m a = true) : rightB m a = true := by
  unfold rightB
  rw [h3, decide_eq_true ((right_iff hm).2 ⟨h1, h2⟩)]
  rfl
theorem setK_parts {m k : Nat} (hm : m / 1152921504606846976 = 0) (hk : k < 4096) :
    mB (setK m k) = mB m ∧ mT (setK m k) = mT m ∧ mE (setK m k) = mE m ∧ mP (setK m k) = mP m ∧ mK (setK m k) = k ∧
      (setK m k) / 2199023255552 % 128 = m / 2199023255552 % 128 ∧ setK m k / 1152921504606846976 = 0 ∧ setK m k < 18446744073709551616 := by
  unfold setK mB mT mE mP mK; omega
theorem setK_same (m : Nat) : setK m (mK m) = m := by unfold setK mK; omega
theorem setK_twice {m k j : Nat} (hm : m / 1152921504606846976 = 0) (hk : k < 4096) : setK (setK m k) j = setK m j := by
  unfold setK mK; omega
theorem setK_look {m k a : Nat} (hm : m / 1152921504606846976 = 0) (hk : k < 4096) : lO (setK m k) a = lO m a ∧ lB (setK m k) a = lB m a ∧ lT (setK m k) a = lT m a := by
  obtain ⟨h1, h2, h3, _⟩ := setK_parts hm hk
  unfold lO lB lT
  rw [h1, h2, h3]
  exact ⟨rfl, rfl, rfl⟩
theorem setK_right {m k a : Nat} (h : rightB m a = true) (hk : k < 4096) : rightB (setK m k) a = true := by
  obtain ⟨h1, h2, h3⟩ := right_lt h
  obtain ⟨_, _, _, _, _, k1, k2, k3⟩ := setK_parts h2 hk
  exact right_of k3 (by rw [k1]; exact h1) k2 (by rw [(setK_look h2 hk).1]; exact h3)
theorem and_le_part (x y : Nat) : x &&& y ≤ x := Nat.and_le_left
theorem andM_parts (m p : Nat) :
    mB (andM m p) = mB m ∧ mT (andM m p) = mT m ∧ mE (andM m p) = mE m ∧ mP (andM m p) = (mP m &&& p) ∧ mK (andM m p) = mK m ∧
      (andM m p) / 2199023255552 % 128 = m / 2199023255552 % 128 ∧ andM m p / 1152921504606846976 = m / 1152921504606846976 ∧ andM m p ≤ m := by
  have h := and_le_part (mP m) p
  unfold andM
  generalize mP m &&& p = x at *
  unfold mB mT mE mP mK at *; omega
theorem andM_look (m p a : Nat) : lO (andM m p) a = lO m a ∧ lB (andM m p) a = lB m a ∧ lT (andM m p) a = lT m a := by
  obtain ⟨h1, h2, h3, _⟩ := andM_parts m p
  unfold lO lB lT
  rw [h1, h2, h3]
  exact ⟨rfl, rfl, rfl⟩
theorem andM_right {m p a : Nat} (hm : m < 18446744073709551616) : rightB (andM m p) a = rightB m a := by
  obtain ⟨_, _, _, _, _, k1, k2, k3⟩ := andM_parts m p
  unfold rightB
  rw [(andM_look m p a).1]
  congr 1
  rw [decide_eq_decide, right_iff (by omega), right_iff hm, k1, k2]
theorem andM_twice (m p : Nat) : andM (andM m p) p = andM m p := by
  have h := (andM_parts m p).2.2.2.1
  have h2 : andM (andM m p) p = andM m p - (mP (andM m p) - (mP (andM m p) &&& p)) * 4294967296 := rfl
  rw [h2, h, Nat.and_assoc, Nat.and_self, Nat.sub_self]
  omega
theorem retype_nat {x y z k m : Nat} (h : metaN x y z = m) (hz : z < 4096) (hk : k < 4096) : metaN x y k = m - z * 281474976710656 + k * 281474976710656 := by
  subst h; unfold metaN; omega
/-! What is right is made of what it tells, with another type too. -/
theorem retyped {m a k fb ft e : Nat} {ex : Bool} (hr : rightB m a = true) (hk : k < 4096) (h : EncRel (lB m a) (lT m a) fb ft e ex) :
    metaN (wordN fb ft e) (mP m) k = setK m k ∧ mkO (lB m a) (lT m a) (mP m) k a fb ft e ex = true := by
  have h1 := remade hr h
  obtain ⟨l1, l2, l3⟩ := h.lt
  refine ⟨?_, ?_⟩
  · exact retype_nat h1 (by unfold mK; omega) hk
  · have hr2 := hr
    unfold rightB at hr
    rw [Bool.and_eq_true, decide_eq_true_eq] at hr
    obtain ⟨ho, hm⟩ := hr
    have hok := (decB_iff ..).1 (show decB (mB m) (mT m) (mE m) a = true from ho)
    obtain ⟨k1, k2, k3⟩ := dec_kept hok
    have eB : lB m a = baseN (mB m) (mE m) a * 2 ^ (mE m - 1) := by unfold lB dB; rw [if_pos (show decB (mB m) (mT m) (mE m) a = true from ho)]
    have eT : lT m a = (baseN (mB m) (mE m) a + lenN (mB m) (mT m) (mE m)) * 2 ^ (mE m - 1) := by unfold lT dT; rw [if_pos (show decB (mB m) (mT m) (mE m) a = true from ho)]
    have hpos := BoundsMath.pow_pos (mE m - 1)
    rcases h with ⟨h1, h2, hk, rfl, rfl, hx⟩ | ⟨h1, _⟩
    · rw [eB, eT] at hk hx
      obtain rfl := k1.uniq hk
      rw [dn_mul, up_mul] at hx
      have hP : mP m ≤ 511 := by unfold mP; omega
      unfold mkO
      have f1 : dn (lB m a) (mE m - 1) / 2 ^ (mE m - 1) % 16384 = mB m := by rw [eB, dn_mul, Nat.mul_div_cancel _ hpos, k2]
      have f2 : up (lT m a) (mE m - 1) / 2 ^ (mE m - 1) % 4096 = mT m := by rw [eT, up_mul, Nat.mul_div_cancel _ hpos, k3]
      rw [f1, f2, hx, decide_eq_true hP, decide_eq_true (show k ≤ 4095 by omega), show dO (mB m) (mT m) (mE m) a = true from ho,
        show decide (dB (mB m) (mT m) (mE m) a = lB m a ∧ dT (mB m) (mT m) (mE m) a = lT m a) = true from decide_eq_true ⟨rfl, rfl⟩]
      simp
    · exact absurd ⟨dB_le .., dT_le ..⟩ h1
/-! A span that is asked for. -/
structure Bnd (m a n e D U M : Nat) : Prop where
  ok : a < 281474976710656 ∧ a + n ≤ 281474976710656
  kept : Kept a (a + n) e
  hD : D = dn a (e - 1)
  hU : U = up (a + n) (e - 1)
  hM : M = metaN (wordN (D / 2 ^ (e - 1) % 16384) (U / 2 ^ (e - 1) % 4096) e) (mP m) (mK m)
theorem bnd_ex (m a n : Nat) (h : a < 281474976710656 ∧ a + n ≤ 281474976710656) : ∃ e D U M, Bnd m a n e D U M := by
  obtain ⟨e, hk⟩ := ex_kept (b := a) (t := a + n) (by have : (2 : Nat) ^ 48 = 281474976710656 := by decide
                                                      omega)
  exact ⟨e, _, _, _, h, hk, rfl, rfl, rfl⟩
theorem Bnd.le {m a n e D U M : Nat} (h : Bnd m a n e D U M) : D ≤ a ∧ a + n ≤ U ∧ U ≤ 281474976710656 := by
  obtain ⟨h1, h2, rfl, rfl, _⟩ := h
  have he := h2.le
  have := up_top (t := a + n) (x := e - 1) (by have : (2 : Nat) ^ 48 = 281474976710656 := by decide
                                               omega) (by omega)
  have e48 : (2 : Nat) ^ 48 = 281474976710656 := by decide
  exact ⟨dn_le .., up_le .., by omega⟩
theorem Bnd.enc {m a n e D U M : Nat} (h : Bnd m a n e D U M) : EncRel D U (D / 2 ^ (e - 1) % 16384) (U / 2 ^ (e - 1) % 4096) e true := by
  have hl := h.le
  obtain ⟨h1, h2, rfl, rfl, _⟩ := h
  refine .inl ⟨by omega, by omega, h2.again, ?_, ?_, ?_⟩
  · rw [dn_dn]
  · rw [up_up]
  · rw [dn_dn, up_up]; simp
theorem Bnd.makes {m a n e D U M : Nat} (h : Bnd m a n e D U M) : mkO D U (mP m) (mK m) a (D / 2 ^ (e - 1) % 16384) (U / 2 ^ (e - 1) % 4096) e true = true := by
  have hl := h.le
  obtain ⟨h1, h2, rfl, rfl, _⟩ := h
  have hpos := BoundsMath.pow_pos (e - 1)
  have hg := dn_gap a (e - 1)
  obtain ⟨n1, n2, n3⟩ := near_math a (a + n) e a h2 (by omega) (by omega) (by omega) (by omega) h1.1
  have hd := (decB_iff ..).2 n1
  have hP : mP m ≤ 511 := by unfold mP; omega
  have hK : mK m ≤ 4095 := by unfold mK; omega
  unfold mkO dO dB dT
  rw [hd, if_pos rfl, if_pos rfl, n2, n3, decide_eq_true hP, decide_eq_true hK]
  simp
theorem Bnd.made {m a n e D U M : Nat} (h : Bnd m a n e D U M) : lO M a = true ∧ lB M a = D ∧ lT M a = U ∧ mP M = mP m ∧ mK M = mK m ∧ rightB M a = true ∧ M < 18446744073709551616 := by
  have := Go.Proofs.YtbncoiejbclpjaaDoor.made h.enc h.makes
  rw [← h.hM] at this
  obtain ⟨a1, a2, a3, a4, a5, a6⟩ := this
  exact ⟨a1, a2, a3, a4, a5, a6, by rw [h.hM]; exact metaN_lt ..⟩
def bndQ (q : Bool) (m a n : Nat) (x : Bool) (D U : Nat) : Bool := openB q m a && (decide (lB m a ≤ D ∧ U ≤ lT m a) && (!x || decide (D = a ∧ U = a + n)))
end Go.Proofs.YtbncoiejbclpjaaDoor
