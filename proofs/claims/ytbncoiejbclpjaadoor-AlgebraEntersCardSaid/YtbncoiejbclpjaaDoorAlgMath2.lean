/-
  Plain mathematics: whatever is done with a capability, what has a tag is right, and within what it was made of. No Go text here.
-/
import Derived.Test.YtbncoiejbclpjaaDoorAlgMath
namespace Go.Proofs.YtbncoiejbclpjaaDoor
open Go.RowKit Words FieldMath BoundsMath

theorem live_tag {q : Bool} {m a : Nat} (h : liveB q m a = true) : q = true ∧ rightB m a = true := by
  unfold liveB at h; simpa using h
theorem open_tag {q : Bool} {m a : Nat} (h : openB q m a = true) : q = true ∧ rightB m a = true ∧ mK m = 0 := by
  unfold openB liveB at h; simp at h; exact ⟨h.1.1, h.1.2, h.2⟩
theorem open_of {q : Bool} {m a : Nat} (h1 : q = true) (h2 : rightB m a = true) (h3 : mK m = 0) : openB q m a = true := by
  unfold openB liveB; simp [h1, h2, h3]
theorem look_right {m n a b : Nat} (h : rightB m a = true) (hm : n = m) (ho : lO m b = true) : rightB n b = true := by
  subst hm
  unfold rightB at *
  simp at *
  exact ⟨ho, h.2⟩
/-- One capability is as far within a third one as another, of the same span and permissions. -/
theorem within_as {m a n b f g : Nat} (h : withinC m a f g = true) (hr : rightB n b = true) (h1 : lB n b = lB m a) (h2 : lT n b = lT m a) (h3 : mP n = mP m) : withinC n b f g = true := by
  unfold withinC at *
  rw [h1, h2, h3, hr]
  simp only [Bool.and_eq_true] at *
  exact ⟨⟨trivial, h.1.2⟩, h.2⟩
/-- What has a tag is right, and within what it was made of, which has one. -/
def Good (q : Bool) (m a : Nat) (r : Bool) (f g : Nat) : Prop := m < 18446744073709551616 ∧ (q = true → rightB m a = true ∧ withinC m a f g = true ∧ r = true)
theorem Good.begin {q : Bool} {m a : Nat} (hm : m < 18446744073709551616) (h : (q && !rightB m a) = false) : Good q m a q m a := ⟨hm, fun hq => by
  subst hq
  have : rightB m a = true := by simpa using h
  exact ⟨this, within_refl this, rfl⟩⟩
theorem Good.clear {q : Bool} {m a : Nat} {r : Bool} {f g : Nat} (h : Good q m a r f g) : Good false m a r f g := ⟨h.1, fun hq => by cases hq⟩
theorem Good.addr {q : Bool} {m a : Nat} {r : Bool} {f g : Nat} (h : Good q m a r f g) (n : Nat) : Good (addrQ q m a n) m n r f g := ⟨h.1, fun hq => by
  unfold addrQ at hq
  rw [Bool.and_eq_true, Bool.and_eq_true, decide_eq_true_eq] at hq
  obtain ⟨ho, hl, h1, h2⟩ := hq
  obtain ⟨o1, o2, o3⟩ := open_tag ho
  obtain ⟨_, k2, k3⟩ := h.2 o1
  have hr := look_right o2 rfl hl
  exact ⟨hr, within_as k2 hr h1.symm h2.symm rfl, k3⟩⟩
theorem Good.bnd {q : Bool} {m a : Nat} {r : Bool} {f g : Nat} (h : Good q m a r f g) {n e D U M : Nat} (x : Bool) (hb : Bnd m a n e D U M) : Good (bndQ q m a n x D U) M a r f g := by
  obtain ⟨b1, b2, b3, b4, b5, b6, b7⟩ := hb.made
  refine ⟨b7, fun hq => ?_⟩
  unfold bndQ at hq
  rw [Bool.and_eq_true, Bool.and_eq_true, decide_eq_true_eq] at hq
  obtain ⟨ho, ⟨h1, h2⟩, _⟩ := hq
  obtain ⟨o1, o2, o3⟩ := open_tag ho
  obtain ⟨_, k2, k3⟩ := h.2 o1
  refine ⟨b6, within_trans ?_ k2, k3⟩
  unfold withinC
  rw [b6, o2, b2, b3, b4, sub_refl, decide_eq_true ⟨h1, h2⟩]
  rfl
theorem sub_and (p q : Nat) : subN (p &&& q) p = true := by
  unfold subN
  refine decide_eq_true ?_
  rw [Nat.and_assoc, Nat.and_comm q p, ← Nat.and_assoc, Nat.and_self]
theorem Good.and {q : Bool} {m a : Nat} {r : Bool} {f g : Nat} (h : Good q m a r f g) (p : Nat) : Good (openB q m a) (andM m p) a r f g := by
  obtain ⟨_, _, _, p4, _, _, _, p8⟩ := andM_parts m p
  obtain ⟨l1, l2, l3⟩ := andM_look m p a
  refine ⟨Nat.lt_of_le_of_lt p8 h.1, fun hq => ?_⟩
  obtain ⟨o1, o2, o3⟩ := open_tag hq
  obtain ⟨_, k2, k3⟩ := h.2 o1
  have hr : rightB (andM m p) a = true := by rw [andM_right h.1]; exact o2
  refine ⟨hr, within_trans ?_ k2, k3⟩
  unfold withinC
  rw [hr, o2, l2, l3, p4, sub_and, decide_eq_true ⟨Nat.le_refl _, Nat.le_refl _⟩]
  rfl
theorem gen_no (x y : Nat) : (bif false then x else y) = y := rfl
theorem gen_yes (x y : Nat) : (bif true then x else y) = x := rfl
theorem typed_no1 (m k : Nat) : typedM false m k = (bif false then setK m k else m) := by unfold typedM; rfl
theorem typed_yes1 (m k : Nat) : typedM true m k = (bif true then setK m k else m) := by unfold typedM; rfl
theorem typed_no (m k : Nat) : typedM false m k = m := (typed_no1 m k).trans (gen_no _ _)
theorem typed_yes (m k : Nat) : typedM true m k = setK m k := (typed_yes1 m k).trans (gen_yes _ _)
theorem Good.typed {q s : Bool} {m a : Nat} {r : Bool} {f g : Nat} (h : Good q m a r f g) (k : Nat) (hk : k < 4096) (hs : s = true → q = true ∧ rightB m a = true) : Good s (typedM s m k) a r f g := by
  cases s with
  | false =>
    rw [typed_no]
    exact h.clear
  | true =>
    rw [typed_yes]
    obtain ⟨h1, h2⟩ := hs rfl
    obtain ⟨_, k2, k3⟩ := h.2 h1
    obtain ⟨_, r2, _⟩ := right_lt h2
    obtain ⟨_, _, _, p4, _, _, _, p8⟩ := setK_parts r2 hk
    obtain ⟨l1, l2, l3⟩ := setK_look (a := a) r2 hk
    have hr := setK_right h2 hk
    exact ⟨p8, fun _ => ⟨hr, within_as k2 hr l2 l3 p4, k3⟩⟩
theorem sealQ_tag {q : Bool} {m a : Nat} {r : Bool} {n b : Nat} (h : sealQ q m a r n b = true) : (q = true ∧ rightB m a = true) ∧ mK m = 0 ∧ 16 ≤ b ∧ b < 4096 ∧ allowsB r n b 32 = true := by
  unfold sealQ at h
  rw [Bool.and_eq_true, Bool.and_eq_true, decide_eq_true_eq] at h
  obtain ⟨ho, h1, h2, h3⟩ := h
  obtain ⟨o1, o2, o3⟩ := open_tag ho
  exact ⟨⟨o1, o2⟩, o3, h2, by omega, h1⟩
theorem enterQ_tag {q : Bool} {m a : Nat} (h : enterQ q m a = true) : (q = true ∧ rightB m a = true) ∧ mK m = 0 ∧ subN 4 (mP m) = true := by
  unfold enterQ at h
  rw [Bool.and_eq_true] at h
  obtain ⟨o1, o2, o3⟩ := open_tag h.1
  exact ⟨⟨o1, o2⟩, o3, h.2⟩
theorem opensQ_tag {q : Bool} {m a : Nat} (h : opensQ q m a = true) : (q = true ∧ rightB m a = true) ∧ mK m = 1 := by
  unfold opensQ at h
  rw [Bool.and_eq_true, decide_eq_true_eq] at h
  exact ⟨live_tag h.1, h.2⟩
theorem Good.sealedAs {q : Bool} {m a : Nat} {r : Bool} {f g : Nat} (h : Good q m a r f g) (s : Bool) (n b : Nat) : Good (sealQ q m a s n b) (typedM (sealQ q m a s n b) m b) a r f g := by
  cases hs : sealQ q m a s n b with
  | false =>
    rw [typed_no]
    exact h.clear
  | true =>
    obtain ⟨h1, _, _, h2, _⟩ := sealQ_tag hs
    exact h.typed (s := true) b h2 (fun _ => h1)
theorem Good.enter {q : Bool} {m a : Nat} {r : Bool} {f g : Nat} (h : Good q m a r f g) : Good (enterQ q m a) (typedM (enterQ q m a) m 1) a r f g := h.typed 1 (by omega) fun hs => (enterQ_tag hs).1
theorem Good.opened {q : Bool} {m a : Nat} {r : Bool} {f g : Nat} (h : Good q m a r f g) : Good q (typedM (opensQ q m a) m 0) a r f g := by
  cases hs : opensQ q m a with
  | false =>
    rw [typed_no]
    exact h
  | true =>
    obtain ⟨⟨h1, h2⟩, _⟩ := opensQ_tag hs
    have := h.typed (s := true) 0 (by omega) (fun _ => ⟨h1, h2⟩)
    rw [h1]
    exact this
theorem Good.build {q : Bool} {m a : Nat} {r : Bool} {f g : Nat} (h : Good q m a r f g) (s : Bool) (n b : Nat) (hq : buildQ m a s n b = true) : Good (buildQ m a s n b) m a s n b := ⟨h.1, fun _ => by
  unfold buildQ at hq
  rw [Bool.and_eq_true, Bool.and_eq_true] at hq
  obtain ⟨ho, hw, _⟩ := hq
  obtain ⟨o1, o2, o3⟩ := open_tag ho
  have hw2 := hw
  unfold withinC at hw
  simp only [Bool.and_eq_true] at hw
  exact ⟨hw.1.1, hw2, o1⟩⟩
theorem Good.unbuilt {q : Bool} {m a : Nat} {r : Bool} {f g : Nat} (h : Good q m a r f g) (s : Bool) (n b : Nat) (hq : buildQ m a s n b = false) : Good (buildQ m a s n b) m a r f g := ⟨h.1, fun hc => by rw [hq] at hc; cases hc⟩
/-- What is asked behind each step. -/
theorem Good.asked {q : Bool} {m a : Nat} {r : Bool} {f g : Nat} (h : Good q m a r f g) (hq : q = true) : rightB m a = true ∧ withinC m a f g = true ∧ r = true := h.2 hq
end Go.Proofs.YtbncoiejbclpjaaDoor
