/-
  What the document's own answers of layer 3 (package mintmarkref03) are: exponent, may, kept, Encode, Rounded.
-/
import Derived.Test.YtnbfjaocakghkaaDoorBoundsWalks
namespace Go.Proofs.YtnbfjaocakghkaaDoor
open Go.RowKit Words BoundsMath

set_option maxHeartbeats 400000 in
theorem rexp_any (e : Nat) (he : e < 9223372036854775808) (w : World) :
    Calls Tryd.prog 44 #[.int .u64 (e : Int)] w (Quiet (.int .u64 ((e - 1 : Nat) : Int)) w) := by
  by_cases h : e = 0
  · subst h
    go_enter Tryd.func44, Tryd.ntmps44
    go_wp2
    go_ret
    exact ⟨ret_int (by omega), 0, rfl⟩
  · have h1 : ¬ (e : Int) = 0 := by omega
    have h2 : (1 : Int) ≤ (e : Int) := by omega
    go_enter Tryd.func44, Tryd.ntmps44
    go_wp2
    go_ret
    exact ⟨ret_int (by omega), 0, rfl⟩

theorem cq_code (t x : Nat) : cq t x = if t / 2 ^ x * 2 ^ x < t then t / 2 ^ x + 1 else t / 2 ^ x := by
  have hp := BoundsMath.pow_pos x
  have h1 := Nat.div_add_mod t (2 ^ x)
  have h2 := Nat.mod_lt t hp
  rw [Nat.mul_comm] at h1
  split
  · rename_i h
    have := (cq_iff t x (t / 2 ^ x + 1)).2 (by rw [Nat.succ_mul]; omega)
    have := (cq_lt_iff t x (t / 2 ^ x)).2 h
    omega
  · rename_i h
    have := (cq_iff t x (t / 2 ^ x)).2 (by omega)
    have := (dq_iff t x (t / 2 ^ x)).1 (Nat.le_refl _)
    have h3 : t / 2 ^ x ≤ cq t x := by
      rcases Nat.lt_or_ge (cq t x) (t / 2 ^ x) with h4 | h4
      · have h5 := up_le t x
        unfold up at h5
        have := Nat.mul_le_mul_right (2 ^ x) (Nat.succ_le_of_lt h4)
        rw [Nat.succ_mul] at this
        omega
      · exact h4
    omega

structure KeptMet (B T E X QB QT TM QC S D U : Int) : Prop where
  exp : ∀ W, Calls Tryd.prog 44 #[.int .u64 E] W (Quiet (.int .u64 X) W)
  x0 : 0 ≤ X
  x64 : X ≤ 64
  e0 : ¬ E = 0
  qb : B / 2 ^ X.toNat = QB
  qt : T / 2 ^ X.toNat = QT
  tm : IntKind.u64.wrap (QT * 2 ^ X.toNat) = TM
  s : IntKind.u64.wrap (QC - QB) = S
  d : IntKind.u64.wrap (QB * 2 ^ X.toNat) = D
  u : IntKind.u64.wrap (QC * 2 ^ X.toNat) = U
  c : (TM < T ∧ IntKind.u64.wrap (QT + 1) = QC) ∨ (¬ TM < T ∧ QT = QC)
theorem kept_met (b t e : Nat) (hb : b ≤ t) (ht : t ≤ 281474976710656) (he : e ≤ 37) (h0 : e ≠ 0) :
    ∃ X QB QT TM QC, KeptMet b t e X QB QT TM QC ((steps b t (e - 1) : Nat) : Int) ((dn b (e - 1) : Nat) : Int) ((up t (e - 1) : Nat) : Int) := by
  have pw : (2 : Nat) ^ 48 = 281474976710656 := by decide
  have hpos := BoundsMath.pow_pos (e - 1)
  have hwr := fun n : Int => IntKind.wrap_u64 n
  have hub := up_top (t := t) (x := e - 1) (by omega) (by omega)
  have hdb := dn_le b (e - 1)
  have hbq : b / 2 ^ (e - 1) ≤ b := Nat.div_le_self _ _
  have htq : t / 2 ^ (e - 1) ≤ t := Nat.div_le_self _ _
  have hqq : b / 2 ^ (e - 1) ≤ t / 2 ^ (e - 1) := dq_mono _ hb
  have htm : t / 2 ^ (e - 1) * 2 ^ (e - 1) ≤ t := Nat.div_mul_le_self _ _
  have hc := cq_code t (e - 1)
  have hst : steps b t (e - 1) = cq t (e - 1) - b / 2 ^ (e - 1) := rfl
  have hcb : b / 2 ^ (e - 1) ≤ cq t (e - 1) := by rw [hc]; split <;> omega
  have hcu : cq t (e - 1) ≤ up t (e - 1) := Nat.le_mul_of_pos_right _ hpos
  have i1 : ((t / 2 ^ (e - 1) : Nat) : Int) * 2 ^ ((e - 1 : Nat) : Int).toNat = ((t / 2 ^ (e - 1) * 2 ^ (e - 1) : Nat) : Int) := by simp
  have i2 : ((b / 2 ^ (e - 1) : Nat) : Int) * 2 ^ ((e - 1 : Nat) : Int).toNat = ((dn b (e - 1) : Nat) : Int) := by unfold dn; simp
  have i3 : ((cq t (e - 1) : Nat) : Int) * 2 ^ ((e - 1 : Nat) : Int).toNat = ((up t (e - 1) : Nat) : Int) := by unfold up; simp
  refine ⟨((e - 1 : Nat) : Int), ((b / 2 ^ (e - 1) : Nat) : Int), ((t / 2 ^ (e - 1) : Nat) : Int), ((t / 2 ^ (e - 1) * 2 ^ (e - 1) : Nat) : Int), ((cq t (e - 1) : Nat) : Int),
    ⟨fun W => rexp_any e (by omega) W, by omega, by omega, by omega, by simp, by simp, ?_, ?_, ?_, ?_, ?_⟩⟩
  · rw [i1, hwr]; omega
  · rw [hst, hwr]
    clear hc hst i1 i2 i3
    generalize b / 2 ^ (e - 1) = qb at *
    generalize cq t (e - 1) = c at *
    omega
  · rw [i2, hwr]; omega
  · rw [i3, hwr]; omega
  · by_cases h : t / 2 ^ (e - 1) * 2 ^ (e - 1) < t
    · left
      rw [if_pos h] at hc
      refine ⟨by omega, ?_⟩
      rw [hc, hwr]; omega
    · right
      rw [if_neg h] at hc
      refine ⟨by omega, by rw [hc]⟩

end Go.Proofs.YtnbfjaocakghkaaDoor