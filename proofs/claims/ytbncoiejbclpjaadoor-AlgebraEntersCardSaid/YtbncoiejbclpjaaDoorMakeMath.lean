/-
  Plain mathematics: by which fields a span is kept, and when a view is made a capability. No Go text here.
-/
import Derived.Test.YtbncoiejbclpjaaDoorCapMath
namespace Go.Proofs.YtbncoiejbclpjaaDoor
open Go.RowKit Words FieldMath BoundsMath

/-- The fields that keep a span, and whether just it. -/
def EncRel (b t fb ft e : Nat) (ex : Bool) : Prop :=
  (b ≤ t ∧ t ≤ 281474976710656 ∧ Kept b t e ∧ fb = dn b (e - 1) / 2 ^ (e - 1) % 16384 ∧ ft = up t (e - 1) / 2 ^ (e - 1) % 4096 ∧ ex = decide (dn b (e - 1) = b ∧ up t (e - 1) = t)) ∨
  (¬ (b ≤ t ∧ t ≤ 281474976710656) ∧ fb = 0 ∧ ft = 0 ∧ e = 0 ∧ ex = false)
theorem enc_ex (b t : Nat) : ∃ fb ft e ex, EncRel b t fb ft e ex := by
  by_cases h : b ≤ t ∧ t ≤ 281474976710656
  · obtain ⟨e, hk⟩ := ex_kept (b := b) (t := t) (by have : (2 : Nat) ^ 48 = 281474976710656 := by decide
                                                    omega)
    exact ⟨_, _, e, _, .inl ⟨h.1, h.2, hk, rfl, rfl, rfl⟩⟩
  · exact ⟨0, 0, 0, false, .inr ⟨h, rfl, rfl, rfl, rfl⟩⟩
theorem EncRel.lt {b t fb ft e : Nat} {ex : Bool} (h : EncRel b t fb ft e ex) : fb < 16384 ∧ ft < 4096 ∧ e ≤ 37 := by
  rcases h with ⟨_, _, hk, rfl, rfl, _⟩ | ⟨_, rfl, rfl, rfl, _⟩
  · have := hk.le
    omega
  · omega
/-- A view is made a capability. -/
def mkO (b t p k a fb ft e : Nat) (ex : Bool) : Bool := ex && (decide (p ≤ 511) && (decide (k ≤ 4095) && (dO fb ft e a && decide (dB fb ft e a = b ∧ dT fb ft e a = t))))
def mkM (p k fb ft e : Nat) (ok : Bool) : Nat := if ok then metaN (wordN fb ft e) p k else 0
def mkA (a : Nat) (ok : Bool) : Nat := if ok then a else 0
end Go.Proofs.YtbncoiejbclpjaaDoor
