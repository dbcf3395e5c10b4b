/-
  A context that is handed in: its cells are thirty-three capabilities.
-/
import Derived.Test.YtnbfjaocakghkaaDoorTabLaid03
import Derived.Test.YtnbfjaocakghkaaDoorRegMath
namespace Go.Proofs.YtnbfjaocakghkaaDoor
open Go.RowKit

def ksF : Nat → List Frame.Kd
  | 0 => []
  | n + 1 => .inr false :: .inl .u64 :: .inl .u64 :: ksF n
theorem fits_b {ks : List Frame.Kd} {cs : List Value} (h : Frame.Fits (.inr false :: ks) cs) : ∃ b l, cs = .bool b :: l ∧ Frame.Fits ks l := by
  cases cs with
  | nil => exact h.elim
  | cons c l =>
    obtain ⟨⟨b, hb⟩, h2⟩ := h
    exact ⟨b, l, by rw [hb], h2⟩
theorem fits_w {ks : List Frame.Kd} {cs : List Value} (h : Frame.Fits (.inl .u64 :: ks) cs) : ∃ (x : BitVec 64) (l : List Value), cs = .int .u64 (x.toNat : Int) :: l ∧ Frame.Fits ks l := by
  cases cs with
  | nil => exact h.elim
  | cons c l =>
    obtain ⟨⟨z, hz, hw⟩, h2⟩ := h
    obtain ⟨x, hx⟩ := Frame.wf_u64 hw
    exact ⟨x, l, by rw [hz, hx], h2⟩
theorem fits_caps : ∀ (n : Nat) (cs : List Value), Frame.Fits (ksF n) cs → ∃ l : List C3, l.length = n ∧ cs = l.flatMap capL ∧ ∀ c ∈ l, Wf3 c
  | 0, cs, h => by
    cases cs with
    | nil => exact ⟨[], rfl, rfl, fun c hc => by cases hc⟩
    | cons _ _ => exact h.elim
  | n + 1, cs, h => by
    obtain ⟨t, l1, e1, h1⟩ := fits_b h
    obtain ⟨m, l2, e2, h2⟩ := fits_w h1
    obtain ⟨a, l3, e3, h3⟩ := fits_w h2
    obtain ⟨l, hl, e, hw⟩ := fits_caps n l3 h3
    refine ⟨(t, m.toNat, a.toNat) :: l, by rw [List.length_cons, hl], ?_, fun c hc => ?_⟩
    · rw [e1, e2, e3, e]
      rfl
    · rcases List.mem_cons.1 hc with rfl | hc
      · exact ⟨m.isLt, a.isLt⟩
      · exact hw c hc
theorem ctxN_take (l : List C3) : ∀ n, n ≤ l.length → ctxN (fun i => l.getD i zC) n = (l.take n).flatMap capL
  | 0, _ => by simp [ctxN]
  | n + 1, h => by
    rw [ctxN, ctxN_take l n (by omega), List.take_add_one, List.flatMap_append]
    have : l[n]? = some l[n] := List.getElem?_eq_getElem (by omega)
    simp [this]
theorem open_ctx {cs : List Value} (h : Frame.Fits (ksF 33) cs) : ∃ R : Nat → C3, (∀ i, Wf3 (R i)) ∧ cs = ctxL R := by
  obtain ⟨l, hl, e, hw⟩ := fits_caps 33 cs h
  refine ⟨fun i => l.getD i zC, fun i => ?_, ?_⟩
  · rcases Nat.lt_or_ge i l.length with hi | hi
    · have : l.getD i zC = l[i] := by simp [hi]
      show Wf3 (l.getD i zC)
      rw [this]
      exact hw _ (List.getElem_mem hi)
    · have : l.getD i zC = zC := by simp [hi]
      show Wf3 (l.getD i zC)
      rw [this]
      exact ⟨by decide, by decide⟩
  · rw [e, ctxL, ctxN_take l 33 (by omega), ← hl, List.take_length]
theorem open_ctxA {cs : List Value} (h : Frame.Fits (ksF 33) cs) : ∃ R : Nat → C3, (∀ i, Wf3 (R i)) ∧ cs.toArray = ctxA R := by
  obtain ⟨R, hw, e⟩ := open_ctx h
  exact ⟨R, hw, by rw [e, ctxA]⟩
end Go.Proofs.YtnbfjaocakghkaaDoor
