/-
  A slice of ints that is handed in.
-/
import Derived.Test.YtkblpbnppkfjnaaLawFrame
import Derived.ChangeShapes
namespace Go.Proofs.Ytkblpbnppkfjnaa
open Go.RowKit Go.ChangeShapes Go.WideShapes Go.ChangeAt

def Bd (z : Int) : Prop := -9223372036854775808 ≤ z ∧ z < 9223372036854775808
theorem wf_bd64 {z : Int} (h : (Lit.int .i64 z).wf = true) : Bd z := by
  have e1 : IntKind.i64.min = -9223372036854775808 := by decide
  have e2 : IntKind.i64.max = 9223372036854775807 := by decide
  simp only [Lit.wf, e1, e2, Bool.and_eq_true, decide_eq_true_eq] at h
  unfold Bd
  omega
/-- The slice holds the numbers l. -/
def IsInts (W : World) (l : List Int) (v : Value) : Prop := (∀ y ∈ l, Bd y) ∧ ∃ s cap, v = .slice s l.length cap ∧ ∀ k x, l[k]? = some x → ∃ b off, s = some ⟨b, off, none⟩ ∧ W.cell? ⟨b, off + k, none⟩ = some (.int .i64 x)
set_option maxRecDepth 100000 in
theorem open_list {H : Type} {enc : TypeId × Value → H} {W : World} {base : Nat} {v : Value} {d : DataW H} {ps : List MemPlace} (hv : Value.okWide Try.prog W .any base 22 v) (h : DataW.Trod enc Try.prog W 0 (fun _ => true) true 22 v d ps) : ∃ l, IsInts W l v := by
  obtain ⟨sa, len, cap, rfl⟩ := okWide_slice Try.underlying22 hv
  obtain ⟨fuel, hf⟩ := h
  rcases open_ints Try.underlying22 Try.underlying3 (by kernel_rfl) hf with ⟨hcs, _⟩ | ⟨a, len', cap', zs, hcs, _, hl, _, hz, _, hc, hwf⟩
  · simp [Value.cells] at hcs
    obtain ⟨rfl, rfl, rfl⟩ := hcs
    exact ⟨[], fun y hy => by simp at hy, _, _, rfl, fun k x hx => by simp at hx⟩
  · simp [Value.cells] at hcs
    obtain ⟨rfl, rfl, rfl⟩ := hcs
    have hz' : zs.length = cap := by simpa using hz
    refine ⟨zs.take len, fun y hy => wf_bd64 (hwf y (List.mem_of_mem_take hy)), some a, cap, ?_, fun k y hy => ?_⟩
    · rw [List.length_take, hz', Nat.min_eq_left hl]
    · rw [List.getElem?_take] at hy
      split at hy
      · have hk : k < zs.length := (List.getElem?_eq_some_iff.1 hy).1
        have h1 := hc k hk
        have hspot : a.spot = none := by
          have := World.cell?_spot (hc 0 (by omega))
          simpa [Addr.add] using this
        obtain ⟨b, off, spot⟩ := a
        simp only at hspot
        subst hspot
        refine ⟨b, off, rfl, ?_⟩
        have ea : (⟨b, off, none⟩ : Addr).add k = ⟨b, off + k, none⟩ := by unfold Addr.add; split <;> simp_all
        rw [ea, List.getD_eq_getElem?_getD, hy] at h1
        exact h1
      · cases hy
end Go.Proofs.Ytkblpbnppkfjnaa
