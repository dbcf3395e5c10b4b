/-
  A slice of words that is handed in.
-/
import Derived.Test.YtnepnckiciapfaaDoorLawFrame
import Derived.ChangeShapes
namespace Go.Proofs.YtnepnckiciapfaaDoor
open Go.RowKit Go.ChangeShapes Go.WideShapes Go.ChangeAt

theorem wf_w64 {z : Int} (h : (Lit.int .u64 z).wf = true) : ∃ n : Nat, z = (n : Int) := by
  obtain ⟨Z, rfl⟩ := Frame.wf_u64 h
  exact ⟨Z.toNat, rfl⟩
/-- The slice holds the numbers l. -/
def IsW (W : World) (l : List Nat) (v : Value) : Prop := ∃ s cap, v = .slice s l.length cap ∧ ∀ (k x : Nat), l[k]? = some x → ∃ b off, s = some ⟨b, off, none⟩ ∧ W.cell? ⟨b, off + k, none⟩ = some (.int .u64 (x : Int))
set_option maxRecDepth 100000 in
theorem open_listw {H : Type} {enc : TypeId × Value → H} {W : World} {base : Nat} {v : Value} {d : DataW H} {ps : List MemPlace} (hv : Value.okWide Tryd.prog W .any base 25 v) (h : DataW.Trod enc Tryd.prog W 0 (fun _ => true) true 25 v d ps) : ∃ l, IsW W l v := by
  obtain ⟨sa, len, cap, rfl⟩ := okWide_slice Tryd.underlying25 hv
  obtain ⟨fuel, hf⟩ := h
  rcases open_ints Tryd.underlying25 Tryd.underlying22 (by kernel_rfl) hf with ⟨hcs, _⟩ | ⟨a, len', cap', zs, hcs, _, hl, _, hz, _, hc, hwf⟩
  · simp [Value.cells] at hcs
    obtain ⟨rfl, rfl, rfl⟩ := hcs
    exact ⟨[], _, _, rfl, fun k x hx => by simp at hx⟩
  · simp [Value.cells] at hcs
    obtain ⟨rfl, rfl, rfl⟩ := hcs
    have hz' : zs.length = cap := by simpa using hz
    refine ⟨(zs.take len).map Int.toNat, some a, cap, ?_, fun k x hx => ?_⟩
    · rw [List.length_map, List.length_take, hz', Nat.min_eq_left hl]
    · rw [List.getElem?_map] at hx
      obtain ⟨y, hy, rfl⟩ := Option.map_eq_some_iff.1 hx
      have hym := List.mem_of_getElem? hy
      obtain ⟨m, hm⟩ := wf_w64 (hwf y (List.mem_of_mem_take hym))
      rw [List.getElem?_take] at hy
      split at hy
      · have hk : k < zs.length := (List.getElem?_eq_some_iff.1 hy).1
        have h1 := hc k hk
        have hspot : a.spot = none := by
          have := World.cell?_spot (hc 0 (by omega))
          simpa [Addr.add] using this
        obtain ⟨b, off, spot⟩ := a
        simp only at hspot
        subst hspot
        refine ⟨b, off, rfl, ?_⟩
        have ea : (⟨b, off, none⟩ : Addr).add k = ⟨b, off + k, none⟩ := by unfold Addr.add; split <;> simp_all
        rw [ea, List.getD_eq_getElem?_getD, hy] at h1
        rw [h1, hm]
        rfl
      · cases hy
end Go.Proofs.YtnepnckiciapfaaDoor
