/-
  A slice of entries to be laid, as it is handed in; what laid answers for it.
-/
import Derived.Test.YtnookalplejneaaDoorWalkLaid
import Derived.Test.YtnookalplejneaaDoorPteLaid
import Derived.Deep.Slices
namespace Go.Proofs.YtnookalplejneaaDoor
open Go.RowKit Words FieldMath PteMath

open Go.ChangeShapes Go.WideShapes Go.ChangeAt
/-- A slice of entries to be laid: an empty one, or one that lies somewhere. -/
def IsLays (W : World) (l : List LayD) (v : Value) : Prop := (l = [] ∧ ∃ s c, v = .slice s 0 c) ∨ ∃ b off cap, v = .slice (some ⟨b, off, none⟩) l.length cap ∧ LaysAt W b off l
theorem fits_int {ks : List Frame.Kd} {cs : List Value} (h : Frame.Fits (.inl .i64 :: ks) cs) : ∃ (z : Int) (l : List Value), cs = .int .i64 z :: l ∧ Frame.Fits ks l := by
  cases cs with
  | nil => exact h.elim
  | cons c l =>
    obtain ⟨⟨z, hz, _⟩, h2⟩ := h
    exact ⟨z, l, by rw [hz], h2⟩
set_option maxRecDepth 100000 in
theorem open_layd {cs : List Value} (h : Frame.Fits [.inl .i64, .inl .i64, .inr false, .inr false, .inr false, .inr false, .inr false, .inr false, .inr false, .inr false, .inr false, .inr false, .inr false, .inr false, .inl .u64] cs) : ∃ d : LayD, cs = d.cells := by
  obtain ⟨f, l0, e0, h⟩ := fits_int h
  obtain ⟨i, l1, e1, h⟩ := fits_int h
  obtain ⟨b0, b1, b2, b3, b4, b5, b6, b7, b8, b9, b10, b11, F, e2⟩ := open_ent h
  exact ⟨⟨f, i, b0, b1, b2, b3, b4, b5, b6, b7, b8, b9, b10, b11, F⟩, by rw [e0, e1, e2]; rfl⟩
set_option maxRecDepth 100000 in
set_option maxHeartbeats 4000000 in
theorem open_lays {H : Type} {enc : TypeId × Value → H} {W : World} {base : Nat} {v : Value} {d : DataW H} {ps : List MemPlace} (hv : Value.okWide Tryd.prog W .any base 22 v) (h : DataW.Trod enc Tryd.prog W 0 (fun _ => true) true 22 v d ps) : ∃ l, IsLays W l v := by
  obtain ⟨sa, len, cap, rfl⟩ := okWide_slice Tryd.underlying22 hv
  obtain ⟨fuel, hf⟩ := h
  rcases Deep.open_slice Tryd.underlying22 hf with ⟨hcs, _⟩ | ⟨ad, len', cap', m, n, D, Pl, hcs, _, hl, hm, hmm, _, hi⟩
  · simp [Value.cells] at hcs
    obtain ⟨rfl, rfl, rfl⟩ := hcs
    exact ⟨[], .inl ⟨rfl, _, _, rfl⟩⟩
  · simp [Value.cells] at hcs
    obtain ⟨rfl, rfl, rfl⟩ := hcs
    have hmc : m = cap := by simpa using hmm
    obtain ⟨l, hll, hp⟩ := Frame.list_choose len (fun k (p : LayD) => ∀ j v, p.cells[j]? = some v → W.cell? (ad.add (k * 15 + j)) = some v) (fun k hk => by
      obtain ⟨cs', hc, ht⟩ := hi k (by omega)
      have hfit := Frame.fits_of 4 54 [.inl .i64, .inl .i64, .inr false, .inr false, .inr false, .inr false, .inr false, .inr false, .inr false, .inr false, .inr false, .inr false, .inr false, .inr false, .inl .u64] _ _ _ (by kernel_rfl) ht
      have h3 : Tryd.prog.cellsOf 54 = 15 := by kernel_rfl
      rw [h3] at hc
      obtain ⟨_, hcl, hat⟩ := World.cells?_some hc
      obtain ⟨d, rfl⟩ := open_layd hfit
      refine ⟨d, fun j v hv => ?_⟩
      have hj : j < 15 := (List.getElem?_eq_some_iff.1 hv).1
      have := hat j hj
      rw [Deep.add_add] at this
      rw [this]
      exact hv)
    subst hll
    cases l with
    | nil => exact ⟨[], .inl ⟨rfl, _, _, rfl⟩⟩
    | cons x l =>
      have h0 := hp 0 (by simp) 0 _ rfl
      have hspot : ad.spot = none := by
        have := World.cell?_spot h0
        simpa [Addr.add] using this
      obtain ⟨b, off, spot⟩ := ad
      simp only at hspot
      subst hspot
      have ea : ∀ j, (⟨b, off, none⟩ : Addr).add j = ⟨b, off + j, none⟩ := fun j => by unfold Addr.add; split <;> simp_all
      refine ⟨x :: l, .inr ⟨b, off, cap, rfl, fun k d j v h1 h2 => ?_⟩⟩
      have hk : k < (x :: l).length := (List.getElem?_eq_some_iff.1 h1).1
      have := hp k hk j v (by rw [(List.getElem?_eq_some_iff.1 h1).2]; exact h2)
      rw [ea, ← Nat.add_assoc] at this
      exact this
/-- What laid answers for it, in a world in which what was there is as it was. -/
theorem laid_arg {w : World} {l : List LayD} {v : Value} (h : IsLays w l v) (hT : Tab w) : ∀ W, Below w.heap.size w W → Calls Tryd.prog 8 #[v] W (fun e W' => ∃ R N sa na ca sb nb cb, e = .returned (.tuple #[.pointer (some ⟨R, 0, none⟩), .agg #[.int .i64 8, .slice sa na ca, .slice sb nb cb, .slice none 0 0]]) ∧ MemW W' R N 8 (laidM (l.take 60)) ∧ Sl W' sa na ca (numA (laidR (l.take 60))) ∧ Sl W' sb nb cb (numV (laidR (l.take 60))) ∧ Below W.heap.size W W' ∧ W.heap.size ≤ R ∧ W.heap.size ≤ N) := fun W hb => by
  rcases h with ⟨rfl, s, c, rfl⟩ | ⟨b, off, cap, rfl, hl⟩
  · exact laid_nil s c W
  · exact laid_some b off cap l W (hT.behind hb) (la_be hb hl)
end Go.Proofs.YtnookalplejneaaDoor
