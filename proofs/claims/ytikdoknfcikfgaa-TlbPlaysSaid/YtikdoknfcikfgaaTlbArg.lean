/-
  A slice of steps as it is handed in.
-/
import Derived.Test.YtikdoknfcikfgaaTlbM
import Derived.Deep.Slices
namespace Go.Proofs.Ytikdoknfcikfgaa
open Go.RowKit

open Go.ChangeShapes Go.WideShapes Go.ChangeAt
/-- A step. -/
structure ActD where
  kind : Int
  place : Int
  a : BitVec 64
  n : BitVec 64
  x : BitVec 64
def ActD.cells (d : ActD) : List Value := [.int .i64 d.kind, .int .i64 d.place, .int .u64 (d.a.toNat : Int), .int .u64 (d.n.toNat : Int), .int .u64 (d.x.toNat : Int)]
/-- The line that a step puts. -/
def ActD.line (d : ActD) : Ln := ((d.a.toNat : Int), (d.n.toNat : Int), (d.x.toNat : Int))
def ActsAt (W : World) (b off : Nat) (l : List ActD) : Prop := ∀ k d j v, l[k]? = some d → d.cells[j]? = some v → W.cell? ⟨b, off + k * 5 + j, none⟩ = some v
/-- A slice of steps: an empty one, or one that lies somewhere. -/
def IsActs (W : World) (l : List ActD) (v : Value) : Prop := (l = [] ∧ ∃ s c, v = .slice s 0 c) ∨ ∃ b off cap, v = .slice (some ⟨b, off, none⟩) l.length cap ∧ ActsAt W b off l
theorem acts_form {W : World} {l : List ActD} {v : Value} (h : IsActs W l v) : ∃ s cap, v = .slice s l.length cap ∧ ∀ k d, l[k]? = some d → ∃ b off, s = some ⟨b, off, none⟩ ∧ ∀ j v, d.cells[j]? = some v → W.cell? ⟨b, off + k * 5 + j, none⟩ = some v := by
  rcases h with ⟨rfl, s, c, rfl⟩ | ⟨b, off, cap, rfl, hl⟩
  · exact ⟨s, c, rfl, fun k d hd => by simp at hd⟩
  · exact ⟨_, cap, rfl, fun k d hd => ⟨b, off, rfl, fun j v hv => hl k d j v hd hv⟩⟩
theorem fits_int {ks : List Frame.Kd} {cs : List Value} (h : Frame.Fits (.inl .i64 :: ks) cs) : ∃ (z : Int) (l : List Value), cs = .int .i64 z :: l ∧ Frame.Fits ks l := by
  cases cs with
  | nil => exact h.elim
  | cons c l =>
    obtain ⟨⟨z, hz, _⟩, h2⟩ := h
    exact ⟨z, l, by rw [hz], h2⟩
theorem fits_w {ks : List Frame.Kd} {cs : List Value} (h : Frame.Fits (.inl .u64 :: ks) cs) : ∃ (z : BitVec 64) (l : List Value), cs = .int .u64 (z.toNat : Int) :: l ∧ Frame.Fits ks l := by
  cases cs with
  | nil => exact h.elim
  | cons c l =>
    obtain ⟨⟨z, hz, hw⟩, h2⟩ := h
    obtain ⟨Z, hZ⟩ := Frame.wf_u64 hw
    exact ⟨Z, l, by rw [hz, hZ], h2⟩
theorem open_actd {cs : List Value} (h : Frame.Fits [.inl .i64, .inl .i64, .inl .u64, .inl .u64, .inl .u64] cs) : ∃ d : ActD, cs = d.cells := by
  obtain ⟨f, l0, e0, h⟩ := fits_int h
  obtain ⟨i, l1, e1, h⟩ := fits_int h
  obtain ⟨a, l2, e2, h⟩ := fits_w h
  obtain ⟨n, l3, e3, h⟩ := fits_w h
  obtain ⟨x, l4, e4, h⟩ := fits_w h
  cases l4 with
  | nil => exact ⟨⟨f, i, a, n, x⟩, by rw [e0, e1, e2, e3, e4]; rfl⟩
  | cons c l => exact h.elim
set_option maxRecDepth 100000 in
set_option maxHeartbeats 4000000 in
theorem open_acts {H : Type} {enc : TypeId × Value → H} {W : World} {base : Nat} {v : Value} {d : DataW H} {ps : List MemPlace} (hv : Value.okWide Try.prog W .any base 22 v) (h : DataW.Trod enc Try.prog W 0 (fun _ => true) true 22 v d ps) : ∃ l, IsActs W l v := by
  obtain ⟨sa, len, cap, rfl⟩ := okWide_slice Try.underlying22 hv
  obtain ⟨fuel, hf⟩ := h
  rcases Deep.open_slice Try.underlying22 hf with ⟨hcs, _⟩ | ⟨ad, len', cap', m, n, D, Pl, hcs, _, hl, hm, hmm, _, hi⟩
  · simp [Value.cells] at hcs
    obtain ⟨rfl, rfl, rfl⟩ := hcs
    exact ⟨[], .inl ⟨rfl, _, _, rfl⟩⟩
  · simp [Value.cells] at hcs
    obtain ⟨rfl, rfl, rfl⟩ := hcs
    have hmc : m = cap := by simpa using hmm
    obtain ⟨l, hll, hp⟩ := Frame.list_choose len (fun k (p : ActD) => ∀ j v, p.cells[j]? = some v → W.cell? (ad.add (k * 5 + j)) = some v) (fun k hk => by
      obtain ⟨cs', hc, ht⟩ := hi k (by omega)
      have hfit := Frame.fits_of 4 38 [.inl .i64, .inl .i64, .inl .u64, .inl .u64, .inl .u64] _ _ _ (by kernel_rfl) ht
      have h3 : Try.prog.cellsOf 38 = 5 := by kernel_rfl
      rw [h3] at hc
      obtain ⟨_, hcl, hat⟩ := World.cells?_some hc
      obtain ⟨d, rfl⟩ := open_actd hfit
      refine ⟨d, fun j v hv => ?_⟩
      have hj : j < 5 := (List.getElem?_eq_some_iff.1 hv).1
      have := hat j hj
      rw [Deep.add_add] at this
      rw [this]
      exact hv)
    subst hll
    cases l with
    | nil => exact ⟨[], .inl ⟨rfl, _, _, rfl⟩⟩
    | cons x l =>
      have h0 := hp 0 (by simp) 0 _ rfl
      have hspot : ad.spot = none := by
        have := World.cell?_spot h0
        simpa [Addr.add] using this
      obtain ⟨b, off, spot⟩ := ad
      simp only at hspot
      subst hspot
      have ea : ∀ j, (⟨b, off, none⟩ : Addr).add j = ⟨b, off + j, none⟩ := fun j => by unfold Addr.add; split <;> simp_all
      refine ⟨x :: l, .inr ⟨b, off, cap, rfl, fun k d j v h1 h2 => ?_⟩⟩
      have hk : k < (x :: l).length := (List.getElem?_eq_some_iff.1 h1).1
      have := hp k hk j v (by rw [(List.getElem?_eq_some_iff.1 h1).2]; exact h2)
      rw [ea, ← Nat.add_assoc] at this
      exact this
end Go.Proofs.Ytikdoknfcikfgaa
