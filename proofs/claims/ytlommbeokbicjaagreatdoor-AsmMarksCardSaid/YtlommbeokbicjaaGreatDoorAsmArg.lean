/-
  A slice of instructions as it is handed in; words that are handed in.
-/
import Derived.Test.YtlommbeokbicjaaGreatDoorAsmLaid
import Derived.Deep.Slices
namespace Go.Proofs.YtlommbeokbicjaaGreatDoor
open Go.RowKit InstMath AsmMath

open Go.ChangeShapes Go.WideShapes Go.ChangeAt
/-- An instruction, whatever its numbers. -/
structure InD where
  K : Int
  a : Int
  b : Int
  c : Int
  m : Int
def InD.cells (d : InD) : List Value := [.int .i64 d.K, .int .i64 d.a, .int .i64 d.b, .int .i64 d.c, .int .i64 d.m]
structure InD.Ok (d : InD) : Prop where
  a : rng d.a
  b : rng d.b
  c : rng d.c
  m : rng d.m
def InsAt (W : World) (b off : Nat) (l : List InD) : Prop := ∀ k d j v, l[k]? = some d → d.cells[j]? = some v → W.cell? ⟨b, off + k * 5 + j, none⟩ = some v
/-- A slice of instructions: an empty one, or one that lies somewhere. -/
def IsIns (W : World) (l : List InD) (v : Value) : Prop := (∀ d ∈ l, d.Ok) ∧ ((l = [] ∧ ∃ s c, v = .slice s 0 c) ∨ ∃ b off cap, v = .slice (some ⟨b, off, none⟩) l.length cap ∧ l.length ≤ cap ∧ InsAt W b off l)
theorem fitsI {ks : List Frame.Kd} {cs : List Value} (h : Frame.Fits (.inl .i64 :: ks) cs) : ∃ (z : Int) (r : List Value), cs = .int .i64 z :: r ∧ rng z ∧ Frame.Fits ks r := by
  cases cs with
  | nil => exact h.elim
  | cons c r =>
    obtain ⟨⟨z, hz, hw⟩, h2⟩ := h
    exact ⟨z, r, by rw [hz], Frame.wf_i64 hw, h2⟩
theorem open_ind {cs : List Value} (h : Frame.Fits [.inl .i64, .inl .i64, .inl .i64, .inl .i64, .inl .i64] cs) : ∃ d : InD, cs = d.cells ∧ d.Ok := by
  obtain ⟨K, l0, e0, _, h⟩ := fitsI h
  obtain ⟨a, l1, e1, ra, h⟩ := fitsI h
  obtain ⟨b, l2, e2, rb, h⟩ := fitsI h
  obtain ⟨c, l3, e3, rc, h⟩ := fitsI h
  obtain ⟨m, l4, e4, rm, h⟩ := fitsI h
  cases l4 with
  | nil => exact ⟨⟨K, a, b, c, m⟩, by rw [e0, e1, e2, e3, e4]; rfl, ra, rb, rc, rm⟩
  | cons c l => exact h.elim
set_option maxRecDepth 100000 in
set_option maxHeartbeats 4000000 in
theorem open_ins {H : Type} {enc : TypeId × Value → H} {W : World} {base : Nat} {v : Value} {d : DataW H} {ps : List MemPlace} (hv : Value.okWide Tryz.prog W .any base 22 v) (h : DataW.Trod enc Tryz.prog W 0 (fun _ => true) true 22 v d ps) : ∃ l, IsIns W l v := by
  obtain ⟨sa, len, cap, rfl⟩ := okWide_slice Tryz.underlying22 hv
  obtain ⟨fuel, hf⟩ := h
  rcases Deep.open_slice Tryz.underlying22 hf with ⟨hcs, _⟩ | ⟨ad, len', cap', m, n, D, Pl, hcs, _, hl, hm, hmm, _, hi⟩
  · simp [Value.cells] at hcs
    obtain ⟨rfl, rfl, rfl⟩ := hcs
    exact ⟨[], fun _ h => by simp at h, .inl ⟨rfl, _, _, rfl⟩⟩
  · simp [Value.cells] at hcs
    obtain ⟨rfl, rfl, rfl⟩ := hcs
    have hmc : m = cap := by simpa using hmm
    obtain ⟨l, hll, hp⟩ := Frame.list_choose len (fun k (p : InD) => p.Ok ∧ ∀ j v, p.cells[j]? = some v → W.cell? (ad.add (k * 5 + j)) = some v) (fun k hk => by
      obtain ⟨cs', hc, ht⟩ := hi k (by omega)
      have hfit := Frame.fits_of 4 28 [.inl .i64, .inl .i64, .inl .i64, .inl .i64, .inl .i64] _ _ _ (by kernel_rfl) ht
      have h3 : Tryz.prog.cellsOf 28 = 5 := by kernel_rfl
      rw [h3] at hc
      obtain ⟨_, hcl, hat⟩ := World.cells?_some hc
      obtain ⟨d, rfl, hd⟩ := open_ind hfit
      refine ⟨d, hd, fun j v hv => ?_⟩
      have hj : j < 5 := (List.getElem?_eq_some_iff.1 hv).1
      have := hat j hj
      rw [Deep.add_add] at this
      rw [this]
      exact hv)
    subst hll
    have hok : ∀ d ∈ l, d.Ok := fun d hd => by
      obtain ⟨k, hk, e⟩ := List.mem_iff_getElem.1 hd
      rw [← e]
      exact (hp k hk).1
    cases l with
    | nil => exact ⟨[], hok, .inl ⟨rfl, _, _, rfl⟩⟩
    | cons x l =>
      have h0 := (hp 0 (by simp)).2 0 _ rfl
      have hspot : ad.spot = none := by
        have := World.cell?_spot h0
        simpa [Addr.add] using this
      obtain ⟨b, off, spot⟩ := ad
      simp only at hspot
      subst hspot
      have ea : ∀ j, (⟨b, off, none⟩ : Addr).add j = ⟨b, off + j, none⟩ := fun j => by unfold Addr.add; split <;> simp_all
      refine ⟨x :: l, hok, .inr ⟨b, off, cap, rfl, hl, fun k d j v h1 h2 => ?_⟩⟩
      have hk : k < (x :: l).length := (List.getElem?_eq_some_iff.1 h1).1
      have := (hp k hk).2 j v (by rw [(List.getElem?_eq_some_iff.1 h1).2]; exact h2)
      rw [ea, ← Nat.add_assoc] at this
      exact this
end Go.Proofs.YtlommbeokbicjaaGreatDoor
