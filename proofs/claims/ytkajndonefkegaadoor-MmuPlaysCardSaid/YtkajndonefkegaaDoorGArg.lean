/-
  Texts laid one behind the other: PteLaid, MmuArg.
-/
import Derived.Test.YtkajndonefkegaaDoorGBase
import Derived.Test.YtkajndonefkegaaDoorGPte
import Derived.Test.YtkajndonefkegaaDoorTie
import Derived.Test.YtkajndonefkegaaDoorCards
import Derived.Test.YtkajndonefkegaaDoorWalkLaid
import Derived.Deep.Slices
set_option maxRecDepth 100000
set_option maxHeartbeats 64000000
namespace Go.Proofs.YtkajndonefkegaaDoor
open Go.RowKit

theorem tab_of_laid {W : World} (h : laidMetH Tryd.prog [("mintmark/pte.places", Rows.laid_mintmark_pte_places)] W) : Tab W := by
  rw [MakeChecks.laidMetH_plain _ _ _ (by kernel_rfl)] at h
  obtain ⟨ps, ⟨g0, t0, cs0, f0, p0, q0, hg0, ht0, hv0, hd0, _, _⟩, _, _⟩ := h
  obtain rfl := Option.some.inj ((show Tryd.prog.globalNamed "mintmark/pte.places" = some 0 by kernel_rfl).symm.trans hg0)
  obtain rfl := Option.some.inj ((show (Tryd.prog.globals[0]?).map (·.type) = some 117 by kernel_rfl).symm.trans ht0)
  have hs := Frame.says_of 4 117 [.inl .i64, .inl .i64, .inl .i64, .inl .i64, .inl .i64, .inl .i64, .inl .i64, .inl .i64, .inl .i64, .inl .i64, .inl .i64, .inl .i64] _ _ _ (by kernel_rfl) hd0
  obtain ⟨l⟩ := cs0
  match l, hs with
  | [_, _, _, _, _, _, _, _, _, _, _, _], ⟨e0, e1, e2, e3, e4, e5, e6, e7, e8, e9, e10, e11, _⟩ =>
    cases e0; cases e1; cases e2; cases e3; cases e4; cases e5; cases e6; cases e7; cases e8; cases e9; cases e10; cases e11
    intro k hk
    match k, hk with
    | 0, _ => simpa [plc] using World.var?_cell hg0 hv0 0
    | 1, _ => simpa [plc] using World.var?_cell hg0 hv0 1
    | 2, _ => simpa [plc] using World.var?_cell hg0 hv0 2
    | 3, _ => simpa [plc] using World.var?_cell hg0 hv0 3
    | 4, _ => simpa [plc] using World.var?_cell hg0 hv0 4
    | 5, _ => simpa [plc] using World.var?_cell hg0 hv0 5
    | 6, _ => simpa [plc] using World.var?_cell hg0 hv0 6
    | 7, _ => simpa [plc] using World.var?_cell hg0 hv0 7
    | 8, _ => simpa [plc] using World.var?_cell hg0 hv0 8
    | 9, _ => simpa [plc] using World.var?_cell hg0 hv0 9
    | 10, _ => simpa [plc] using World.var?_cell hg0 hv0 10
    | 11, _ => simpa [plc] using World.var?_cell hg0 hv0 11
theorem fits_bool {ks : List Frame.Kd} {cs : List Value} (h : Frame.Fits (.inr false :: ks) cs) : ∃ b l, cs = .bool b :: l /\ Frame.Fits ks l := by
  cases cs with
  | nil => exact h.elim
  | cons c l =>
    obtain ⟨⟨b, hb⟩, h2⟩ := h
    exact ⟨b, l, by rw [hb], h2⟩
theorem fits_word {cs : List Value} (h : Frame.Fits [.inl .u64] cs) : ∃ x : BitVec 64, cs = [.int .u64 (x.toNat : Int)] := by
  cases cs with
  | nil => exact h.elim
  | cons c l =>
    obtain ⟨⟨z, hz, hw⟩, h2⟩ := h
    obtain ⟨x, hx⟩ := Frame.wf_u64 hw
    cases l with
    | nil => exact ⟨x, by rw [hz, hx]⟩
    | cons _ _ => exact h2.elim
theorem open_ent {cs : List Value} (h : Frame.Fits [.inr false, .inr false, .inr false, .inr false, .inr false, .inr false, .inr false, .inr false, .inr false, .inr false, .inr false, .inr false, .inl .u64] cs) : ∃ (b0 b1 b2 b3 b4 b5 b6 b7 b8 b9 b10 b11 : Bool) (F : BitVec 64), cs = [.bool b0, .bool b1, .bool b2, .bool b3, .bool b4, .bool b5, .bool b6, .bool b7, .bool b8, .bool b9, .bool b10, .bool b11, .int .u64 (F.toNat : Int)] := by
  obtain ⟨b0, l0, e0, h⟩ := fits_bool h
  obtain ⟨b1, l1, e1, h⟩ := fits_bool h
  obtain ⟨b2, l2, e2, h⟩ := fits_bool h
  obtain ⟨b3, l3, e3, h⟩ := fits_bool h
  obtain ⟨b4, l4, e4, h⟩ := fits_bool h
  obtain ⟨b5, l5, e5, h⟩ := fits_bool h
  obtain ⟨b6, l6, e6, h⟩ := fits_bool h
  obtain ⟨b7, l7, e7, h⟩ := fits_bool h
  obtain ⟨b8, l8, e8, h⟩ := fits_bool h
  obtain ⟨b9, l9, e9, h⟩ := fits_bool h
  obtain ⟨b10, l10, e10, h⟩ := fits_bool h
  obtain ⟨b11, l11, e11, h⟩ := fits_bool h
  obtain ⟨F, e12⟩ := fits_word h
  exact ⟨b0, b1, b2, b3, b4, b5, b6, b7, b8, b9, b10, b11, F, by rw [e0, e1, e2, e3, e4, e5, e6, e7, e8, e9, e10, e11, e12]⟩
theorem door_met (os : Os) (args : Array Value) : laidMetH Tryd.prog [("mintmark/pte.places", Rows.laid_mintmark_pte_places)] ((World.doorLaid Tryd.prog 400 os).forCall (fun _ _ => 0) ⟨#[], args, []⟩).memory :=
  laidMetH_of_parts3 (fuel := 8) (laidMet_of_run' 8 (by kernel_rfl) (by kernel_rfl)) (by kernel_rfl) (by kernel_rfl)
end Go.Proofs.YtkajndonefkegaaDoor

namespace Go.Proofs.YtkajndonefkegaaDoor
open Go.RowKit Words FieldMath PteMath

open Go.ChangeShapes Go.WideShapes Go.ChangeAt
structure ActD where
  kind : Int
  what : Int
  n : Int
  va : BitVec 64
  tag : Bool
  b0 : Bool
  b1 : Bool
  b2 : Bool
  b3 : Bool
  b4 : Bool
  b5 : Bool
  b6 : Bool
  b7 : Bool
  b8 : Bool
  b9 : Bool
  b10 : Bool
  b11 : Bool
  F : BitVec 64
def ActD.cells (d : ActD) : List Value := [.int .i64 d.kind, .int .i64 d.what, .int .i64 d.n, .int .u64 (d.va.toNat : Int), .bool d.tag, .bool d.b0, .bool d.b1, .bool d.b2, .bool d.b3, .bool d.b4, .bool d.b5, .bool d.b6, .bool d.b7, .bool d.b8, .bool d.b9, .bool d.b10, .bool d.b11, .int .u64 (d.F.toNat : Int)]
def ActsAt (W : World) (b off : Nat) (l : List ActD) : Prop := ∀ k d j v, l[k]? = some d -> d.cells[j]? = some v -> W.cell? ⟨b, off + k * 18 + j, none⟩ = some v
def IsActs (W : World) (l : List ActD) (v : Value) : Prop := (l = [] /\ ∃ s c, v = .slice s 0 c) ∨ ∃ b off cap, v = .slice (some ⟨b, off, none⟩) l.length cap /\ ActsAt W b off l
theorem acts_form {W : World} {l : List ActD} {v : Value} (h : IsActs W l v) : ∃ s cap, v = .slice s l.length cap /\ ∀ k d, l[k]? = some d -> ∃ b off, s = some ⟨b, off, none⟩ /\ ∀ j v, d.cells[j]? = some v -> W.cell? ⟨b, off + k * 18 + j, none⟩ = some v := by
  rcases h with ⟨rfl, s, c, rfl⟩ | ⟨b, off, cap, rfl, hl⟩
  · exact ⟨s, c, rfl, fun k d hd => by simp at hd⟩
  · exact ⟨_, cap, rfl, fun k d hd => ⟨b, off, rfl, fun j v hv => hl k d j v hd hv⟩⟩
theorem fits_i {ks : List Frame.Kd} {cs : List Value} (h : Frame.Fits (.inl .i64 :: ks) cs) : ∃ (z : Int) (l : List Value), cs = .int .i64 z :: l /\ Frame.Fits ks l := by
  cases cs with
  | nil => exact h.elim
  | cons c l =>
    obtain ⟨⟨z, hz, _⟩, h2⟩ := h
    exact ⟨z, l, by rw [hz], h2⟩
theorem fits_u {ks : List Frame.Kd} {cs : List Value} (h : Frame.Fits (.inl .u64 :: ks) cs) : ∃ (z : BitVec 64) (l : List Value), cs = .int .u64 (z.toNat : Int) :: l /\ Frame.Fits ks l := by
  cases cs with
  | nil => exact h.elim
  | cons c l =>
    obtain ⟨⟨z, hz, hw⟩, h2⟩ := h
    obtain ⟨Z, hZ⟩ := Frame.wf_u64 hw
    exact ⟨Z, l, by rw [hz, hZ], h2⟩
theorem open_actd {cs : List Value} (h : Frame.Fits [.inl .i64, .inl .i64, .inl .i64, .inl .u64, .inr false, .inr false, .inr false, .inr false, .inr false, .inr false, .inr false, .inr false, .inr false, .inr false, .inr false, .inr false, .inr false, .inl .u64] cs) : ∃ d : ActD, cs = d.cells := by
  obtain ⟨f, l0, e0, h⟩ := fits_i h
  obtain ⟨i, l1, e1, h⟩ := fits_i h
  obtain ⟨m, l2, e2, h⟩ := fits_i h
  obtain ⟨v, l3, e3, h⟩ := fits_u h
  obtain ⟨t, l4, e4, h⟩ := fits_bool h
  obtain ⟨b0, b1, b2, b3, b4, b5, b6, b7, b8, b9, b10, b11, F, e5⟩ := open_ent h
  exact ⟨⟨f, i, m, v, t, b0, b1, b2, b3, b4, b5, b6, b7, b8, b9, b10, b11, F⟩, by rw [e0, e1, e2, e3, e4, e5]; rfl⟩
theorem open_acts {H : Type} {enc : TypeId × Value -> H} {W : World} {base : Nat} {v : Value} {d : DataW H} {ps : List MemPlace} (hv : Value.okWide Tryd.prog W .any base 22 v) (h : DataW.Trod enc Tryd.prog W 0 (fun _ => true) true 22 v d ps) : ∃ l, IsActs W l v := by
  obtain ⟨sa, len, cap, rfl⟩ := okWide_slice Tryd.underlying22 hv
  obtain ⟨fuel, hf⟩ := h
  rcases Deep.open_slice Tryd.underlying22 hf with ⟨hcs, _⟩ | ⟨ad, len', cap', m, n, D, Pl, hcs, _, hl, hm, hmm, _, hi⟩
  · simp [Value.cells] at hcs
    obtain ⟨rfl, rfl, rfl⟩ := hcs
    exact ⟨[], .inl ⟨rfl, _, _, rfl⟩⟩
  · simp [Value.cells] at hcs
    obtain ⟨rfl, rfl, rfl⟩ := hcs
    have hmc : m = cap := by simpa using hmm
    obtain ⟨l, hll, hp⟩ := Frame.list_choose len (fun k (p : ActD) => ∀ j v, p.cells[j]? = some v -> W.cell? (ad.add (k * 18 + j)) = some v) (fun k hk => by
      obtain ⟨cs', hc, ht⟩ := hi k (by omega)
      have hfit := Frame.fits_of 4 50 [.inl .i64, .inl .i64, .inl .i64, .inl .u64, .inr false, .inr false, .inr false, .inr false, .inr false, .inr false, .inr false, .inr false, .inr false, .inr false, .inr false, .inr false, .inr false, .inl .u64] _ _ _ (by kernel_rfl) ht
      have h3 : Tryd.prog.cellsOf 50 = 18 := by kernel_rfl
      rw [h3] at hc
      obtain ⟨_, hcl, hat⟩ := World.cells?_some hc
      obtain ⟨d, rfl⟩ := open_actd hfit
      refine ⟨d, fun j v hv => ?_⟩
      have hj : j < 18 := (List.getElem?_eq_some_iff.1 hv).1
      have := hat j hj
      rw [Deep.add_add] at this
      rw [this]
      exact hv)
    subst hll
    cases l with
    | nil => exact ⟨[], .inl ⟨rfl, _, _, rfl⟩⟩
    | cons x l =>
      have h0 := hp 0 (by simp) 0 _ rfl
      have hspot : ad.spot = none := by
        have := World.cell?_spot h0
        simpa [Addr.add] using this
      obtain ⟨b, off, spot⟩ := ad
      simp only at hspot
      subst hspot
      have ea : ∀ j, (⟨b, off, none⟩ : Addr).add j = ⟨b, off + j, none⟩ := fun j => by unfold Addr.add; split <;> simp_all
      refine ⟨x :: l, .inr ⟨b, off, cap, rfl, fun k d j v h1 h2 => ?_⟩⟩
      have hk : k < (x :: l).length := (List.getElem?_eq_some_iff.1 h1).1
      have := hp k hk j v (by rw [(List.getElem?_eq_some_iff.1 h1).2]; exact h2)
      rw [ea, ← Nat.add_assoc] at this
      exact this
end Go.Proofs.YtkajndonefkegaaDoor
