/-
  A slice of steps as it is handed in: each with a slice of bytes of its own.
-/
import Derived.Test.YtadhjgjemndnpaaBlkStr
import Derived.Deep.Slices
namespace Go.Proofs.Ytadhjgjemndnpaa
open Go.RowKit

open Go.ChangeShapes Go.WideShapes Go.ChangeAt
/-- A step; raw: its slice of bytes, L: what bytes it has. -/
structure ActD where
  kind : Int
  n : Int
  place : Int
  b : UInt8
  raw : Value
  L : List UInt8
def ActD.cells (d : ActD) : List Value := [.int .i64 d.kind, .int .i64 d.n, .int .i64 d.place, .int .u8 (d.b.toNat : Int), d.raw]
/-- A slice of these bytes: an empty one, or one that lies somewhere. -/
def RawAt (W : World) (v : Value) (L : List UInt8) : Prop := (L = [] ∧ ∃ s c, v = .slice s 0 c) ∨ ∃ b o cap, v = .slice (some ⟨b, o, none⟩) L.length cap ∧ W.rangeAt b o (cellsB L)
theorem raw_be {W W' : World} {v : Value} {L : List UInt8} (hb : Below W.heap.size W W') (h : RawAt W v L) : RawAt W' v L := by
  rcases h with h | ⟨b, o, cap, h1, h2⟩
  · exact .inl h
  · exact .inr ⟨b, o, cap, h1, fun j u hu => c_be hb (h2 j u hu)⟩
theorem raw_form {W : World} {v : Value} {L : List UInt8} (h : RawAt W v L) : ∃ s cap, v = .slice s L.length cap ∧ (L.length = 4096 → ∃ b o, s = some ⟨b, o, none⟩ ∧ W.rangeAt b o (cellsB L)) := by
  rcases h with ⟨rfl, s, c, rfl⟩ | ⟨b, o, cap, rfl, h2⟩
  · exact ⟨s, c, rfl, fun h => by simp at h⟩
  · exact ⟨_, cap, rfl, fun _ => ⟨b, o, rfl, h2⟩⟩
def ActsAt (W : World) (b off : Nat) (l : List ActD) : Prop := ∀ k d j v, l[k]? = some d → d.cells[j]? = some v → W.cell? ⟨b, off + k * 5 + j, none⟩ = some v
/-- A slice of steps: an empty one, or one that lies somewhere. -/
def IsActs (W : World) (l : List ActD) (v : Value) : Prop := (∀ d ∈ l, RawAt W d.raw d.L) ∧ ((l = [] ∧ ∃ s c, v = .slice s 0 c) ∨ ∃ b off cap, v = .slice (some ⟨b, off, none⟩) l.length cap ∧ ActsAt W b off l)
theorem acts_form {W : World} {l : List ActD} {v : Value} (h : IsActs W l v) : ∃ s cap, v = .slice s l.length cap ∧ ∀ k d, l[k]? = some d → ∃ b off, s = some ⟨b, off, none⟩ ∧ RawAt W d.raw d.L ∧ ∀ j v, d.cells[j]? = some v → W.cell? ⟨b, off + k * 5 + j, none⟩ = some v := by
  obtain ⟨hr, h⟩ := h
  rcases h with ⟨rfl, s, c, rfl⟩ | ⟨b, off, cap, rfl, hl⟩
  · exact ⟨s, c, rfl, fun k d hd => by simp at hd⟩
  · exact ⟨_, cap, rfl, fun k d hd => ⟨b, off, rfl, hr d (List.mem_of_getElem? hd), fun j v hv => hl k d j v hd hv⟩⟩

section
variable {H : Type} {enc : TypeId × Value → H} {W : World}
/-- A slice of bytes that is read. -/
theorem open_raw {base fuel : Nat} {held : Bool} {cs : List Value} {x : DataW H × List MemPlace} (h : DataW.trod enc Try.prog W base (fun _ => true) held fuel 33 cs = some x) : ∃ v L, cs = [v] ∧ RawAt W v L := by
  rcases Deep.open_slice1 Try.underlying33 (by kernel_rfl) h with ⟨hcs, _⟩ | ⟨ad, len, cap, m, n, V, D, Pl, hcs, _, hl, hm, hmm, _, hi⟩
  · exact ⟨_, [], hcs, .inl ⟨rfl, _, _, rfl⟩⟩
  · have hmc : m = cap := by simpa using hmm
    obtain ⟨L, hL, hp⟩ := Frame.list_choose len (fun k (b : UInt8) => W.cell? (ad.add k) = some (.int .u8 (b.toNat : Int))) (fun k hk => by
      obtain ⟨h1, h2⟩ := hi k (by omega)
      obtain ⟨z, ez, _, hw⟩ := DataW.trod_int Try.underlying5 h2
      obtain ⟨X, rfl⟩ := wf_u8 hw
      refine ⟨X, ?_⟩
      rw [h1]
      simpa using ez)
    refine ⟨_, L, hcs, ?_⟩
    subst hL
    cases L with
    | nil => exact .inl ⟨rfl, _, _, rfl⟩
    | cons y L =>
      have h0 := hp 0 (by simp)
      have hspot : ad.spot = none := by
        have := World.cell?_spot h0
        simpa [Addr.add] using this
      obtain ⟨b, off, spot⟩ := ad
      simp only at hspot
      subst hspot
      refine .inr ⟨b, off, cap, rfl, fun k v hv => ?_⟩
      obtain ⟨u, hu, rfl⟩ := cellsB_at hv
      have hk : k < (y :: L).length := (List.getElem?_eq_some_iff.1 hu).1
      have := hp k hk
      rw [Addr.add_mid, (List.getElem?_eq_some_iff.1 hu).2] at this
      exact this
theorem xs_some {α : Type} {xs : List α} {i n : Nat} (h : xs.length = n) (hi : i < n) : ∃ x, xs[i]? = some x := ⟨xs[i], by rw [List.getElem?_eq_getElem (by omega)]⟩
/-- A step that is read. -/
theorem open_actd {base fuel : Nat} {held : Bool} {cs : List Value} {x : DataW H × List MemPlace} (h : DataW.trod enc Try.prog W base (fun _ => true) held fuel 35 cs = some x) : ∃ d : ActD, cs = d.cells ∧ RawAt W d.raw d.L := by
  obtain ⟨xs, n, _, _, hcl, hxl, hel⟩ := DataW.trod_struct Try.underlying35 h
  have h5 : Try.prog.cellsOf 35 = 5 := by kernel_rfl
  have hi1 : Try.prog.cellsOf 3 = 1 := by kernel_rfl
  have hb1 : Try.prog.cellsOf 5 = 1 := by kernel_rfl
  have hs1 : Try.prog.cellsOf 33 = 1 := by kernel_rfl
  rw [h5] at hcl
  have e0 : DataW.trod enc Try.prog W base (fun _ => true) held n 3 ((cs.drop 0).take (Try.prog.cellsOf 3)) = xs[0]? := hel 0 _ rfl
  have e1 : DataW.trod enc Try.prog W base (fun _ => true) held n 3 ((cs.drop 1).take (Try.prog.cellsOf 3)) = xs[1]? := hel 1 _ rfl
  have e2 : DataW.trod enc Try.prog W base (fun _ => true) held n 3 ((cs.drop 2).take (Try.prog.cellsOf 3)) = xs[2]? := hel 2 _ rfl
  have e3 : DataW.trod enc Try.prog W base (fun _ => true) held n 5 ((cs.drop 3).take (Try.prog.cellsOf 5)) = xs[3]? := hel 3 _ rfl
  have e4 : DataW.trod enc Try.prog W base (fun _ => true) held n 33 ((cs.drop 4).take (Try.prog.cellsOf 33)) = xs[4]? := hel 4 _ rfl
  obtain ⟨x0, hx0⟩ := xs_some (i := 0) hxl (by decide)
  obtain ⟨x1, hx1⟩ := xs_some (i := 1) hxl (by decide)
  obtain ⟨x2, hx2⟩ := xs_some (i := 2) hxl (by decide)
  obtain ⟨x3, hx3⟩ := xs_some (i := 3) hxl (by decide)
  obtain ⟨x4, hx4⟩ := xs_some (i := 4) hxl (by decide)
  rw [hx0] at e0
  rw [hx1] at e1
  rw [hx2] at e2
  rw [hx3] at e3
  rw [hx4] at e4
  rw [hi1] at e0 e1 e2
  rw [hb1] at e3
  rw [hs1] at e4
  match cs, hcl with
  | [c0, c1, c2, c3, c4], _ =>
    obtain ⟨z0, q0, _, _⟩ := DataW.trod_int Try.underlying3 e0
    obtain ⟨z1, q1, _, _⟩ := DataW.trod_int Try.underlying3 e1
    obtain ⟨z2, q2, _, _⟩ := DataW.trod_int Try.underlying3 e2
    obtain ⟨z3, q3, _, w3⟩ := DataW.trod_int Try.underlying5 e3
    obtain ⟨v, L, q4, hL⟩ := open_raw e4
    obtain ⟨X, rfl⟩ := wf_u8 w3
    simp at q0 q1 q2 q3 q4
    exact ⟨⟨z0, z1, z2, X, v, L⟩, by rw [q0, q1, q2, q3, q4]; rfl, hL⟩
set_option maxRecDepth 100000 in
set_option maxHeartbeats 4000000 in
theorem open_acts {base : Nat} {v : Value} {d : DataW H} {ps : List MemPlace} (hv : Value.okWide Try.prog W .any base 22 v) (h : DataW.Trod enc Try.prog W 0 (fun _ => true) true 22 v d ps) : ∃ l, IsActs W l v := by
  obtain ⟨sa, len, cap, rfl⟩ := okWide_slice Try.underlying22 hv
  obtain ⟨fuel, hf⟩ := h
  rcases Deep.open_slice Try.underlying22 hf with ⟨hcs, _⟩ | ⟨ad, len', cap', m, n, D, Pl, hcs, _, hl, hm, hmm, _, hi⟩
  · simp [Value.cells] at hcs
    obtain ⟨rfl, rfl, rfl⟩ := hcs
    exact ⟨[], by simp, .inl ⟨rfl, _, _, rfl⟩⟩
  · simp [Value.cells] at hcs
    obtain ⟨rfl, rfl, rfl⟩ := hcs
    have hmc : m = cap := by simpa using hmm
    obtain ⟨l, hll, hp⟩ := Frame.list_choose len (fun k (p : ActD) => RawAt W p.raw p.L ∧ ∀ j v, p.cells[j]? = some v → W.cell? (ad.add (k * 5 + j)) = some v) (fun k hk => by
      obtain ⟨cs', hc, ht⟩ := hi k (by omega)
      have h3 : Try.prog.cellsOf 35 = 5 := by kernel_rfl
      rw [h3] at hc
      obtain ⟨_, hcl, hat⟩ := World.cells?_some hc
      obtain ⟨d, rfl, hr⟩ := open_actd ht
      refine ⟨d, hr, fun j v hv => ?_⟩
      have hj : j < 5 := (List.getElem?_eq_some_iff.1 hv).1
      have := hat j hj
      rw [Deep.add_add] at this
      rw [this]
      exact hv)
    subst hll
    refine ⟨l, fun d hd => ?_, ?_⟩
    · obtain ⟨k, hk, rfl⟩ := List.getElem_of_mem hd
      exact (hp k hk).1
    cases l with
    | nil => exact .inl ⟨rfl, _, _, rfl⟩
    | cons x l =>
      have h0 := (hp 0 (by simp)).2 0 _ rfl
      have hspot : ad.spot = none := by
        have := World.cell?_spot h0
        simpa [Addr.add] using this
      obtain ⟨b, off, spot⟩ := ad
      simp only at hspot
      subst hspot
      have ea : ∀ j, (⟨b, off, none⟩ : Addr).add j = ⟨b, off + j, none⟩ := fun j => by unfold Addr.add; split <;> simp_all
      refine .inr ⟨b, off, cap, rfl, fun k d j v h1 h2 => ?_⟩
      have hk : k < (x :: l).length := (List.getElem?_eq_some_iff.1 h1).1
      have := (hp k hk).2 j v (by rw [(List.getElem?_eq_some_iff.1 h1).2]; exact h2)
      rw [ea, ← Nat.add_assoc] at this
      exact this
end
end Go.Proofs.Ytadhjgjemndnpaa
