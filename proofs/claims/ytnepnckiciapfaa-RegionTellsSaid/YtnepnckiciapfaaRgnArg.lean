/-
  A slice of steps as it is handed in; a map in a box.
-/
import Derived.Test.YtnepnckiciapfaaRgnLib2
import Derived.Deep.Slices
namespace Go.Proofs.Ytnepnckiciapfaa
open Go.RowKit RgnMath

open Go.ChangeShapes Go.WideShapes Go.ChangeAt
/-- A step. -/
structure ActD where
  kind : Int
  pick : Int
  n : BitVec 64
  s1 : BitVec 64
  s2 : BitVec 64
def ActD.cells (d : ActD) : List Value := [.int .i64 d.kind, .int .i64 d.pick, .int .u64 (d.n.toNat : Int), .int .u64 (d.s1.toNat : Int), .int .u64 (d.s2.toNat : Int)]
def ActsAt (W : World) (b off : Nat) (l : List ActD) : Prop := ∀ k d j v, l[k]? = some d → d.cells[j]? = some v → W.cell? ⟨b, off + k * 5 + j, none⟩ = some v
/-- A slice of steps: an empty one, or one that lies somewhere. -/
def IsActs (W : World) (l : List ActD) (v : Value) : Prop := (l = [] ∧ ∃ s c, v = .slice s 0 c) ∨ ∃ b off cap, v = .slice (some ⟨b, off, none⟩) l.length cap ∧ ActsAt W b off l
theorem acts_form {W : World} {l : List ActD} {v : Value} (h : IsActs W l v) : ∃ s cap, v = .slice s l.length cap ∧ ∀ k d, l[k]? = some d → ∃ b off, s = some ⟨b, off, none⟩ ∧ ∀ j v, d.cells[j]? = some v → W.cell? ⟨b, off + k * 5 + j, none⟩ = some v := by
  rcases h with ⟨rfl, s, c, rfl⟩ | ⟨b, off, cap, rfl, hl⟩
  · exact ⟨s, c, rfl, fun k d hd => by simp at hd⟩
  · exact ⟨_, cap, rfl, fun k d hd => ⟨b, off, rfl, fun j v hv => hl k d j v hd hv⟩⟩
theorem fits_int {ks : List Frame.Kd} {cs : List Value} (h : Frame.Fits (.inl .i64 :: ks) cs) : ∃ (z : Int) (l : List Value), cs = .int .i64 z :: l ∧ Frame.Fits ks l := by
  cases cs with
  | nil => exact h.elim
  | cons c l =>
    obtain ⟨⟨z, hz, _⟩, h2⟩ := h
    exact ⟨z, l, by rw [hz], h2⟩
theorem fits_w {ks : List Frame.Kd} {cs : List Value} (h : Frame.Fits (.inl .u64 :: ks) cs) : ∃ (z : BitVec 64) (l : List Value), cs = .int .u64 (z.toNat : Int) :: l ∧ Frame.Fits ks l := by
  cases cs with
  | nil => exact h.elim
  | cons c l =>
    obtain ⟨⟨z, hz, hw⟩, h2⟩ := h
    obtain ⟨Z, hZ⟩ := Frame.wf_u64 hw
    exact ⟨Z, l, by rw [hz, hZ], h2⟩
theorem open_actd {cs : List Value} (h : Frame.Fits [.inl .i64, .inl .i64, .inl .u64, .inl .u64, .inl .u64] cs) : ∃ d : ActD, cs = d.cells := by
  obtain ⟨f, l0, e0, h⟩ := fits_int h
  obtain ⟨i, l1, e1, h⟩ := fits_int h
  obtain ⟨a, l2, e2, h⟩ := fits_w h
  obtain ⟨n, l3, e3, h⟩ := fits_w h
  obtain ⟨x, l4, e4, h⟩ := fits_w h
  cases l4 with
  | nil => exact ⟨⟨f, i, a, n, x⟩, by rw [e0, e1, e2, e3, e4]; rfl⟩
  | cons c l => exact h.elim
set_option maxRecDepth 100000 in
set_option maxHeartbeats 4000000 in
theorem open_acts {H : Type} {enc : TypeId × Value → H} {W : World} {base : Nat} {v : Value} {d : DataW H} {ps : List MemPlace} (hv : Value.okWide Try.prog W .any base 22 v) (h : DataW.Trod enc Try.prog W 0 (fun _ => true) true 22 v d ps) : ∃ l, IsActs W l v := by
  obtain ⟨sa, len, cap, rfl⟩ := okWide_slice Try.underlying22 hv
  obtain ⟨fuel, hf⟩ := h
  rcases Deep.open_slice Try.underlying22 hf with ⟨hcs, _⟩ | ⟨ad, len', cap', m, n, D, Pl, hcs, _, hl, hm, hmm, _, hi⟩
  · simp [Value.cells] at hcs
    obtain ⟨rfl, rfl, rfl⟩ := hcs
    exact ⟨[], .inl ⟨rfl, _, _, rfl⟩⟩
  · simp [Value.cells] at hcs
    obtain ⟨rfl, rfl, rfl⟩ := hcs
    have hmc : m = cap := by simpa using hmm
    obtain ⟨l, hll, hp⟩ := Frame.list_choose len (fun k (p : ActD) => ∀ j v, p.cells[j]? = some v → W.cell? (ad.add (k * 5 + j)) = some v) (fun k hk => by
      obtain ⟨cs', hc, ht⟩ := hi k (by omega)
      have hfit := Frame.fits_of 6 33 [.inl .i64, .inl .i64, .inl .u64, .inl .u64, .inl .u64] _ _ _ (by kernel_rfl) ht
      have h3 : Try.prog.cellsOf 33 = 5 := by kernel_rfl
      rw [h3] at hc
      obtain ⟨_, hcl, hat⟩ := World.cells?_some hc
      obtain ⟨d, rfl⟩ := open_actd hfit
      refine ⟨d, fun j v hv => ?_⟩
      have hj : j < 5 := (List.getElem?_eq_some_iff.1 hv).1
      have := hat j hj
      rw [Deep.add_add] at this
      rw [this]
      exact hv)
    subst hll
    cases l with
    | nil => exact ⟨[], .inl ⟨rfl, _, _, rfl⟩⟩
    | cons x l =>
      have h0 := hp 0 (by simp) 0 _ rfl
      have hspot : ad.spot = none := by
        have := World.cell?_spot h0
        simpa [Addr.add] using this
      obtain ⟨b, off, spot⟩ := ad
      simp only at hspot
      subst hspot
      have ea : ∀ j, (⟨b, off, none⟩ : Addr).add j = ⟨b, off + j, none⟩ := fun j => by unfold Addr.add; split <;> simp_all
      refine ⟨x :: l, .inr ⟨b, off, cap, rfl, fun k d j v h1 h2 => ?_⟩⟩
      have hk : k < (x :: l).length := (List.getElem?_eq_some_iff.1 h1).1
      have := hp k hk j v (by rw [(List.getElem?_eq_some_iff.1 h1).2]; exact h2)
      rw [ea, ← Nat.add_assoc] at this
      exact this

/-- A map in a box. -/
structure MapAt (W : World) (mb : Nat) (RB RT : Int) (v : Value) (L : List Rg) : Prop where
  row : Row W mb [.int .u64 RB, .int .u64 RT, v]
  own : Own W mb 3
  lst : Lst W v L
theorem ma_be {W W' : World} {mb : Nat} {RB RT : Int} {v : Value} {L : List Rg} (hb : Below W.heap.size W W') (h : MapAt W mb RB RT v L) : MapAt W' mb RB RT v L := ⟨k_be hb h.row, o_be hb h.own, lst_be hb h.lst⟩
theorem ma_dr {W : World} {mb : Nat} {RB RT : Int} {v : Value} {L : List Rg} (k : Nat) (h : MapAt W mb RB RT v L) : MapAt (W.drewN k) mb RB RT v L := ⟨h.row, h.own, h.lst⟩
theorem ma_d1 {W : World} {mb : Nat} {RB RT : Int} {v : Value} {L : List Rg} (h : MapAt W mb RB RT v L) : MapAt W.drew mb RB RT v L := ⟨h.row, h.own, h.lst⟩
theorem ma_al {W : World} {mb : Nat} {RB RT : Int} {v : Value} {L : List Rg} (o : Obj) (h : MapAt W mb RB RT v L) : MapAt (W.alloc o) mb RB RT v L := ma_be (below_alloc (Below.refl _ _) (Nat.le_refl _) o) h
theorem ma_new {W : World} {mb : Nat} {RB RT : Int} {v : Value} {L : List Rg} {t : TypeId} (hb : mb = W.heap.size) (h : Lst W v L) : MapAt (W.alloc (.cells #[.int .u64 RB, .int .u64 RT, v] t)) mb RB RT v L :=
  ⟨row_new hb rfl, o_new hb (by simp), lst_al _ h⟩
theorem MapAt.c0 {W : World} {mb : Nat} {RB RT : Int} {v : Value} {L : List Rg} (h : MapAt W mb RB RT v L) : W.cell? ⟨mb, 0, none⟩ = some (.int .u64 RB) := h.row 0 _ rfl
theorem MapAt.c1 {W : World} {mb : Nat} {RB RT : Int} {v : Value} {L : List Rg} (h : MapAt W mb RB RT v L) : W.cell? ⟨mb, 1, none⟩ = some (.int .u64 RT) := h.row 1 _ rfl
theorem MapAt.c2 {W : World} {mb : Nat} {RB RT : Int} {v : Value} {L : List Rg} (h : MapAt W mb RB RT v L) : W.cell? ⟨mb, 2, none⟩ = some v := h.row 2 _ rfl
/-- A store into a block whose third cell holds a slice turns no list of reservations. -/
theorem lst_box {W : World} {v u s : Value} {L : List Rg} {mb i : Nat} (h : Lst W v L) (hs : ∃ sa n c, s = .slice sa n c) (hc : W.cell? ⟨mb, 2, none⟩ = some s) : Lst (W.setCell ⟨mb, i, none⟩ u) v L := by
  obtain ⟨sa, n, c, rfl⟩ := hs
  rcases h with h | ⟨g, c2, rfl, h2, h3, h4, h5⟩
  · exact .inl h
  · refine .inr ⟨g, c2, rfl, h2, h3, by simpa using h4, ?_⟩
    cases L with
    | nil => exact row_nil
    | cons r L =>
      refine k_set (fun e => ?_) h5
      have h6 := (row_at h5 (i := 0) (r := r) rfl).2.2
      have e2 : mb = g := e
      rw [← e2, show 0 * 3 + 2 = 2 from rfl, hc] at h6
      cases h6
/-- A map is stored into a map's box. -/
theorem ma_store {W : World} {mb : Nat} {RB RT RB2 RT2 : Int} {v v2 : Value} {L L2 : List Rg} (h : MapAt W mb RB RT v L) (h2 : Lst W v2 L2) :
    MapAt (((W.setCell ⟨mb, 0, none⟩ (.int .u64 RB2)).setCell ⟨mb, 1, none⟩ (.int .u64 RT2)).setCell ⟨mb, 2, none⟩ v2) mb RB2 RT2 v2 L2 := by
  have o0 := h.own
  have o1 := o_set (p := ⟨mb, 0, none⟩) (u := .int .u64 RB2) o0
  have o2 := o_set (p := ⟨mb, 1, none⟩) (u := .int .u64 RT2) o1
  have hv : ∃ sa n c, v = .slice sa n c := by
    obtain ⟨sa, n, c, e, _⟩ := lst_one h.lst
    exact ⟨sa, n, c, e⟩
  have c0 := h.c2
  have c1 : (W.setCell ⟨mb, 0, none⟩ (.int .u64 RB2)).cell? ⟨mb, 2, none⟩ = some v := (World.cell?_setCell_other _ _ _ _ (by simp)).trans c0
  have c2 : ((W.setCell ⟨mb, 0, none⟩ (.int .u64 RB2)).setCell ⟨mb, 1, none⟩ (.int .u64 RT2)).cell? ⟨mb, 2, none⟩ = some v := (World.cell?_setCell_other _ _ _ _ (by simp)).trans c1
  refine ⟨fun j u hj => ?_, o_set o2, lst_box (lst_box (lst_box h2 hv c0) hv c1) hv c2⟩
  match j, hj with
  | 0, hj =>
    simp at hj
    subst hj
    refine set_at o2 (by omega) ?_
    rw [if_neg (by omega)]
    refine set_at o1 (by omega) ?_
    rw [if_neg (by omega)]
    refine set_at o0 (by omega) ?_
    rw [if_pos rfl]
  | 1, hj =>
    simp at hj
    subst hj
    refine set_at o2 (by omega) ?_
    rw [if_neg (by omega)]
    refine set_at o1 (by omega) ?_
    rw [if_pos rfl]
  | 2, hj =>
    simp at hj
    subst hj
    refine set_at o2 (by omega) ?_
    rw [if_pos rfl]
  | j + 3, hj => simp at hj
end Go.Proofs.Ytnepnckiciapfaa
