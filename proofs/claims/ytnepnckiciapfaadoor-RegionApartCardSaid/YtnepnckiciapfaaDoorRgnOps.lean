/-
  Add, Hold, Drop on lists; what is found can be added.
-/
import Derived.Test.YtnepnckiciapfaaDoorRgnAdd
import Derived.Test.YtnepnckiciapfaaDoorRgnHold
import Derived.Test.YtnepnckiciapfaaDoorRgnFind
namespace Go.Proofs.YtnepnckiciapfaaDoor
open Go.RowKit RgnMath BoundsMath

theorem low_stop {l x : Nat} : ∀ (ws : List (Nat × Nat)) (base p : Nat), lowF l x base ws = some p → ∃ w ∈ ws, p + l ≤ w.1
  | [], _, _, h => by simp [lowF] at h
  | w :: ws, base, p, h => by
    unfold lowF at h
    split at h
    · rename_i h1
      injection h with h
      subst h
      exact ⟨w, by simp, h1⟩
    · split at h
      · obtain ⟨v, hv, h2⟩ := low_stop ws _ p h
        exact ⟨v, by simp [hv], h2⟩
      · obtain ⟨v, hv, h2⟩ := low_stop ws _ p h
        exact ⟨v, by simp [hv], h2⟩
/-- What is so of a span that is found. -/
structure Found (L : List Rg) (rb rt l p : Nat) : Prop where
  lo : rb ≤ p
  hi : p + l ≤ rt
  b : p % 4096 = 0
  t : (p + l) % 4096 = 0
  ne : p < p + l
  ap : apart L p (p + l)
theorem found {L : List Rg} {rb rt n l x p : Nat} (hA : Asc L) (hI : Inside L rb rt) (hrt : rt ≤ 274877906944) (hs : Shape n l x) (h : lowF l x (up rb x) (wallsF L rt) = some p) : Found L rb rt l p ∧ p % 2 ^ x = 0 := by
  have hl := hs.pos
  obtain ⟨h1, h2, h3⟩ := low_spec hl _ _ _ h (up_mod _ _) (walls_ne hA hrt) (walls_pw hA hI)
  have h4 := up_le rb x
  obtain ⟨w, hw, h5⟩ := low_stop _ _ _ h
  have hmem : (rt, 18446744073709551615) ∈ wallsF L rt := by unfold wallsF; simp
  have h6 : w.1 ≤ 274877906944 := by
    unfold wallsF at hw
    rcases List.mem_append.1 hw with h7 | h7
    · obtain ⟨q, hq, rfl⟩ := List.mem_map.1 h7
      have h8 := hA.ne q hq
      have h9 := hA.le q hq
      show q.b ≤ _
      omega
    · simp only [List.mem_singleton] at h7
      subst h7
      exact hrt
  have h7 := h3 _ hmem
  simp only at h7
  have hp := step_page hs.x12 h2
  refine ⟨⟨by omega, by omega, hp, ?_, by omega, fun r hr => ?_⟩, h2⟩
  · rw [Nat.add_mod, hp, hs.page]
  · exact h3 (r.b, r.t) (by unfold wallsF; exact List.mem_append_left _ (List.mem_map.2 ⟨r, hr, rfl⟩))
theorem found_paged {L : List Rg} {rb rt l p : Nat} (h : Found L rb rt l p) : pagedB p (p + l) = true := by
  unfold pagedB
  rw [decide_eq_true h.ne, decide_eq_true h.b, decide_eq_true h.t]
  rfl
theorem found_within {L : List Rg} {rb rt l p : Nat} (h : Found L rb rt l p) : withinB p (p + l) rb rt = true := by
  unfold withinB
  rw [decide_eq_true h.lo, decide_eq_true h.hi]
  rfl
theorem found_free {L : List Rg} {rb rt l p : Nat} (h : Found L rb rt l p) : freeF L p (p + l) = true := free_of_apart h.ap
theorem put_inside {L : List Rg} {rb rt l p : Nat} (h : Found L rb rt l p) (hI : Inside L rb rt) : Inside (putF L p (p + l)) rb rt := by
  intro r hr
  unfold putF at hr
  rcases List.mem_append.1 hr with h1 | h1
  · exact hI r (List.mem_of_mem_take h1)
  · rcases List.mem_cons.1 h1 with rfl | h2
    · exact ⟨h.lo, h.hi⟩
    · exact hI r (List.mem_of_mem_drop h2)
theorem hold_inside {L : List Rg} {rb rt i : Nat} {r : Rg} (hr : L[i]? = some r) (hI : Inside L rb rt) : Inside (holdF L i r) rb rt := by
  intro s hs
  unfold holdF at hs
  rcases List.mem_or_eq_of_mem_set hs with h1 | rfl
  · exact hI s h1
  · exact hI r (List.mem_of_getElem? hr)
theorem drop_inside {L : List Rg} {rb rt : Nat} (i : Nat) (hI : Inside L rb rt) : Inside (dropF L i) rb rt := fun r hr => hI r ((drop_sub L i).subset hr)

theorem add_any (rb rt b t : Nat) (v : Value) (L : List Rg) (hA : Asc L) (hn : L.length ≤ 999) (hp : pagedB b t = true) (hw : withinB b t rb rt = true) (hf : freeF L b t = true) (w : World) (h : Lst w v L) :
    Calls Tryd.prog 9 #[.agg #[.int .u64 (rb : Int), .int .u64 (rt : Int), v], .agg #[.int .u64 (b : Int), .int .u64 (t : Int)]] w fun e w' => ∃ v', e = .returned (.tuple #[.agg #[.int .u64 (rb : Int), .int .u64 (rt : Int), v'], .int .i64 0]) ∧ Lst w' v' (putF L b t) ∧ Below w.heap.size w w' := by
  obtain ⟨sa, n, c, rfl, hl⟩ := lst_one h
  refine add_of (rb : Int) (rt : Int) (b : Int) (t : Int) (aboveF L b : Int) n c (aboveF L b) b t sa L w h hl (by omega) rfl (above_le L b) rfl rfl (fun r hr => ?_)
    (fun W => by have := paged_any b t W; rwa [hp] at this) (fun W => by have := within_any b t rb rt W; rwa [hw] at this) (fun W hW => above_any rb rt b _ L hA (by omega) W hW)
  unfold freeF at hf
  rw [hr] at hf
  simp only [decide_eq_true_eq] at hf
  omega
/-- Hold, Drop on lists: the list, and the number told. -/
def opHold (L : List Rg) (b t : Nat) : List Rg × Nat := match idxF L ⟨b, t, 1⟩ with
  | some i => (holdF L i ⟨b, t, 1⟩, 0)
  | none => (L, 13)
def opDrop (L : List Rg) (b t : Nat) : List Rg × Nat := match idxF L ⟨b, t, 2⟩ with
  | some i => (dropF L i, 0)
  | none => (L, 13)
theorem hold_any (rb rt b t : Nat) (v : Value) (L : List Rg) (hn : L.length ≤ 1000) (w : World) (h : Lst w v L) :
    Calls Tryd.prog 10 #[.agg #[.int .u64 (rb : Int), .int .u64 (rt : Int), v], .agg #[.int .u64 (b : Int), .int .u64 (t : Int)]] w fun e w' => ∃ v', e = .returned (.tuple #[.agg #[.int .u64 (rb : Int), .int .u64 (rt : Int), v'], .int .i64 ((opHold L b t).2 : Int)]) ∧ Lst w' v' (opHold L b t).1 ∧ Below w.heap.size w w' := by
  have ci := fun W hW => index_any v L ⟨b, t, 1⟩ W hn hW
  obtain ⟨sa, n, c, rfl, hl⟩ := lst_one h
  unfold opHold
  cases hi : idxF L ⟨b, t, 1⟩ with
  | none =>
    rw [hi] at ci
    refine (hold_none (rb : Int) (rt : Int) (b : Int) (t : Int) n c sa L w h ci).mono ?_
    rintro e w' ⟨rfl, hb⟩
    exact ⟨_, rfl, lst_be hb h, hb⟩
  | some i =>
    rw [hi] at ci
    exact hold_of (rb : Int) (rt : Int) (b : Int) (t : Int) (i : Int) i n c sa L _ w h hn (idx_some hi) rfl ci
theorem drop_any (rb rt b t : Nat) (v : Value) (L : List Rg) (hn : L.length ≤ 1000) (w : World) (h : Lst w v L) :
    Calls Tryd.prog 11 #[.agg #[.int .u64 (rb : Int), .int .u64 (rt : Int), v], .agg #[.int .u64 (b : Int), .int .u64 (t : Int)]] w fun e w' => ∃ v', e = .returned (.tuple #[.agg #[.int .u64 (rb : Int), .int .u64 (rt : Int), v'], .int .i64 ((opDrop L b t).2 : Int)]) ∧ Lst w' v' (opDrop L b t).1 ∧ Below w.heap.size w w' := by
  have ci := fun W hW => index_any v L ⟨b, t, 2⟩ W hn hW
  obtain ⟨sa, n, c, rfl, hl⟩ := lst_one h
  unfold opDrop
  cases hi : idxF L ⟨b, t, 2⟩ with
  | none =>
    rw [hi] at ci
    refine (drop_none (rb : Int) (rt : Int) (b : Int) (t : Int) n c sa L w h ci).mono ?_
    rintro e w' ⟨rfl, hb⟩
    exact ⟨_, rfl, lst_be hb h, hb⟩
  | some i =>
    rw [hi] at ci
    exact drop_of (rb : Int) (rt : Int) (b : Int) (t : Int) (i : Int) i n c sa L w h hn (idx_lt hi) rfl ci
/-- What is so of a map in a room, and stays so. -/
structure Good (L : List Rg) (rb rt k : Nat) : Prop where
  asc : Asc L
  ins : Inside L rb rt
  len : L.length ≤ k
theorem good_nil (rb rt : Nat) : Good [] rb rt 0 := ⟨asc_nil, fun r hr => by simp at hr, by simp⟩
theorem good_put {L : List Rg} {rb rt k l p : Nat} (h : Good L rb rt k) (hrt : rt ≤ 274877906944) (hf : Found L rb rt l p) : Good (putF L p (p + l)) rb rt (k + 1) :=
  ⟨put_asc h.asc hf.ne (by have := hf.hi; omega) (found_free hf), put_inside hf h.ins, by have := h.len; rw [put_len]; omega⟩
theorem good_hold {L : List Rg} {rb rt k : Nat} (h : Good L rb rt k) (b t : Nat) : Good (opHold L b t).1 rb rt k := by
  unfold opHold
  cases hi : idxF L ⟨b, t, 1⟩ with
  | none => exact h
  | some i => exact ⟨hold_asc h.asc (idx_some hi), hold_inside (idx_some hi) h.ins, by rw [hold_len]; exact h.len⟩
theorem good_drop {L : List Rg} {rb rt k : Nat} (h : Good L rb rt k) (b t : Nat) : Good (opDrop L b t).1 rb rt k := by
  unfold opDrop
  cases hi : idxF L ⟨b, t, 2⟩ with
  | none => exact h
  | some i => exact ⟨drop_asc h.asc i, drop_inside i h.ins, by have := h.len; rw [drop_len (idx_lt hi)]; omega⟩
theorem good_more {L : List Rg} {rb rt k m : Nat} (h : Good L rb rt k) (hk : k ≤ m) : Good L rb rt m := ⟨h.asc, h.ins, Nat.le_trans h.len hk⟩
theorem hold_put {L : List Rg} {b t : Nat} (hbt : b < t) : opHold (putF L b t) b t = (holdF (putF L b t) (aboveF L b) ⟨b, t, 1⟩, 0) := by
  unfold opHold
  rw [put_idx hbt]
theorem drop_hold {L : List Rg} {b t : Nat} (hbt : b < t) : opDrop (holdF (putF L b t) (aboveF L b) ⟨b, t, 1⟩) b t = (L, 0) := by
  unfold opDrop
  rw [hold_idx hbt]
  show (dropF _ _, 0) = _
  rw [back]
end Go.Proofs.YtnepnckiciapfaaDoor
