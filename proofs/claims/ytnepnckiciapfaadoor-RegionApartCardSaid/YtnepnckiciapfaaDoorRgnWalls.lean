/-
  The walls: all reservations' spans, and last all above the room.
-/
import Derived.Test.YtnepnckiciapfaaDoorRgnLib2
import Derived.Test.YtnepnckiciapfaaDoorTail2
import Derived.Deep.DeepCutAuto
namespace Go.Proofs.YtnepnckiciapfaaDoor
open Go.RowKit RgnMath

def cellW (p : Nat × Nat) : List Value := [.int .u64 (p.1 : Int), .int .u64 (p.2 : Int)]
def cellsW (l : List (Nat × Nat)) : List Value := l.flatMap cellW
theorem cellsW_len (l : List (Nat × Nat)) : (cellsW l).length = l.length * 2 := by
  unfold cellsW
  induction l with
  | nil => rfl
  | cons x l ih => rw [List.flatMap_cons, List.length_append, ih, List.length_cons]; show 2 + _ = _; omega
theorem cellsW_app (a b : List (Nat × Nat)) : cellsW (a ++ b) = cellsW a ++ cellsW b := by unfold cellsW; rw [List.flatMap_append]
theorem cellsW_get {l : List (Nat × Nat)} {i : Nat} {r : Nat × Nat} (h : l[i]? = some r) (j : Nat) (hj : j < 2) : (cellsW l)[i * 2 + j]? = (cellW r)[j]? := by
  have h1 : l = l.take i ++ r :: l.drop (i + 1) := by
    obtain ⟨hl, rfl⟩ := List.getElem?_eq_some_iff.1 h
    simp
  have hl : i < l.length := (List.getElem?_eq_some_iff.1 h).1
  have h2 : (cellsW (l.take i)).length = i * 2 := by rw [cellsW_len, List.length_take]; omega
  rw [h1, cellsW_app, List.getElem?_append_right (by omega), h2, show i * 2 + j - i * 2 = j by omega]
  unfold cellsW
  rw [List.flatMap_cons, List.getElem?_append_left (by show j < 2; omega)]
theorem rowW_at {W : World} {g : Nat} {l : List (Nat × Nat)} (h : Row W g (cellsW l)) {i : Nat} {r : Nat × Nat} (hr : l[i]? = some r) :
    W.cell? ⟨g, i * 2, none⟩ = some (.int .u64 (r.1 : Int)) ∧ W.cell? ⟨g, i * 2 + 1, none⟩ = some (.int .u64 (r.2 : Int)) :=
  ⟨h _ _ (cellsW_get hr 0 (by omega)), h _ _ (cellsW_get hr 1 (by omega))⟩
theorem info_sp : (Tryd.prog.info? 24).map (fun i => (i.zero, i.size, i.bytes)) = some (some (.agg #[.int .u64 0, .int .u64 0]), 2, 16) := by kernel_rfl
theorem info_sx : ∃ i, Tryd.prog.info? 24 = some i ∧ i.zero = some (.agg #[.int .u64 0, .int .u64 0]) ∧ i.size = 2 ∧ i.bytes = 16 := by
  have h := info_sp
  cases hq : Tryd.prog.info? 24 with
  | none => rw [hq] at h; cases h
  | some i =>
    rw [hq] at h
    simp only [Option.map_some, Option.some.injEq, Prod.mk.injEq] at h
    exact ⟨i, rfl, h.1, h.2.1, h.2.2⟩
theorem cell_two (W : World) (x y : Value) (t : TypeId) {b : Nat} (hb : b = W.heap.size) : ∀ j u, ([x, y] : List Value)[j]? = some u → (W.alloc (.cells #[x, y] t)).cell? ((⟨b, 0, none⟩ : Addr).add j) = some u := by
  intro j u hj
  rw [add_at]
  exact row_new hb rfl j u hj

set_option maxHeartbeats 4000000 in
set_option maxRecDepth 100000 in
theorem walls_row (rb rt g c : Nat) (L : List Rg) (hn : L.length ≤ 1000) (hc : L.length ≤ c) (w : World) (hrow : Row w g (cellsL L)) :
    Calls Tryd.prog 24 #[.agg #[.int .u64 (rb : Int), .int .u64 (rt : Int), .slice (some ⟨g, 0, none⟩) L.length c]] w fun e w' => ∃ v', e = .returned v' ∧ w'.ownsRow w.heap.size 24 2 v' (L.length + 1) (cellsW (wallsF L rt)) ∧ Below w.heap.size w w' := by
  obtain ⟨i0, hi, hz, hs, hb⟩ := info_sx
  have A := hide hrow
  obtain ⟨n, hN⟩ : ∃ n, n = L.length := ⟨_, rfl⟩
  have N := hide hN
  rw [← hN] at hn hc ⊢
  have hgl : L ≠ [] → g < w.heap.size := fun h => by
    cases L with
    | nil => exact absurd rfl h
    | cons r L =>
      exact World.block_lt_of_cell? _ _ (row_at hrow (i := 0) (r := r) rfl).1
  have GL := hide hgl
  have HW : Hid (cellsW (wallsF L rt) = cellsW (L.map (fun r => (r.b, r.t))) ++ cellW (rt, 18446744073709551615)) := hide (by unfold wallsF; rw [cellsW_app]; rfl)
  obtain ⟨RES, hRES⟩ : ∃ RES, RES = cellsW (wallsF L rt) := ⟨_, rfl⟩
  have HR := hide hRES
  rw [← hRES]
  clear hrow hN hgl hRES
  generalize (rb : Int) = RB at *
  go_enter Tryd.func24, Tryd.ntmps24
  go_wp2
  go_loopw [3, 9] (fun s i wr => ∃ j : Nat, j ≤ n ∧ i = .int .i64 (j : Int) ∧ wr.ownsRow (w.heap.size + 1) 24 2 s j (cellsW ((L.take j).map (fun r => (r.b, r.t)))) ∧ Row wr w.heap.size [.int .u64 RB, .int .u64 (rt : Int), .slice (some ⟨g, 0, none⟩) n c] ∧ Row wr g (cellsL L) ∧ Below w.heap.size w wr ∧ w.heap.size + 1 ≤ wr.heap.size) (fun _ i _ => n - (intOf i).toNat)
  case atStart => exact ⟨0, by omega, rfl, World.ownsRow_nil _ _ _ _, row_new rfl rfl, k_al _ A.out, bw_alloc (Below.refl _ _) _, by simp⟩
  case round s =>
    obtain ⟨j, hj, rfl, hown, hbox, hg, hbel, hsz⟩ := hrel
    have c1 := hbox 1 _ rfl
    have c2 := hbox 2 _ rfl
    have hlt := hide hown.lt
    rcases Nat.lt_or_eq_of_le hj with hjl | rfl
    · obtain ⟨r, hr⟩ : ∃ r, L[j]? = some r := ⟨L[j]'(by rw [← N.out]; exact hjl), by simp [← N.out, hjl]⟩
      obtain ⟨d0, d1, d2⟩ := row_at hg hr
      have HG := hide hg
      have HB := hide hbox
      have R := hide hr
      clear hg hbox hr
      have HH : Hid (cellsW ((L.take (j + 1)).map (fun r => (r.b, r.t))) = cellsW ((L.take j).map (fun r => (r.b, r.t))) ++ [.int .u64 (r.b : Int), .int .u64 (r.t : Int)]) := hide (by
        rw [List.take_add_one, R.out, List.map_append, cellsW_app]
        rfl)
      have GL2 : g < w.heap.size := GL.out (fun h => by rw [h] at R; exact absurd R.out (by simp))
      generalize (r.b : Int) = B at *
      generalize (r.t : Int) = T at *
      generalize (r.k : Int) = K at *
      go_wp2_with (at_builtin; refine wpList_append_own _ rfl _ _ 57 rfl (w.heap.size + 1) 24 i0 _ 2 16 Tryd.underlying57 hi hz hs hb rfl (by omega) _ _ _ rfl (owns_al _ (owns_al _ hown)) ⟨wr.heap.size + 1, 0, none⟩ 1 1 [.int .u64 B, .int .u64 T] rfl rfl (cell_two _ _ _ _ (by simp)) (fun x hx => by simp at hx; rcases hx with rfl | rfl <;> rfl) (by unfold maxLen; omega) (by omega) (by simp; omega) ?_; intro v' w3 hown' hgrow3 _)
      have hb3 : Below (w.heap.size + 1) wr w3 := (below_alloc (below_alloc (Below.refl _ _) hsz _) hsz _).grown hgrow3 (by simp; omega) (fun k hk => (hlt.out k hk).1)
      go_roundw
      case rel => exact ⟨j + 1, by omega, by go_num, by rw [HH.out]; exact hown', (fun i u hu => (hb3.cell (p := ⟨w.heap.size, i, none⟩) (by show w.heap.size < _; omega)).trans (HB.out i u hu)), (fun i u hu => (hb3.cell (p := ⟨g, i, none⟩) (by show g < _; omega)).trans (HG.out i u hu)), hbel.trans (hb3.mono (by omega)), by have := hb3.size; omega⟩
      case measure => simp [intOf]; omega
    · have HH : Hid (cellsW (L.map (fun r => (r.b, r.t))) = cellsW ((L.take j).map (fun r => (r.b, r.t)))) := hide (by rw [List.take_of_length_le (by rw [← N.out]; exact Nat.le_refl _)])
      have HRT : Hid (cellW (rt, 18446744073709551615) = [.int .u64 (rt : Int), .int .u64 18446744073709551615]) := hide rfl
      generalize (rt : Int) = RT at *
      go_wp2_with (at_builtin; refine wpList_append_own _ rfl _ _ 57 rfl (w.heap.size + 1) 24 i0 _ 2 16 Tryd.underlying57 hi hz hs hb rfl (by omega) _ _ _ rfl (owns_al _ hown) ⟨wr.heap.size, 0, none⟩ 1 1 [.int .u64 RT, .int .u64 18446744073709551615] rfl rfl (cell_two _ _ _ _ rfl) (fun x hx => by simp at hx; rcases hx with rfl | rfl <;> rfl) (by unfold maxLen; omega) (by omega) (by simp; omega) ?_; intro v' w3 hown' hgrow3 _)
      have hb3 : Below (w.heap.size + 1) wr w3 := (below_alloc (Below.refl _ _) hsz _).grown hgrow3 (by simp; omega) (fun k hk => (hlt.out k hk).1)
      go_wp2
      go_ret
      refine ⟨v', rfl, ?_, hbel.trans (hb3.mono (by omega))⟩
      rw [HR.out, HW.out, HRT.out, HH.out]
      exact owns_low hown' (by omega)

set_option maxHeartbeats 4000000 in
set_option maxRecDepth 100000 in
theorem walls_nil (rb rt : Int) (w : World) :
    Calls Tryd.prog 24 #[.agg #[.int .u64 rb, .int .u64 rt, .slice none 0 0]] w fun e w' => ∃ v', e = .returned v' ∧ w'.ownsRow w.heap.size 24 2 v' 1 [.int .u64 rt, .int .u64 18446744073709551615] ∧ Below w.heap.size w w' := by
  obtain ⟨i0, hi, hz, hs, hb⟩ := info_sx
  go_enter Tryd.func24, Tryd.ntmps24
  go_wp2
  go_loopw [3, 9] (fun s i wr => s = .slice none 0 0 ∧ i = .int .i64 0 ∧ Row wr w.heap.size [.int .u64 rb, .int .u64 rt, .slice none 0 0] ∧ Below w.heap.size w wr ∧ w.heap.size + 1 ≤ wr.heap.size) (fun _ _ _ => 0)
  case atStart => exact ⟨rfl, rfl, row_new rfl rfl, bw_alloc (Below.refl _ _) _, by simp⟩
  case round =>
    obtain ⟨rfl, rfl, hbox, hbel, hsz⟩ := hrel
    have c1 := hbox 1 _ rfl
    have c2 := hbox 2 _ rfl
    clear hbox
    go_wp2_with (at_builtin; refine wpList_append_own _ rfl _ _ 57 rfl w.heap.size 24 i0 _ 2 16 Tryd.underlying57 hi hz hs hb rfl (by omega) _ 0 [] rfl (World.ownsRow_nil _ _ _ _) ⟨wr.heap.size, 0, none⟩ 1 1 [.int .u64 rt, .int .u64 18446744073709551615] rfl rfl (cell_two _ _ _ _ rfl) (fun x hx => by simp at hx; rcases hx with rfl | rfl <;> rfl) (by unfold maxLen; omega) (by omega) (by simp; omega) ?_; intro v' w3 hown' hgrow3 _)
    have hb3 : Below w.heap.size wr w3 := (below_alloc (Below.refl _ _) (by omega) _).grown hgrow3 (by simp; omega) (fun k hk => absurd (show (none : Option Nat) = some k from hk) (by simp))
    go_wp2
    go_ret
    exact ⟨v', rfl, hown', hbel.trans hb3⟩

theorem walls_any (rb rt : Nat) (v : Value) (L : List Rg) (hn : L.length ≤ 1000) (w : World) (h : Lst w v L) :
    Calls Tryd.prog 24 #[.agg #[.int .u64 (rb : Int), .int .u64 (rt : Int), v]] w fun e w' => ∃ g c, e = .returned (.slice (some ⟨g, 0, none⟩) (L.length + 1) c) ∧ L.length + 1 ≤ c ∧ c ≤ 9223372036854775807 ∧ Row w' g (cellsW (wallsF L rt)) ∧ Below w.heap.size w w' := by
  have key : ∀ (e : Ending) (w' : World), (∃ v', e = .returned v' ∧ w'.ownsRow w.heap.size 24 2 v' (L.length + 1) (cellsW (wallsF L rt)) ∧ Below w.heap.size w w') → ∃ g c, e = .returned (.slice (some ⟨g, 0, none⟩) (L.length + 1) c) ∧ L.length + 1 ≤ c ∧ c ≤ 9223372036854775807 ∧ Row w' g (cellsW (wallsF L rt)) ∧ Below w.heap.size w w' := by
    rintro e w' ⟨v', rfl, h1, h2⟩
    have h3 := h1
    rcases h1.2 with ⟨_, h5⟩ | ⟨g, cap, cur, rfl, _, h5, h6, h7, h8, h9⟩
    · omega
    · exact ⟨g, cap, rfl, h6, by unfold maxLen at h7; omega, fun j u hj => by have := h3.cells (g := g) rfl j u hj; rwa [add_at] at this, h2⟩
  rcases h with ⟨rfl, rfl⟩ | ⟨g, c, rfl, h1, h2, h3, h4⟩
  · exact (walls_nil (rb : Int) (rt : Int) w).mono key
  · exact (walls_row rb rt g c L hn h1 w h4).mono key
end Go.Proofs.YtnepnckiciapfaaDoor
