/-
  slices.Clone of reservations; All.
-/
import Derived.Test.YtnepnckiciapfaaDoorRgnLib
import Derived.Test.YtnepnckiciapfaaDoorChecked
import Derived.Lib.SliceRun
namespace Go.Proofs.YtnepnckiciapfaaDoor
open Go.RowKit RgnMath

theorem info_rg : (Tryd.prog.info? 41).map (fun i => (i.zero, i.size, i.bytes)) = some (some (.agg #[.int .u64 0, .int .u64 0, .int .i64 0]), 3, 24) := by kernel_rfl
theorem info_ex : ∃ i, Tryd.prog.info? 41 = some i ∧ i.zero = some (.agg #[.int .u64 0, .int .u64 0, .int .i64 0]) ∧ i.size = 3 ∧ i.bytes = 24 := by
  have h := info_rg
  cases hq : Tryd.prog.info? 41 with
  | none => rw [hq] at h; cases h
  | some i =>
    rw [hq] at h
    simp only [Option.map_some, Option.some.injEq, Prod.mk.injEq] at h
    exact ⟨i, rfl, h.1, h.2.1, h.2.2⟩

set_option maxHeartbeats 2000000 in
theorem clone_nil (w : World) : Calls Tryd.prog 18 #[.slice none 0 0] w fun e w' => e = .returned (.slice none 0 0) ∧ w' = w := by
  have q : ∀ (w : World) (a : Option Addr) (n c n' c' : Nat), (binOp .eql 26 (.slice a n c) (.slice none n' c')).run Tryd.prog w = .ok (.bool a.isNone) w := fun w a n c n' c' => Lib.run_eql_slice_nil w _ _ a n c n' c' Tryd.underlying26
  go_enter Tryd.func18, Tryd.ntmps18
  go_wp2
  go_ret
  exact ⟨rfl, rfl⟩

set_option maxHeartbeats 2000000 in
set_option maxRecDepth 100000 in
theorem clone_row (g c : Nat) (L : List Rg) (w : World) (hn : L.length ≤ 1000) (hrow : Row w g (cellsL L)) :
    Calls Tryd.prog 18 #[.slice (some ⟨g, 0, none⟩) L.length c] w fun e w' => ∃ v', e = .returned v' ∧ w'.ownsRow w.heap.size 41 3 v' L.length (cellsL L) ∧ v' ≠ .slice none 0 0 ∧ Below w.heap.size w w' := by
  have q : ∀ (w : World) (a : Option Addr) (n c n' c' : Nat), (binOp .eql 26 (.slice a n c) (.slice none n' c')).run Tryd.prog w = .ok (.bool a.isNone) w := fun w a n c n' c' => Lib.run_eql_slice_nil w _ _ a n c n' c' Tryd.underlying26
  obtain ⟨i0, hi, hz, hs, hb⟩ := info_ex
  have h1 := cells_one L
  have hl : (cellsL L).length = L.length * 3 := cells_len L
  have A := hide hrow
  clear hrow
  obtain ⟨n, hN⟩ : ∃ n, n = L.length := ⟨_, rfl⟩
  obtain ⟨news, hnews⟩ : ∃ news, news = cellsL L := ⟨_, rfl⟩
  rw [← hN] at hn hl ⊢
  rw [← hnews] at A hl h1 ⊢
  clear hN hnews
  go_enter Tryd.func18, Tryd.ntmps18
  go_wp2_with (at_builtin; refine wpList_append_own _ rfl _ _ 26 rfl w.heap.size 41 i0 _ 3 24 Tryd.underlying26 hi hz hs hb rfl (by omega) _ _ _ rfl (World.ownsRow_made w #[] 0 (Nat.le_refl _) (Nat.zero_le _) (by simp)) ⟨g, 0, none⟩ n c news rfl ?qc1 ?qc2 ?qc3 ?qc4 ?qc5 ?qc6 ?_)
  case qc1 => exact hl
  case qc2 =>
    intro j u hj
    rw [add_at]
    exact c_al _ (A.out j u hj)
  case qc3 => exact h1
  case qc4 => unfold maxLen; omega
  case qc5 => omega
  case qc6 => simp
  intro v' w1 hown hgrow hnil
  go_wp2
  go_ret
  refine ⟨v', rfl, by simpa using hown, ?_, ?_⟩
  · exact hnil
  · exact ((Below.refl _ w).alloc (Nat.le_refl _) _).grown hgrow (by simp) (by intro k hk; simp [Value.ownBlock] at hk; omega)

/-- Either way. -/
theorem clone_any (v : Value) (L : List Rg) (w : World) (hn : L.length ≤ 1000) (h : Lst w v L) :
    Calls Tryd.prog 18 #[v] w fun e w' => ∃ v', e = .returned v' ∧ w'.ownsRow w.heap.size 41 3 v' L.length (cellsL L) ∧ Below w.heap.size w w' := by
  rcases h with ⟨rfl, rfl⟩ | ⟨g, c, rfl, _, _, _, h5⟩
  · refine (clone_nil w).mono ?_
    rintro e w' ⟨rfl, rfl⟩
    exact ⟨_, rfl, World.ownsRow_nil _ _ _ _, Below.refl _ _⟩
  · refine (clone_row g c L w hn h5).mono ?_
    rintro e w' ⟨v', rfl, h1, _, h2⟩
    exact ⟨v', rfl, h1, h2⟩

set_option maxHeartbeats 2000000 in
theorem all_any (rb rt : Int) (v : Value) (L : List Rg) (w : World) (hn : L.length ≤ 1000) (h : Lst w v L) :
    Calls Tryd.prog 8 #[.agg #[.int .u64 rb, .int .u64 rt, v]] w fun e w' => ∃ v', e = .returned v' ∧ Lst w' v' L ∧ Below w.heap.size w w' := by
  have C : Hid (∀ W, Lst W v L → Calls Tryd.prog 18 #[v] W fun e w' => ∃ v', e = .returned v' ∧ w'.ownsRow W.heap.size 41 3 v' L.length (cellsL L) ∧ Below W.heap.size W w') := hide (fun W hW => clone_any v L W hn hW)
  have H := hide h
  have h1 : v.oneCell' = true := by rcases h with ⟨rfl, _⟩ | ⟨g, c, rfl, _⟩ <;> rfl
  have hcl : v.cells = #[v] := by rcases h with ⟨rfl, _⟩ | ⟨g, c, rfl, _⟩ <;> rfl
  clear h
  go_enter Tryd.func8, Tryd.ntmps8
  go_wp2_with (go_at_call 18; refine (C.out _ (lst_al _ H.out)).mono ?_; rintro e w1 ⟨v', rfl, h2, h3⟩)
  go_ret
  exact ⟨v', rfl, lst_owns rfl h2, bw_behind h3 (bw_alloc (Below.refl _ _) _)⟩
end Go.Proofs.YtnepnckiciapfaaDoor
