/-
  What mintmarkref02.Ones hands back: a slice of its own that holds the indices of the bits that are 1; and scale.Ones's iterator handed a closure that counts and says when it has enough.
-/
import Derived.Test.YtjoaomncffdgbaaCollectWalks
import Derived.Laws.AppendOwn
namespace Go.Proofs.Ytjoaomncffdgbaa
open Go.RowKit Words ScaleMath

theorem row_base {W : World} {base : Nat} {e : TypeId} {size k : Nat} {v : Value} {xs : List Value} (h : W.ownsRow base e size v k xs) (j : Nat) (ej : v.ownBlock = some j) : base ≤ j := by
  rcases h.2 with ⟨rfl, _⟩ | ⟨g, cap, cur, rfl, hb, _, _⟩
  · simp [Value.ownBlock] at ej
  · obtain rfl : g = j := by simpa [Value.ownBlock] using ej
    exact hb

set_option maxHeartbeats 1000000 in
theorem rones_any (x : BitVec 64) (w : World) : Calls Try.prog 21 #[.int .u64 (x.toNat : Int)] w fun e W' =>
    ∃ v, e = .returned v ∧ W'.ownsRow w.heap.size 3 1 v (onesL x).length ((onesL x).map (Value.int .i64)) ∧ (onesL x = [] → v = .slice none 0 0) ∧ Below w.heap.size w W' := by
  obtain ⟨i0, hi, hz0, hz1, hz2⟩ := info_parts infoInt
  go_enter Try.func21, Try.ntmps21
  go_wp2
  go_loopw [3, 4] (fun s i wr => ∃ k : Nat, k ≤ 64 ∧ i = .int .i64 k ∧ wr.ownsRow w.heap.size 3 1 s (onesTo x k).length ((onesTo x k).map (Value.int .i64)) ∧ (onesTo x k = [] → s = .slice none 0 0) ∧ Below w.heap.size w wr) (fun _ i _ => 64 - (intOf i).toNat)
  case atStart => exact ⟨0, by omega, rfl, World.ownsRow_nil _ _ _ _, fun _ => rfl, Below.refl _ _⟩
  case round s =>
    obtain ⟨k, hk, rfl, hown, hnil, hbel⟩ := hrel
    by_cases h2 : k < 64
    · have hsz := hbel.size
      have hln := onesTo_length x k
      cases hb : x.getLsbD k with
      | true =>
        have hbit := bit_yes x k hb
        have HH := hide (onesTo_hit x k hb)
        clear hb
        go_wp2_with (at_builtin; refine wpList_append_own _ rfl _ _ 35 rfl w.heap.size 3 i0 (.int .i64 0) 1 8 Try.underlying35 hi hz0 hz1 hz2 rfl (by decide) _ _ _ rfl (hown.alloc _) ⟨wr.heap.size, 0, none⟩ 1 1 [.int .i64 (k : Int)] rfl rfl (cell_one_new _ _ _) (fun x hx => by simp at hx; subst hx; rfl) (by unfold maxLen; omega) (by omega) (by simp; omega) ?_; intro v' w3 hown' hgrow3 hnil3)
        go_roundw
        case rel => exact ⟨k + 1, by omega, by go_num, by rw [HH.out]; simpa using hown', fun h => (by rw [HH.out] at h; simp at h), (hbel.alloc hsz _).grown hgrow3 (by simp; omega) (row_base hown)⟩
        case measure => simp [intOf]; omega
      | false =>
        have hbit := bit_no x k hb
        have HH := hide (onesTo_miss x k hb)
        clear hb
        go_wp2
        go_roundw
        case rel => exact ⟨k + 1, by omega, by go_num, by rw [HH.out]; exact hown, fun h => hnil (by rw [HH.out] at h; exact h), hbel⟩
        case measure => simp [intOf]; omega
    · obtain rfl : k = 64 := by omega
      go_wp2
      go_ret
      exact ⟨_, rfl, hown, hnil, hbel⟩

/-- The closure counts one more, and says whether it may go on. -/
theorem count_any (b c : Nat) (y n most : Int) (w : World) (hn : Boxed w b 3 (.int .i64 n)) (hm : Boxed w c 3 (.int .i64 most)) (hne : c ≠ b) (h0 : 0 ≤ n) (h1 : n < 1000) :
    Calls Try.prog 22 #[.int .i64 y, .pointer (some ⟨b, 0, none⟩), .pointer (some ⟨c, 0, none⟩)] w
      fun e W' => e = .returned (.bool (decide (n + 1 ≤ most))) ∧ W' = w.setCell ⟨b, 0, none⟩ (.int .i64 (n + 1)) := by
  have hc := hn.cell
  have hf := hn.frozen
  have hcm := hm.cell
  go_enter Try.func22, Try.ntmps22
  go_wp2
  go_ret
  exact ⟨rfl, rfl⟩

set_option maxHeartbeats 1000000 in
/-- The iterator, handed that closure. -/
theorem ones_count (x : BitVec 64) (Bn b c n₀ : Nat) (most : Int) (w : World) (hX : Boxed w Bn 22 (.int .u64 (x.toNat : Int))) (hN : Boxed w b 3 (.int .i64 0)) (hM : Boxed w c 3 (.int .i64 most)) (hne : c ≠ b) (h0 : 0 ≤ most) (hb : n₀ ≤ b) (hXb : Bn ≠ b) (_hsz : n₀ ≤ w.heap.size) :
    Calls Try.prog 23 #[.func (.func 22) #[] #[.pointer (some ⟨b, 0, none⟩), .pointer (some ⟨c, 0, none⟩)], .pointer (some ⟨Bn, 0, none⟩)] w
      fun e W' => e = .returned (.tuple #[]) ∧ Boxed W' b 3 (.int .i64 (min ((onesL x).length : Int) (most + 1))) ∧ Boxed W' c 3 (.int .i64 most) ∧ (∀ j, j ≠ b → j < w.heap.size → W'.heap[j]? = w.heap[j]?) ∧ Below n₀ w W' := by
  go_enter Try.func23, Try.ntmps23
  go_wp2
  go_loopw [4] (fun i wr => ∃ k : Nat, k ≤ 64 ∧ i = .int .i64 k ∧ Boxed wr Bn 22 (.int .u64 (x.toNat : Int)) ∧ Boxed wr b 3 (.int .i64 ((onesTo x k).length : Int)) ∧ Boxed wr c 3 (.int .i64 most) ∧ ((onesTo x k).length : Int) ≤ most ∧ (∀ j, j ≠ b → j < w.heap.size → wr.heap[j]? = w.heap[j]?) ∧ Below n₀ w wr) (fun i _ => 64 - (intOf i).toNat)
  case atStart => exact ⟨0, by omega, rfl, hX, hN, hM, by simpa [onesTo_zero] using h0, fun _ _ _ => rfl, Below.refl _ _⟩
  case round =>
    obtain ⟨k, hk, rfl, hx, hn, hm, hle, hkeep, hbel⟩ := hrel
    have hc := hx.cell
    by_cases h2 : k < 64
    · cases hbit : x.getLsbD k with
      | true =>
        have hy := bit_yes x k hbit
        have hl1 : (onesTo x (k + 1)).length = (onesTo x k).length + 1 := by rw [onesTo_hit x k hbit]; simp
        have hl2 : (onesTo x (k + 1)).length ≤ (onesL x).length := (onesTo_prefix x (k + 1) 64 (by omega)).length_le
        have hl3 := onesTo_length x k
        have hcnt := fun y => count_any b c y ((onesTo x k).length : Int) most wr hn hm hne (by omega) (by omega)
        have hk2 : ∀ j, j ≠ b → j < w.heap.size → (wr.setCell ⟨b, 0, none⟩ (.int .i64 (((onesTo x k).length : Int) + 1))).heap[j]? = w.heap[j]? := fun j hj hlt => (Below.heap_setCell _ _ _ j hj).trans (hkeep j hj hlt)
        have hn2 := hn.set (.int .i64 (((onesTo x k).length : Int) + 1))
        have hx2 := hx.other hXb (.int .i64 (((onesTo x k).length : Int) + 1))
        have hm2 := hm.other hne (.int .i64 (((onesTo x k).length : Int) + 1))
        have hb2 := hbel.setCell (p := ⟨b, 0, none⟩) hb (.int .i64 (((onesTo x k).length : Int) + 1))
        by_cases hmost : ((onesTo x k).length : Int) + 1 ≤ most
        · rw [decide_eq_true hmost] at hcnt
          have HC := hide hcnt
          have hl4 : ((onesTo x (k + 1)).length : Int) = ((onesTo x k).length : Int) + 1 := by omega
          clear hcnt hbit hl1 hl2
          generalize ((onesTo x k).length : Int) = L at *
          go_wp2_with (go_at_call 22; refine (HC.out _).mono ?_; rintro e w' ⟨rfl, rfl⟩)
          go_roundw
          case rel => exact ⟨k + 1, by omega, by go_num, hx2, by rw [hl4]; exact hn2, hm2, by rw [hl4]; exact hmost, hk2, hb2⟩
          case measure => simp [intOf]; omega
        · rw [decide_eq_false hmost] at hcnt
          have HC := hide hcnt
          have hmin : min ((onesL x).length : Int) (most + 1) = ((onesTo x k).length : Int) + 1 := by omega
          clear hcnt hbit hl1 hl2
          generalize ((onesTo x k).length : Int) = L at *
          go_wp2_with (go_at_call 22; refine (HC.out _).mono ?_; rintro e w' ⟨rfl, rfl⟩)
          refine bodyPost_ret (results_none rfl _ _ _) rfl ?_
          exact ⟨rfl, by rw [hmin]; exact hn2, hm2, hk2, hb2⟩
      | false =>
        have hy := bit_no x k hbit
        have HH := hide (onesTo_miss x k hbit)
        clear hbit
        go_wp2
        go_roundw
        case rel => exact ⟨k + 1, by omega, by go_num, hx, by rw [HH.out]; exact hn, hm, by rw [HH.out]; exact hle, hkeep, hbel⟩
        case measure => simp [intOf]; omega
    · obtain rfl : k = 64 := by omega
      have hmin : min ((onesL x).length : Int) (most + 1) = ((onesTo x 64).length : Int) := by unfold onesL; omega
      go_wp2
      go_end0
      exact ⟨rfl, by rw [hmin]; exact hn, hm, hkeep, hbel⟩
end Go.Proofs.Ytjoaomncffdgbaa
