/-
  All, free and Free; New; what Take and Give answer, and what they turn.
-/
import Derived.Test.YtkblpbnppkfjnaaFrm3
namespace Go.Proofs.Ytkblpbnppkfjnaa
open Go.RowKit Words ScaleMath FrmMath

theorem own_le {W : World} {base base2 n size : Nat} {e : TypeId} {v : Value} {xs : List Value} (hb : base2 ≤ base) (h : W.ownsRow base e size v n xs) : W.ownsRow base2 e size v n xs := by
  refine ⟨h.1, ?_⟩
  rcases h.2 with h2 | ⟨g, cap, cur, rfl, h3, h4, h5⟩
  · exact .inl h2
  · exact .inr ⟨g, cap, cur, rfl, by omega, h4, h5⟩
/-- A slice of one's own that holds the numbers l. -/
def Ints (W : World) (base : Nat) (v : Value) (l : List Int) : Prop := W.ownsRow base 3 1 v l.length (l.map (Value.int .i64))
theorem ints_be {W W' : World} {base : Nat} {v : Value} {l : List Int} (hb : Below W.heap.size W W') (h : Ints W base v l) : Ints W' base v l := owns_be hb h
theorem Ints.form {W : World} {base : Nat} {v : Value} {l : List Int} (h : Ints W base v l) : ∃ a cap, v = .slice a l.length cap ∧ l.length ≤ cap ∧ ∀ j (y : Int), l[j]? = some y → ∃ g, a = some ⟨g, 0, none⟩ ∧ base ≤ g ∧ g < W.heap.size ∧ W.cell? ⟨g, j, none⟩ = some (.int .i64 y) := by
  by_cases hn : l.length = 0
  · have hl : l = [] := List.eq_nil_of_length_eq_zero hn
    subst hl
    rcases h.2 with ⟨rfl, _⟩ | ⟨g, cap, cur, rfl, _⟩
    · exact ⟨_, _, rfl, Nat.le_refl _, fun j y hj => by simp at hj⟩
    · exact ⟨_, _, rfl, Nat.zero_le _, fun j y hj => by simp at hj⟩
  · obtain ⟨g, cap, rfl, h1, h2, h3, h4⟩ := owns_cell h hn
    exact ⟨_, _, rfl, h1, fun j y hj => ⟨g, rfl, h2, h3, h4 j _ (by simp [hj])⟩⟩

set_option maxHeartbeats 1000000 in
theorem those_no_taken (p : Option Addr) (w : World) (cm : ∀ W, Below w.heap.size w W → Calls Try.prog 17 #[.pointer p] W (Quiet (.bool false) W)) :
    Calls Try.prog 21 #[.pointer p, .func (.func 15) #[.pointer p] #[]] w (Makes (.slice none 0 0) w) := by
  have C1 := hide cm
  clear cm
  go_enter Try.func21, Try.ntmps21
  go_wp2_with (go_at_call 17; refine (C1.out _ (by repeat (first | with_reducible assumption | with_reducible exact Below.refl _ _ | with_reducible refine Below.drew ?_ | with_reducible refine below_drewN ?_ _ | with_reducible refine bw_alloc ?_ _ | (with_reducible refine bw_set ?_ ?_ _; focus (dsimp only; omega)) | (with_reducible apply bw_behind; with_reducible assumption)))).mono ?_; rintro e w' ⟨rfl, k, rfl⟩)
  go_ret
  exact ⟨rfl, by repeat (first | with_reducible assumption | with_reducible exact Below.refl _ _ | with_reducible refine Below.drew ?_ | with_reducible refine below_drewN ?_ _ | with_reducible refine bw_alloc ?_ _ | (with_reducible refine bw_set ?_ ?_ _; focus (dsimp only; omega)) | (with_reducible apply bw_behind; with_reducible assumption))⟩

set_option maxHeartbeats 1000000 in
theorem those_no_free (p : Option Addr) (c : Nat) (w : World) (cm : ∀ W, Below w.heap.size w W → Calls Try.prog 17 #[.pointer p] W (Quiet (.bool false) W)) :
    Calls Try.prog 21 #[.pointer p, .func (.func 22) #[] #[.pointer (some ⟨c, 0, none⟩)]] w (Makes (.slice none 0 0) w) := by
  have C1 := hide cm
  clear cm
  go_enter Try.func21, Try.ntmps21
  go_wp2_with (go_at_call 17; refine (C1.out _ (by repeat (first | with_reducible assumption | with_reducible exact Below.refl _ _ | with_reducible refine Below.drew ?_ | with_reducible refine below_drewN ?_ _ | with_reducible refine bw_alloc ?_ _ | (with_reducible refine bw_set ?_ ?_ _; focus (dsimp only; omega)) | (with_reducible apply bw_behind; with_reducible assumption)))).mono ?_; rintro e w' ⟨rfl, k, rfl⟩)
  go_ret
  exact ⟨rfl, by repeat (first | with_reducible assumption | with_reducible exact Below.refl _ _ | with_reducible refine Below.drew ?_ | with_reducible refine below_drewN ?_ _ | with_reducible refine bw_alloc ?_ _ | (with_reducible refine bw_set ?_ ?_ _; focus (dsimp only; omega)) | (with_reducible apply bw_behind; with_reducible assumption))⟩

set_option maxHeartbeats 1000000 in
theorem all_no (p : Option Addr) (w : World) (cm : ∀ W, Below w.heap.size w W → Calls Try.prog 17 #[.pointer p] W (Quiet (.bool false) W)) : Calls Try.prog 12 #[.pointer p] w (Makes (.slice none 0 0) w) := by
  have C1 := hide (those_no_taken p w cm)
  clear cm
  go_enter Try.func12, Try.ntmps12
  go_wp2_with (go_at_call 21; refine C1.out.mono ?_; rintro e w' ⟨rfl, hb1⟩)
  go_ret
  exact ⟨rfl, hb1⟩

set_option maxHeartbeats 1000000 in
theorem free_no (p : Option Addr) (w : World) (cm : ∀ W, Below w.heap.size w W → Calls Try.prog 17 #[.pointer p] W (Quiet (.bool false) W)) : Calls Try.prog 14 #[.pointer p] w (Makes (.int .i64 0) w) := by
  have C0 : Hid (∀ (c : Nat) W, Below w.heap.size w W → Calls Try.prog 21 #[.pointer p, .func (.func 22) #[] #[.pointer (some ⟨c, 0, none⟩)]] W (Makes (.slice none 0 0) W)) := hide (fun c W hB => those_no_free p c W (fun W' hB' => cm W' (hB.trans (hB'.mono hB.size))))
  have C1 : Hid (Calls Try.prog 18 #[.pointer p] w (Makes (.slice none 0 0) w)) := hide (by
    clear cm
    go_enter Try.func18, Try.ntmps18
    go_wp2_with (go_at_call 21; refine (C0.out _ _ (by repeat (first | with_reducible assumption | with_reducible exact Below.refl _ _ | with_reducible refine Below.drew ?_ | with_reducible refine below_drewN ?_ _ | with_reducible refine bw_alloc ?_ _ | (with_reducible refine bw_set ?_ ?_ _; focus (dsimp only; omega)) | (with_reducible apply bw_behind; with_reducible assumption)))).mono ?_; rintro e w' ⟨rfl, hb1⟩)
    go_ret
    exact ⟨rfl, by repeat (first | with_reducible assumption | with_reducible exact Below.refl _ _ | with_reducible refine Below.drew ?_ | with_reducible refine below_drewN ?_ _ | with_reducible refine bw_alloc ?_ _ | (with_reducible refine bw_set ?_ ?_ _; focus (dsimp only; omega)) | (with_reducible apply bw_behind; with_reducible assumption))⟩)
  clear cm C0
  go_enter Try.func14, Try.ntmps14
  go_wp2_with (go_at_call 18; refine C1.out.mono ?_; rintro e w' ⟨rfl, hb1⟩)
  go_ret
  exact ⟨rfl, hb1⟩

set_option maxHeartbeats 1000000 in
theorem all_at (b : Nat) (A T : BitVec 64) (hA : A ≠ 0#64) (hs : T &&& A = T) (w : World) (hp : PoolAt w b A T) : Calls Try.prog 12 #[.pointer (some ⟨b, 0, none⟩)] w fun e w' => ∃ v, e = .returned v ∧ Ints w' w.heap.size v (onesL T) ∧ Below w.heap.size w w' := by
  have C1 := those_taken b A T hA w hp
  rw [taken_list A T hs] at C1
  have C1 := hide C1
  go_enter Try.func12, Try.ntmps12
  go_wp2_with (go_at_call 21; refine C1.out.mono ?_; rintro e w' ⟨v, rfl, hrow, hb1⟩)
  go_ret
  exact ⟨v, rfl, hrow, hb1⟩

set_option maxHeartbeats 1000000 in
theorem frees_at (b : Nat) (A T : BitVec 64) (hA : A ≠ 0#64) (w : World) (hp : PoolAt w b A T) : Calls Try.prog 18 #[.pointer (some ⟨b, 0, none⟩)] w fun e w' => ∃ v, e = .returned v ∧ Ints w' w.heap.size v (onesL (freeW A T)) ∧ Below w.heap.size w w' := by
  have C1 := those_free b w.heap.size A T hA (w.alloc (.cells #[.pointer (some ⟨b, 0, none⟩)] 23)) (pool_al _ hp) (by simp [go_sem])
  rw [free_list A T] at C1
  have C1 := hide C1
  go_enter Try.func18, Try.ntmps18
  go_wp2_with (go_at_call 21; refine C1.out.mono ?_; rintro e w' ⟨v, rfl, hrow, hb1⟩)
  go_ret
  exact ⟨v, rfl, own_le (by simp) hrow, bw_behind hb1 (bw_alloc (Below.refl _ _) _)⟩

set_option maxHeartbeats 1000000 in
theorem free_at (b : Nat) (A T : BitVec 64) (hA : A ≠ 0#64) (w : World) (hp : PoolAt w b A T) : Calls Try.prog 14 #[.pointer (some ⟨b, 0, none⟩)] w (Makes (.int .i64 ((onesL (freeW A T)).length : Int)) w) := by
  have C1 := hide (frees_at b A T hA w hp)
  generalize onesL (freeW A T) = l at *
  go_enter Try.func14, Try.ntmps14
  go_wp2_with (go_at_call 18; refine C1.out.mono ?_; rintro e w' ⟨v, rfl, hrow, hb1⟩; obtain ⟨sa, cap, rfl, -, -⟩ := hrow.form)
  go_ret
  exact ⟨rfl, hb1⟩

set_option maxHeartbeats 1000000 in
theorem new_bad (n : Int) (h : n < 1 ∨ 64 < n) (w : World) : Calls Try.prog 6 #[.int .i64 n] w (Makes (.tuple #[.pointer none, .int .i64 2]) w) := by
  by_cases h1 : n < 1
  · go_enter Try.func6, Try.ntmps6
    go_wp2
    go_ret2
    exact ⟨rfl, Below.refl _ _⟩
  · have h2 : 64 < n := by omega
    go_enter Try.func6, Try.ntmps6
    go_wp2
    go_ret2
    exact ⟨rfl, Below.refl _ _⟩

set_option maxHeartbeats 1000000 in
theorem new_at (n : Int) (h1 : 1 ≤ n) (h2 : n ≤ 64) (w : World) : Calls Try.prog 6 #[.int .i64 n] w fun e w' => ∃ b, e = .returned (.tuple #[.pointer (some ⟨b, 0, none⟩), .int .i64 0]) ∧ w.heap.size ≤ b ∧ PoolAt w' b (allW n) 0#64 ∧ Below w.heap.size w w' := by
  have C1 := hide (fun W => bit_let n (by omega) W)
  have hW := all_walk n
  have HP : Hid (∀ W : World, PoolAt (W.alloc (.cells #[.int .u64 ((allW n).toNat : Int), .int .u64 0] 42)) W.heap.size (allW n) 0#64) := hide (fun W => World.alloc_heap_new W _)
  generalize ((oneW n).toNat : Int) = O at *
  generalize ((allW n).toNat : Int) = a at *
  go_enter Try.func6, Try.ntmps6
  go_wp2_with (go_at_call 16; refine (C1.out _).mono ?_; rintro e w' ⟨rfl, k, rfl⟩)
  go_ret2
  exact ⟨_, rfl, by simp, HP.out (w.drewN _), by repeat (first | with_reducible assumption | with_reducible exact Below.refl _ _ | with_reducible refine Below.drew ?_ | with_reducible refine below_drewN ?_ _ | with_reducible refine bw_alloc ?_ _ | (with_reducible refine bw_set ?_ ?_ _; focus (dsimp only; omega)) | (with_reducible apply bw_behind; with_reducible assumption))⟩
end Go.Proofs.Ytkblpbnppkfjnaa
