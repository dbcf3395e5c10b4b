/-
  What the functions of package pte on addresses answer, and the document's Index: each turns nothing in memory.
-/
import Derived.Test.YtnookalplejneaaDoorPteMath
import Derived.Test.YtnookalplejneaaDoorFieldWalks
import Derived.Test.YtnookalplejneaaDoorGrows
namespace Go.Proofs.YtnookalplejneaaDoor
open Go.RowKit Words FieldMath PteMath

set_option maxRecDepth 100000 in
set_option maxHeartbeats 400000 in
theorem address_any (x : BitVec 64) (w : World) : Calls Tryd.prog 51 #[.int .u64 (x.toNat : Int)] w (Quiet (.int .u64 (IntKind.u64.wrap ((x.toNat : Int) * 4096))) w) := by
  have hx := toNat_lt x
  obtain ⟨X, hX⟩ : ∃ X : Nat, x.toNat = X := ⟨_, rfl⟩
  rw [hX] at hx ⊢
  go_enter Tryd.func51, Tryd.ntmps51
  go_wp2
  go_ret
  exact ⟨ret_int (by first | rfl | omega | (simp only [IntKind.wrap_u64] <;> omega)), 0, rfl⟩

set_option maxRecDepth 100000 in
set_option maxHeartbeats 400000 in
theorem may_any (x : BitVec 64) (w : World) : Calls Tryd.prog 28 #[.int .u64 (x.toNat : Int)] w (Quiet (.bool (decide ((x.toNat : Int) < 274877906944))) w) := by
  have C1 : Hid (∀ W, Calls Tryd.prog 49 #[.int .i64 38] W (Quiet (.int .u64 ((maskB 38).toNat : Int)) W)) := hide (fun W => mask_any 38 W)
  have HM := hide (may_bv x)
  have HA := hide (and_bv x (maskB 38))
  go_enter Tryd.func28, Tryd.ntmps28
  go_wp2_with (go_at_call 49; (with_reducible refine (C1.out _).mono ?_); rintro e w' ⟨rfl, n1, rfl⟩)
  go_ret
  exact ⟨ret_bool (by rw [← HM.out, ← HA.out]), _, rfl⟩

set_option maxRecDepth 100000 in
set_option maxHeartbeats 400000 in
theorem index_0 (x : BitVec 64) (w : World) : Calls Tryd.prog 31 #[.int .u64 (x.toNat : Int), .int .i64 0] w (Quiet (.int .i64 (idx x.toNat 0 : Int)) w) := by
  have C1 : Hid (∀ W, Calls Tryd.prog 45 #[.int .u64 (x.toNat : Int), .int .i64 12, .int .i64 9] W (Quiet (.int .u64 (idx x.toNat 0 : Int)) W)) := hide (fun W => by have := get_any x 12 9 W; rwa [get0] at this)
  have hw := small_wrap _ (idx_lt x.toNat 0)
  generalize (idx x.toNat 0 : Int) = K at *
  go_enter Tryd.func31, Tryd.ntmps31
  go_wp2_with (go_at_call 45; (with_reducible refine (C1.out _).mono ?_); rintro e w' ⟨rfl, n1, rfl⟩)
  go_ret
  exact ⟨ret_int hw, _, rfl⟩

set_option maxRecDepth 100000 in
set_option maxHeartbeats 800000 in
theorem rindex_0 (x : BitVec 64) (w : World) : Calls Tryd.prog 32 #[.int .u64 (x.toNat : Int), .int .i64 0] w (Quiet (.int .i64 (idx x.toNat 0 : Int)) w) := by
  have hx := toNat_lt x
  have hd : (idx x.toNat 0 : Int) = (x.toNat : Int) / 4096 % 512 := by simp [idx]
  obtain ⟨X, hX⟩ : ∃ X : Int, (x.toNat : Int) = X := ⟨_, rfl⟩
  have h0 : 0 ≤ X := by omega
  have h1 : X < 18446744073709551616 := by omega
  rw [hd, hX]
  clear hd hX hx
  go_enter Tryd.func32, Tryd.ntmps32
  go_wp2
  refine wp_loop_rounds 1 ?_
  rw [rounds_succ]
  go_wp2
  go_ret
  exact ⟨ret_int (by first | omega | (simp only [wrap64] <;> omega) | (simp only [wrap64, IntKind.wrap_u64] <;> omega)), 0, rfl⟩

set_option maxRecDepth 100000 in
set_option maxHeartbeats 400000 in
theorem index_1 (x : BitVec 64) (w : World) : Calls Tryd.prog 31 #[.int .u64 (x.toNat : Int), .int .i64 1] w (Quiet (.int .i64 (idx x.toNat 1 : Int)) w) := by
  have C1 : Hid (∀ W, Calls Tryd.prog 45 #[.int .u64 (x.toNat : Int), .int .i64 21, .int .i64 9] W (Quiet (.int .u64 (idx x.toNat 1 : Int)) W)) := hide (fun W => by have := get_any x 21 9 W; rwa [get1] at this)
  have hw := small_wrap _ (idx_lt x.toNat 1)
  generalize (idx x.toNat 1 : Int) = K at *
  go_enter Tryd.func31, Tryd.ntmps31
  go_wp2_with (go_at_call 45; (with_reducible refine (C1.out _).mono ?_); rintro e w' ⟨rfl, n1, rfl⟩)
  go_ret
  exact ⟨ret_int hw, _, rfl⟩

set_option maxRecDepth 100000 in
set_option maxHeartbeats 800000 in
theorem rindex_1 (x : BitVec 64) (w : World) : Calls Tryd.prog 32 #[.int .u64 (x.toNat : Int), .int .i64 1] w (Quiet (.int .i64 (idx x.toNat 1 : Int)) w) := by
  have hx := toNat_lt x
  have hd : (idx x.toNat 1 : Int) = (x.toNat : Int) / 2097152 % 512 := by simp [idx]
  obtain ⟨X, hX⟩ : ∃ X : Int, (x.toNat : Int) = X := ⟨_, rfl⟩
  have h0 : 0 ≤ X := by omega
  have h1 : X < 18446744073709551616 := by omega
  rw [hd, hX]
  clear hd hX hx
  go_enter Tryd.func32, Tryd.ntmps32
  go_wp2
  refine wp_loop_rounds 2 ?_
  rw [rounds_succ]
  go_wp2
  rw [rounds_succ]
  go_wp2
  go_ret
  exact ⟨ret_int (by first | omega | (simp only [wrap64] <;> omega) | (simp only [wrap64, IntKind.wrap_u64] <;> omega)), 0, rfl⟩

set_option maxRecDepth 100000 in
set_option maxHeartbeats 400000 in
theorem index_2 (x : BitVec 64) (w : World) : Calls Tryd.prog 31 #[.int .u64 (x.toNat : Int), .int .i64 2] w (Quiet (.int .i64 (idx x.toNat 2 : Int)) w) := by
  have C1 : Hid (∀ W, Calls Tryd.prog 45 #[.int .u64 (x.toNat : Int), .int .i64 30, .int .i64 9] W (Quiet (.int .u64 (idx x.toNat 2 : Int)) W)) := hide (fun W => by have := get_any x 30 9 W; rwa [get2] at this)
  have hw := small_wrap _ (idx_lt x.toNat 2)
  generalize (idx x.toNat 2 : Int) = K at *
  go_enter Tryd.func31, Tryd.ntmps31
  go_wp2_with (go_at_call 45; (with_reducible refine (C1.out _).mono ?_); rintro e w' ⟨rfl, n1, rfl⟩)
  go_ret
  exact ⟨ret_int hw, _, rfl⟩

set_option maxRecDepth 100000 in
set_option maxHeartbeats 800000 in
theorem rindex_2 (x : BitVec 64) (w : World) : Calls Tryd.prog 32 #[.int .u64 (x.toNat : Int), .int .i64 2] w (Quiet (.int .i64 (idx x.toNat 2 : Int)) w) := by
  have hx := toNat_lt x
  have hd : (idx x.toNat 2 : Int) = (x.toNat : Int) / 1073741824 % 512 := by simp [idx]
  obtain ⟨X, hX⟩ : ∃ X : Int, (x.toNat : Int) = X := ⟨_, rfl⟩
  have h0 : 0 ≤ X := by omega
  have h1 : X < 18446744073709551616 := by omega
  rw [hd, hX]
  clear hd hX hx
  go_enter Tryd.func32, Tryd.ntmps32
  go_wp2
  refine wp_loop_rounds 3 ?_
  rw [rounds_succ]
  go_wp2
  rw [rounds_succ]
  go_wp2
  rw [rounds_succ]
  go_wp2
  go_ret
  exact ⟨ret_int (by first | omega | (simp only [wrap64] <;> omega) | (simp only [wrap64, IntKind.wrap_u64] <;> omega)), 0, rfl⟩

set_option maxRecDepth 100000 in
theorem idx_bad (v : Nat) (l : Int) (h : l < 0 ∨ 2 < l) : idx v l = 0 := by
  unfold idx
  rw [if_neg (by omega), if_neg (by omega), if_neg (by omega)]

set_option maxRecDepth 100000 in
set_option maxHeartbeats 400000 in
theorem index_bad (x : BitVec 64) (l : Int) (h : l < 0 ∨ 2 < l) (w : World) : Calls Tryd.prog 31 #[.int .u64 (x.toNat : Int), .int .i64 l] w (Quiet (.int .i64 (idx x.toNat l : Int)) w) := by
  have hb := idx_bad x.toNat l h
  rw [hb]
  clear hb
  rcases h with h | h
  · go_enter Tryd.func31, Tryd.ntmps31
    go_wp2
    go_ret
    exact ⟨rfl, 0, rfl⟩
  · have h1 : ¬ l < 0 := by omega
    go_enter Tryd.func31, Tryd.ntmps31
    go_wp2
    go_ret
    exact ⟨rfl, 0, rfl⟩

set_option maxRecDepth 100000 in
theorem index_any (x : BitVec 64) (l : Int) (w : World) : Calls Tryd.prog 31 #[.int .u64 (x.toNat : Int), .int .i64 l] w (Quiet (.int .i64 (idx x.toNat l : Int)) w) := by
  by_cases h : l < 0 ∨ 2 < l
  · exact index_bad x l h w
  · obtain h0 | h1 | h2 : l = 0 ∨ l = 1 ∨ l = 2 := by omega
    · subst h0; exact index_0 x w
    · subst h1; exact index_1 x w
    · subst h2; exact index_2 x w

set_option maxRecDepth 100000 in
set_option maxHeartbeats 400000 in
theorem rindex_bad (x : BitVec 64) (l : Int) (h : l < 0 ∨ 2 < l) (w : World) : Calls Tryd.prog 32 #[.int .u64 (x.toNat : Int), .int .i64 l] w (Quiet (.int .i64 (idx x.toNat l : Int)) w) := by
  have hb := idx_bad x.toNat l h
  rw [hb]
  clear hb
  rcases h with h | h
  · go_enter Tryd.func32, Tryd.ntmps32
    go_wp2
    go_ret
    exact ⟨rfl, 0, rfl⟩
  · have h1 : ¬ l < 0 := by omega
    go_enter Tryd.func32, Tryd.ntmps32
    go_wp2
    go_ret
    exact ⟨rfl, 0, rfl⟩

set_option maxRecDepth 100000 in
theorem rindex_any (x : BitVec 64) (l : Int) (w : World) : Calls Tryd.prog 32 #[.int .u64 (x.toNat : Int), .int .i64 l] w (Quiet (.int .i64 (idx x.toNat l : Int)) w) := by
  by_cases h : l < 0 ∨ 2 < l
  · exact rindex_bad x l h w
  · obtain h0 | h1 | h2 : l = 0 ∨ l = 1 ∨ l = 2 := by omega
    · subst h0; exact rindex_0 x w
    · subst h1; exact rindex_1 x w
    · subst h2; exact rindex_2 x w
end Go.Proofs.YtnookalplejneaaDoor
