/-
  Fail, Blocks, New; Read and Write of a device that nobody made, and with errors.
-/
import Derived.Test.YtadhjgjemndnpaaBlk1
namespace Go.Proofs.Ytadhjgjemndnpaa
open Go.RowKit Go.Maps

set_option maxHeartbeats 1000000 in
theorem fail_no (p : Option Addr) (n : Int) (w : World) (h : NoDev w p) : Calls Try.prog 14 #[.pointer p, .int .i64 n] w (Quiet (.tuple #[]) w) := by
  have C1 := hide (made_no p w h)
  clear h
  go_enter Try.func14, Try.ntmps14
  go_wp2_with (go_at_call 16; refine C1.out.mono ?_; rintro e w1 ⟨rfl, k, rfl⟩)
  first | go_ret | go_end0 | refine bodyPost_ret (results_none rfl _ _ _) rfl ?_
  exact ⟨rfl, _, rfl⟩

set_option maxHeartbeats 1000000 in
theorem fail_at (b m : Nat) (n f g : Int) (hn : 0 < n) (w : World) (h : DevAt w b n m f) : Calls Try.prog 14 #[.pointer (some ⟨b, 0, none⟩), .int .i64 g] w fun e w' => e = .returned (.tuple #[]) ∧ DevAt w' b n m g ∧ OutB b w w' := by
  have C1 := hide (made_yes b m n f hn w h)
  have cf := h.fz (i := 2)
  have c2 := h.c2
  have HP := hide h
  clear h hn
  go_enter Try.func14, Try.ntmps14
  go_wp2_with (go_at_call 16; refine C1.out.mono ?_; rintro e w1 ⟨rfl, k, rfl⟩)
  first | go_ret | go_end0 | refine bodyPost_ret (results_none rfl _ _ _) rfl ?_
  exact ⟨rfl, dev_put g (dev_dr _ HP.out), (OutB.of_below (below_drewN (Below.refl _ _) _)).trans (ob_put _ _ _ _)⟩

set_option maxHeartbeats 1000000 in
theorem blocks_no (p : Option Addr) (w : World) (h : NoDev w p) : Calls Try.prog 8 #[.pointer p] w (Quiet (.int .i64 0) w) := by
  have C1 := hide (made_no p w h)
  clear h
  go_enter Try.func8, Try.ntmps8
  go_wp2_with (go_at_call 16; refine C1.out.mono ?_; rintro e w1 ⟨rfl, k, rfl⟩)
  go_ret
  exact ⟨rfl, _, rfl⟩

set_option maxHeartbeats 1000000 in
theorem blocks_at (b m : Nat) (n f : Int) (hn : 0 < n) (w : World) (h : DevAt w b n m f) : Calls Try.prog 8 #[.pointer (some ⟨b, 0, none⟩)] w (Quiet (.int .i64 n) w) := by
  have C1 := hide (made_yes b m n f hn w h)
  have c0 := h.c0
  clear h hn
  go_enter Try.func8, Try.ntmps8
  go_wp2_with (go_at_call 16; refine C1.out.mono ?_; rintro e w1 ⟨rfl, k, rfl⟩)
  go_ret
  exact ⟨rfl, _, rfl⟩

set_option maxHeartbeats 1000000 in
theorem new_bad (n : Int) (h : n < 1 ∨ 64 < n) (w : World) : Calls Try.prog 6 #[.int .i64 n] w (Quiet (.tuple #[.pointer none, .int .i64 2]) w) := by
  by_cases h1 : n < 1
  · go_enter Try.func6, Try.ntmps6
    go_wp2
    go_ret2
    exact ⟨rfl, 0, rfl⟩
  · have h2 : 64 < n := by omega
    go_enter Try.func6, Try.ntmps6
    go_wp2
    go_ret2
    exact ⟨rfl, 0, rfl⟩

set_option maxHeartbeats 1000000 in
theorem new_at (n : Int) (h1 : 1 ≤ n) (h2 : n ≤ 64) (w : World) : Calls Try.prog 6 #[.int .i64 n] w fun e w' => ∃ b m, e = .returned (.tuple #[.pointer (some ⟨b, 0, none⟩), .int .i64 0]) ∧ w.heap.size ≤ b ∧ w.heap.size ≤ m ∧ b ≠ m ∧ DevAt w' b n m 0 ∧ MapB w' m 0 (fun _ => zeroB) ∧ Below w.heap.size w w' := by
  have hmm := @run_makeMap Try.prog
  have HM := hide (mb_made w)
  have HD : Hid (∀ W : World, DevAt (W.alloc (.cells #[.int .i64 n, .map (some w.heap.size), .int .i64 0] 47)) W.heap.size n w.heap.size 0) := hide (fun W => heap_alloc_last W _)
  go_enter Try.func6, Try.ntmps6
  go_wp2
  go_ret2
  exact ⟨_, _, rfl, by simp, Nat.le_refl _, by simp, by have := HD.out (w.alloc (.map #[] 0)); rwa [s_al] at this, mb_al _ HM.out, bw_alloc (bw_alloc (Below.refl _ _) _) _⟩

set_option maxHeartbeats 1000000 in
theorem write_no (p : Option Addr) (n : Int) (s : Option Addr) (l c : Nat) (w : World) (h : NoDev w p) : Calls Try.prog 10 #[.pointer p, .int .i64 n, .slice s l c] w (Quiet (.int .i64 1) w) := by
  have C1 := hide (begin_no p n l w h)
  clear h
  go_enter Try.func10, Try.ntmps10
  go_wp2_with (go_at_call 17; refine C1.out.mono ?_; rintro e w1 ⟨rfl, k, rfl⟩)
  go_ret
  exact ⟨rfl, _, rfl⟩

set_option maxHeartbeats 1000000 in
theorem read_no (p : Option Addr) (n : Int) (w : World) (h : NoDev w p) : Calls Try.prog 12 #[.pointer p, .int .i64 n] w (Quiet (.tuple #[.slice none 0 0, .int .i64 1]) w) := by
  have C1 := hide (begin_no p n 4096 w h)
  clear h
  go_enter Try.func12, Try.ntmps12
  go_wp2_with (go_at_call 17; refine C1.out.mono ?_; rintro e w1 ⟨rfl, k, rfl⟩)
  go_ret2
  exact ⟨rfl, _, rfl⟩

set_option maxHeartbeats 1000000 in
/-- A call that is refused without anything turned: x is the error. -/
theorem write_bad (p : Option Addr) (n x : Int) (hx : x = 1 ∨ x = 2) (s : Option Addr) (l c : Nat) (w : World) (h : Calls Try.prog 17 #[.pointer p, .int .i64 n, .int .i64 (l : Int)] w (Quiet (.int .i64 x) w)) : Calls Try.prog 10 #[.pointer p, .int .i64 n, .slice s l c] w (Quiet (.int .i64 x) w) := by
  have C1 := hide h
  have hx2 : (x != 0) = true := by rcases hx with rfl | rfl <;> rfl
  clear h hx
  go_enter Try.func10, Try.ntmps10
  go_wp2_with (go_at_call 17; refine C1.out.mono ?_; rintro e w1 ⟨rfl, k, rfl⟩)
  go_ret
  exact ⟨rfl, _, rfl⟩

set_option maxHeartbeats 1000000 in
theorem read_bad (p : Option Addr) (n x : Int) (hx : x = 1 ∨ x = 2) (w : World) (h : Calls Try.prog 17 #[.pointer p, .int .i64 n, .int .i64 4096] w (Quiet (.int .i64 x) w)) : Calls Try.prog 12 #[.pointer p, .int .i64 n] w (Quiet (.tuple #[.slice none 0 0, .int .i64 x]) w) := by
  have C1 := hide h
  have hx2 : (x != 0) = true := by rcases hx with rfl | rfl <;> rfl
  clear h hx
  go_enter Try.func12, Try.ntmps12
  go_wp2_with (go_at_call 17; refine C1.out.mono ?_; rintro e w1 ⟨rfl, k, rfl⟩)
  go_ret2
  exact ⟨rfl, _, rfl⟩

set_option maxHeartbeats 1000000 in
theorem write_fails (b m : Nat) (n f i : Int) (hn : 0 < n) (h0 : 0 ≤ i) (hi : i < n) (hf : 0 < f) (g : Int) (hg : wrap64 (f - 1) = g) (s : Option Addr) (c : Nat) (w : World) (h : DevAt w b n m f) :
    Calls Try.prog 10 #[.pointer (some ⟨b, 0, none⟩), .int .i64 i, .slice s 4096 c] w fun e w' => e = .returned (.int .i64 17) ∧ DevAt w' b n m g ∧ OutB b w w' := by
  have C1 := hide (begin_fails b m n f i hn h0 hi hf g hg w h)
  clear h hn h0 hi hf hg
  go_enter Try.func10, Try.ntmps10
  go_wp2_with (go_at_call 17; refine C1.out.mono ?_; rintro e w1 ⟨rfl, hd1, ho1⟩)
  go_ret
  exact ⟨rfl, hd1, ho1⟩

set_option maxHeartbeats 1000000 in
theorem read_fails (b m : Nat) (n f i : Int) (hn : 0 < n) (h0 : 0 ≤ i) (hi : i < n) (hf : 0 < f) (g : Int) (hg : wrap64 (f - 1) = g) (w : World) (h : DevAt w b n m f) :
    Calls Try.prog 12 #[.pointer (some ⟨b, 0, none⟩), .int .i64 i] w fun e w' => e = .returned (.tuple #[.slice none 0 0, .int .i64 17]) ∧ DevAt w' b n m g ∧ OutB b w w' := by
  have C1 := hide (begin_fails b m n f i hn h0 hi hf g hg w h)
  clear h hn h0 hi hf hg
  go_enter Try.func12, Try.ntmps12
  go_wp2_with (go_at_call 17; refine C1.out.mono ?_; rintro e w1 ⟨rfl, hd1, ho1⟩)
  go_ret2
  exact ⟨rfl, hd1, ho1⟩
end Go.Proofs.Ytadhjgjemndnpaa
