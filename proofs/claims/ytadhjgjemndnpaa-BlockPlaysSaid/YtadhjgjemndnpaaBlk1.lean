/-
  made, begin, New, Blocks, Fail.
-/
import Derived.Test.YtadhjgjemndnpaaBlkMap
namespace Go.Proofs.Ytadhjgjemndnpaa
open Go.RowKit Go.Maps

theorem ob_put (W : World) (b i : Nat) (u : Value) : OutB b W (W.setCell ⟨b, i, none⟩ u) := ⟨rfl, rfl, rfl, by simp [World.setCell], fun k _ hne => Below.heap_setCell _ _ _ k hne⟩
theorem Quiet.at {f : FuncId} {args : Array Value} {v : Value} {w : World} (c : ∀ n, Calls Try.prog f args (w.drewN n) (Quiet v (w.drewN n))) {n : Nat} :
    Calls Try.prog f args (w.drewN n) fun e w'' => e = .returned v ∧ ∃ m, w'' = w.drewN m :=
  (c n).mono fun _ _ ⟨he, m, hm⟩ => ⟨he, n + m, by rw [hm, World.drewN_drewN]⟩
theorem Quiet.atAdd {f : FuncId} {args : Array Value} {v : Value} {w : World} (c : ∀ n, Calls Try.prog f args (w.drewN n) (Quiet v (w.drewN n))) {a n : Nat} :
    Calls Try.prog f args (w.drewN (a + n)) fun e w'' => e = .returned v ∧ ∃ m, w'' = w.drewN (a + m) :=
  (c (a + n)).mono fun _ _ ⟨he, m, hm⟩ => ⟨he, n + m, by rw [hm, World.drewN_drewN, Nat.add_assoc]⟩

set_option maxHeartbeats 400000 in
theorem made_nil (w : World) : Calls Try.prog 16 #[.pointer none] w (Quiet (.bool false) w) := by
  go_enter Try.func16, Try.ntmps16
  go_wp2
  go_ret
  exact ⟨rfl, 0, rfl⟩

set_option maxHeartbeats 400000 in
theorem made_let (b : Nat) (n : Int) (w : World) (c0 : w.cell? ⟨b, 0, none⟩ = some (.int .i64 n)) :
    Calls Try.prog 16 #[.pointer (some ⟨b, 0, none⟩)] w (Quiet (.bool (decide (0 < n))) w) := by
  go_enter Try.func16, Try.ntmps16
  go_wp2
  go_ret
  exact ⟨rfl, 0, rfl⟩

/-- A nil device, or one that nobody made. -/
def NoDev (W : World) (p : Option Addr) : Prop := p = none ∨ ∃ b, p = some ⟨b, 0, none⟩ ∧ DevZero W b
theorem no_be {W W' : World} {p : Option Addr} (hb : Below W.heap.size W W') (h : NoDev W p) : NoDev W' p := by
  rcases h with h | ⟨b, h1, h2⟩
  · exact .inl h
  · exact .inr ⟨b, h1, dz_be hb h2⟩
theorem no_al {W : World} {p : Option Addr} (ob : Obj) (h : NoDev W p) : NoDev (W.alloc ob) p := no_be (below_alloc (Below.refl _ _) (Nat.le_refl _) ob) h
theorem no_dr {W : World} {p : Option Addr} (n : Nat) (h : NoDev W p) : NoDev (W.drewN n) p := h
theorem made_no (p : Option Addr) (W : World) (h : NoDev W p) : Calls Try.prog 16 #[.pointer p] W (Quiet (.bool false) W) := by
  rcases h with rfl | ⟨b, rfl, h2⟩
  · exact made_nil W
  · exact made_let b 0 W h2.c0
theorem made_yes (b m : Nat) (n f : Int) (hn : 0 < n) (W : World) (h : DevAt W b n m f) : Calls Try.prog 16 #[.pointer (some ⟨b, 0, none⟩)] W (Quiet (.bool true) W) := by
  have := made_let b n W h.c0
  rw [decide_eq_true hn] at this
  exact this

set_option maxHeartbeats 1000000 in
theorem begin_no (p : Option Addr) (n l : Int) (w : World) (h : NoDev w p) : Calls Try.prog 17 #[.pointer p, .int .i64 n, .int .i64 l] w (Quiet (.int .i64 1) w) := by
  have C1 := hide (made_no p w h)
  clear h
  go_enter Try.func17, Try.ntmps17
  go_wp2_with ((go_at_call 16; refine C1.out.mono ?_; rintro e w1 ⟨rfl, k, rfl⟩))
  go_ret
  exact ⟨rfl, _, rfl⟩

set_option maxHeartbeats 1000000 in
theorem begin_neg (b m : Nat) (n f i l : Int) (hn : 0 < n) (hi : i < 0) (w : World) (h : DevAt w b n m f) : Calls Try.prog 17 #[.pointer (some ⟨b, 0, none⟩), .int .i64 i, .int .i64 l] w (Quiet (.int .i64 2) w) := by
  have C1 := hide (made_yes b m n f hn w h)
  have c0 := h.c0
  have c2 := h.c2
  clear h hn
  go_enter Try.func17, Try.ntmps17
  go_wp2_with ((go_at_call 16; refine C1.out.mono ?_; rintro e w1 ⟨rfl, k, rfl⟩))
  go_ret
  exact ⟨rfl, _, rfl⟩

set_option maxHeartbeats 1000000 in
theorem begin_far (b m : Nat) (n f i l : Int) (hn : 0 < n) (h0 : 0 ≤ i) (hi : n ≤ i) (w : World) (h : DevAt w b n m f) : Calls Try.prog 17 #[.pointer (some ⟨b, 0, none⟩), .int .i64 i, .int .i64 l] w (Quiet (.int .i64 2) w) := by
  have C1 := hide (made_yes b m n f hn w h)
  have c0 := h.c0
  have c2 := h.c2
  clear h hn
  go_enter Try.func17, Try.ntmps17
  go_wp2_with ((go_at_call 16; refine C1.out.mono ?_; rintro e w1 ⟨rfl, k, rfl⟩))
  go_ret
  exact ⟨rfl, _, rfl⟩

set_option maxHeartbeats 1000000 in
theorem begin_len (b m : Nat) (n f i l : Int) (hn : 0 < n) (h0 : 0 ≤ i) (hi : i < n) (hl : (l != 4096) = true) (w : World) (h : DevAt w b n m f) : Calls Try.prog 17 #[.pointer (some ⟨b, 0, none⟩), .int .i64 i, .int .i64 l] w (Quiet (.int .i64 2) w) := by
  have C1 := hide (made_yes b m n f hn w h)
  have c0 := h.c0
  have c2 := h.c2
  clear h hn
  go_enter Try.func17, Try.ntmps17
  go_wp2_with ((go_at_call 16; refine C1.out.mono ?_; rintro e w1 ⟨rfl, k, rfl⟩))
  go_ret
  exact ⟨rfl, _, rfl⟩

set_option maxHeartbeats 1000000 in
theorem begin_ok (b m : Nat) (n f i : Int) (hn : 0 < n) (h0 : 0 ≤ i) (hi : i < n) (hf : f ≤ 0) (w : World) (h : DevAt w b n m f) : Calls Try.prog 17 #[.pointer (some ⟨b, 0, none⟩), .int .i64 i, .int .i64 4096] w (Quiet (.int .i64 0) w) := by
  have C1 := hide (made_yes b m n f hn w h)
  have c0 := h.c0
  have c2 := h.c2
  clear h hn
  go_enter Try.func17, Try.ntmps17
  go_wp2_with ((go_at_call 16; refine C1.out.mono ?_; rintro e w1 ⟨rfl, k, rfl⟩))
  go_ret
  exact ⟨rfl, _, rfl⟩

set_option maxHeartbeats 1000000 in
theorem begin_fails (b m : Nat) (n f i : Int) (hn : 0 < n) (h0 : 0 ≤ i) (hi : i < n) (hf : 0 < f) (g : Int) (hg : wrap64 (f - 1) = g) (w : World) (h : DevAt w b n m f) : Calls Try.prog 17 #[.pointer (some ⟨b, 0, none⟩), .int .i64 i, .int .i64 4096] w fun e w' => e = .returned (.int .i64 17) ∧ DevAt w' b n m g ∧ OutB b w w' := by
  have C1 := hide (made_yes b m n f hn w h)
  have c0 := h.c0
  have c2 := h.c2
  have cf := h.fz (i := 2)
  have HP := hide h
  clear h hn
  go_enter Try.func17, Try.ntmps17
  go_wp2_with ((go_at_call 16; refine C1.out.mono ?_; rintro e w1 ⟨rfl, k, rfl⟩))
  go_ret
  exact ⟨rfl, dev_put g (dev_dr _ HP.out), (OutB.of_below (below_drewN (Below.refl _ _) _)).trans (ob_put _ _ _ _)⟩
end Go.Proofs.Ytadhjgjemndnpaa
