/-
  The tables of package perm (letters, accesses), as a walk reads them; and what Within, known, Needs, Name, permissionOf answer.
-/
import Derived.Test.YtbncoiejbclpjaaDoorWords
import Derived.Test.YtbncoiejbclpjaaDoorGrows
import Derived.Test.YtbncoiejbclpjaaDoorPermMath
namespace Go.Proofs.YtbncoiejbclpjaaDoor
open Go.RowKit Words PermMath

theorem bits_nil : (ByteArray.mk #[]) = bytesOf [] := rfl

/-- What each kind of access needs, and its name. -/
def nameB (k : Nat) : ByteArray := bytesOf (if k = 0 then [102, 101, 116, 99, 104] else if k = 1 then [114, 101, 97, 100] else if k = 2 then [119, 114, 105, 116, 101] else if k = 3 then [114, 101, 97, 100, 99, 97, 112] else if k = 4 then [119, 114, 105, 116, 101, 99, 97, 112] else [])
structure TabA (W : World) : Prop where
  n0 : W.cell? ⟨0, 0, none⟩ = some (.int .u64 4)
  s0 : W.cell? ⟨0, 1, none⟩ = some (.string (nameB 0))
  n1 : W.cell? ⟨0, 2, none⟩ = some (.int .u64 1)
  s1 : W.cell? ⟨0, 3, none⟩ = some (.string (nameB 1))
  n2 : W.cell? ⟨0, 4, none⟩ = some (.int .u64 2)
  s2 : W.cell? ⟨0, 5, none⟩ = some (.string (nameB 2))
  n3 : W.cell? ⟨0, 6, none⟩ = some (.int .u64 9)
  s3 : W.cell? ⟨0, 7, none⟩ = some (.string (nameB 3))
  n4 : W.cell? ⟨0, 8, none⟩ = some (.int .u64 18)
  s4 : W.cell? ⟨0, 9, none⟩ = some (.string (nameB 4))
theorem TabA.pos {W : World} (h : TabA W) : 0 < W.heap.size := World.block_lt_of_cell? W _ h.n0
theorem TabA.below {n : Nat} {W W' : World} (h : TabA W) (hb : Below n W W') (hn : 0 < n) : TabA W' :=
  ⟨(hb.cell (p := ⟨0, 0, none⟩) hn).trans h.n0, (hb.cell (p := ⟨0, 1, none⟩) hn).trans h.s0, (hb.cell (p := ⟨0, 2, none⟩) hn).trans h.n1, (hb.cell (p := ⟨0, 3, none⟩) hn).trans h.s1, (hb.cell (p := ⟨0, 4, none⟩) hn).trans h.n2, (hb.cell (p := ⟨0, 5, none⟩) hn).trans h.s2, (hb.cell (p := ⟨0, 6, none⟩) hn).trans h.n3, (hb.cell (p := ⟨0, 7, none⟩) hn).trans h.s3, (hb.cell (p := ⟨0, 8, none⟩) hn).trans h.n4, (hb.cell (p := ⟨0, 9, none⟩) hn).trans h.s4⟩
theorem TabA.behind {W W' : World} (h : TabA W) (hb : Below W.heap.size W W') : TabA W' := h.below hb h.pos

/-- The call answers v, and turns nothing. -/
def Same (v : Value) (w : World) (e : Ending) (w' : World) : Prop := e = .returned v ∧ w = w'
theorem Same.mk0 {v : Value} {w : World} : Same v w (.returned v) w := ⟨rfl, rfl⟩

def withinB (x y : BitVec 64) : Bool := x &&& ~~~y == 0#64
theorem withinB_iff (x y : BitVec 64) : withinB x y = true ↔ ∀ i, i < 64 → x.getLsbD i = true → y.getLsbD i = true := by
  unfold withinB
  rw [beq_iff_eq]
  constructor
  · intro h i hi hx
    have := congrArg (fun z => z.getLsbD i) h
    simp [hi, hx] at this
    exact this
  · intro h
    refine ext64 fun i hi => ?_
    have := h i hi
    simp [hi]
    exact this

set_option maxHeartbeats 400000 in
theorem within_any (x y : BitVec 64) (w : World) : Calls Tryd.prog 68 #[.int .u64 (x.toNat : Int), .int .u64 (y.toNat : Int)] w (Same (.bool (withinB x y)) w) := by
  have h1 := andNot_bv x y
  have h2 : (((x &&& ~~~y).toNat : Int) == 0) = withinB x y := by
    have := bv_eq_iff (x &&& ~~~y) 0#64
    unfold withinB
    rw [← this]
    rfl
  generalize withinB x y = V at *
  generalize ((x &&& ~~~y).toNat : Int) = Z at *
  generalize (x.toNat : Int) = X at *
  generalize (y.toNat : Int) = Y at *
  go_enter Tryd.func68, Tryd.ntmps68
  go_wp2
  go_ret
  exact ⟨rfl, rfl⟩

set_option maxHeartbeats 400000 in
theorem known_any (k : Int) (w : World) : Calls Tryd.prog 90 #[.int .i64 k] w (Same (.bool (decide (0 ≤ k ∧ k < 5))) w) := by
  by_cases h : 0 ≤ k
  · by_cases h2 : k < 5
    · rw [decide_eq_true ⟨h, h2⟩]
      go_enter Tryd.func90, Tryd.ntmps90
      go_wp2
      go_ret
      exact ⟨rfl, rfl⟩
    · rw [decide_eq_false (fun hh => h2 hh.2)]
      go_enter Tryd.func90, Tryd.ntmps90
      go_wp2
      go_ret
      exact ⟨rfl, rfl⟩
  · rw [decide_eq_false (fun hh => h hh.1)]
    go_enter Tryd.func90, Tryd.ntmps90
    go_wp2
    go_ret
    exact ⟨rfl, rfl⟩

def needsI (k : Int) : Int := if k = 0 then 4 else if k = 1 then 1 else if k = 2 then 2 else if k = 3 then 9 else if k = 4 then 18 else 511
def nameI (k : Int) : ByteArray := if k = 0 then nameB 0 else if k = 1 then nameB 1 else if k = 2 then nameB 2 else if k = 3 then nameB 3 else if k = 4 then nameB 4 else bytesOf []
theorem kinds (k : Int) : k = 0 ∨ k = 1 ∨ k = 2 ∨ k = 3 ∨ k = 4 ∨ ¬ (0 ≤ k ∧ k < 5) := by omega
set_option maxHeartbeats 1000000 in
theorem needs_any (k : Int) (w : World) (hT : TabA w) : Calls Tryd.prog 70 #[.int .i64 k] w (Same (.int .u64 (needsI k)) w) := by
  obtain ⟨n0, s0, n1, s1, n2, s2, n3, s3, n4, s4⟩ := hT
  rcases kinds k with rfl | rfl | rfl | rfl | rfl | h
  · have C : Hid (∀ W, Calls Tryd.prog 90 #[.int .i64 0] W (Same (.bool true) W)) := hide (fun W => known_any 0 W)
    go_enter Tryd.func70, Tryd.ntmps70
    go_wp2_with (go_at_call 90; (with_reducible refine (C.out _).mono ?_); rintro e w' ⟨rfl, rfl⟩)
    go_ret
    exact ⟨rfl, rfl⟩
  · have C : Hid (∀ W, Calls Tryd.prog 90 #[.int .i64 1] W (Same (.bool true) W)) := hide (fun W => known_any 1 W)
    go_enter Tryd.func70, Tryd.ntmps70
    go_wp2_with (go_at_call 90; (with_reducible refine (C.out _).mono ?_); rintro e w' ⟨rfl, rfl⟩)
    go_ret
    exact ⟨rfl, rfl⟩
  · have C : Hid (∀ W, Calls Tryd.prog 90 #[.int .i64 2] W (Same (.bool true) W)) := hide (fun W => known_any 2 W)
    go_enter Tryd.func70, Tryd.ntmps70
    go_wp2_with (go_at_call 90; (with_reducible refine (C.out _).mono ?_); rintro e w' ⟨rfl, rfl⟩)
    go_ret
    exact ⟨rfl, rfl⟩
  · have C : Hid (∀ W, Calls Tryd.prog 90 #[.int .i64 3] W (Same (.bool true) W)) := hide (fun W => known_any 3 W)
    go_enter Tryd.func70, Tryd.ntmps70
    go_wp2_with (go_at_call 90; (with_reducible refine (C.out _).mono ?_); rintro e w' ⟨rfl, rfl⟩)
    go_ret
    exact ⟨rfl, rfl⟩
  · have C : Hid (∀ W, Calls Tryd.prog 90 #[.int .i64 4] W (Same (.bool true) W)) := hide (fun W => known_any 4 W)
    go_enter Tryd.func70, Tryd.ntmps70
    go_wp2_with (go_at_call 90; (with_reducible refine (C.out _).mono ?_); rintro e w' ⟨rfl, rfl⟩)
    go_ret
    exact ⟨rfl, rfl⟩
  · have hv : needsI k = 511 := by unfold needsI; repeat' (rw [if_neg (by omega)])
    have C : Hid (∀ W, Calls Tryd.prog 90 #[.int .i64 k] W (Same (.bool false) W)) := hide (fun W => by have := known_any k W; rwa [decide_eq_false h] at this)
    rw [hv]
    clear hv h
    go_enter Tryd.func70, Tryd.ntmps70
    go_wp2_with (go_at_call 90; (with_reducible refine (C.out _).mono ?_); rintro e w' ⟨rfl, rfl⟩)
    go_ret
    exact ⟨rfl, rfl⟩

end Go.Proofs.YtbncoiejbclpjaaDoor
