/-
  How long a span for n bytes is, and its step.
-/
import Derived.Test.YtnepnckiciapfaaDoorRgnMath
import Derived.Test.YtnepnckiciapfaaDoorBoundsLaw
import Derived.Test.YtnepnckiciapfaaDoorBoundsWalks
import Derived.Test.YtnepnckiciapfaaDoorTail2
import Derived.Deep.DeepCutAuto
namespace Go.Proofs.YtnepnckiciapfaaDoor
open Go.RowKit RgnMath BoundsMath

theorem glength_nat (n e : Nat) (hn : n ≤ 281474976710656) (hk : Kept 0 n e) (W : World) :
    Calls Tryd.prog 26 #[.int .u64 (n : Int)] W (Makes (.tuple #[.int .u64 ((up n (e - 1) : Nat) : Int), .bool true]) W) :=
  length_of _ _ _ _ _ (fun W => extended_any 0 n e (Nat.zero_le _) hn hk W) W
theorem galign_nat (n e : Nat) (hn : n ≤ 281474976710656) (hk : Kept 0 n e) (W : World) :
    Calls Tryd.prog 27 #[.int .u64 (n : Int)] W (Makes (.tuple #[.int .i64 ((e - 1 : Nat) : Int), .bool true]) W) :=
  align_of _ _ _ e hk.le _ (fun W => extended_any 0 n e (Nat.zero_le _) hn hk W) W

set_option maxHeartbeats 1000000 in
theorem shape_of (N A B X Y : Int) (c1 : ∀ W, Calls Tryd.prog 25 #[.int .u64 N, .int .i64 12] W (Makes (.tuple #[.int .u64 A, .bool true]) W)) (c2 : ∀ W, Calls Tryd.prog 26 #[.int .u64 A] W (Makes (.tuple #[.int .u64 B, .bool true]) W))
    (c3 : ∀ W, Calls Tryd.prog 25 #[.int .u64 B, .int .i64 12] W (Makes (.tuple #[.int .u64 B, .bool true]) W)) (c4 : ∀ W, Calls Tryd.prog 27 #[.int .u64 B] W (Makes (.tuple #[.int .i64 X, .bool true]) W)) (hm : max X 12 = Y) (w : World) :
    Calls Tryd.prog 14 #[.int .u64 N] w (Makes (.tuple #[.int .u64 B, .int .i64 Y]) w) := by
  have C1 := hide c1
  have C2 := hide c2
  have C3 := hide c3
  have C4 := hide c4
  clear c1 c2 c3 c4
  by_cases hx : X < 12
  · have hy : Y = 12 := by omega
    subst hy
    clear hm
    go_enter Tryd.func14, Tryd.ntmps14
    go_wp2_with fail
    refine Calls.mono (C1.out _) ?_
    rintro e w1 ⟨rfl, hb1⟩
    go_wp2_with fail
    refine Calls.mono (C2.out _) ?_
    rintro e w2 ⟨rfl, hb2⟩
    go_wp2_with fail
    refine Calls.mono (C3.out _) ?_
    rintro e w3 ⟨rfl, hb3⟩
    go_wp2_with fail
    refine Calls.mono (C4.out _) ?_
    rintro e w4 ⟨rfl, hb4⟩
    go_wp2_with fail
    go_ret2
    exact ⟨rfl, by repeat (first | with_reducible assumption | with_reducible exact Below.refl _ _ | with_reducible refine Below.drew ?_ | with_reducible refine below_drewN ?_ _ | with_reducible refine bw_alloc ?_ _ | (with_reducible apply bw_behind; with_reducible assumption))⟩
  · have hy : Y = X := by omega
    subst hy
    clear hm
    go_enter Tryd.func14, Tryd.ntmps14
    go_wp2_with fail
    refine Calls.mono (C1.out _) ?_
    rintro e w1 ⟨rfl, hb1⟩
    go_wp2_with fail
    refine Calls.mono (C2.out _) ?_
    rintro e w2 ⟨rfl, hb2⟩
    go_wp2_with fail
    refine Calls.mono (C3.out _) ?_
    rintro e w3 ⟨rfl, hb3⟩
    go_wp2_with fail
    refine Calls.mono (C4.out _) ?_
    rintro e w4 ⟨rfl, hb4⟩
    go_wp2_with fail
    go_ret2
    exact ⟨rfl, by repeat (first | with_reducible assumption | with_reducible exact Below.refl _ _ | with_reducible refine Below.drew ?_ | with_reducible refine below_drewN ?_ _ | with_reducible refine bw_alloc ?_ _ | (with_reducible apply bw_behind; with_reducible assumption))⟩

theorem shape_any (n : Nat) (h0 : 0 < n) (hn : n ≤ 274877906944) : ∃ l x, Shape n l x ∧ ∀ w, Calls Tryd.prog 14 #[.int .u64 (n : Int)] w (Makes (.tuple #[.int .u64 (l : Int), .int .i64 (x : Int)]) w) := by
  obtain ⟨e, hk, hk2, h12, hu, hu2, he, hs⟩ := shape_ex n h0 hn
  refine ⟨_, _, hs, fun w => ?_⟩
  have c1 := fun W => (sup_nat n 12 (by omega) (by omega) W).mono fun _ _ h => quiet_makes h
  have c2 := fun W => glength_nat (up n 12) e (by omega) hk W
  have c3 := fun W => (sup_nat (up (up n 12) (e - 1)) 12 (by omega) (by omega) W).mono fun _ _ h => quiet_makes h
  rw [h12] at c3
  have c4 := fun W => galign_nat (up (up n 12) (e - 1)) e (by omega) hk2 W
  exact shape_of _ _ _ _ _ c1 c2 c3 c4 (by omega) w
end Go.Proofs.YtnepnckiciapfaaDoor
