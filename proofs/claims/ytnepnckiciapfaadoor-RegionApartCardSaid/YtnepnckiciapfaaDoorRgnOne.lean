/-
  The law's own instance (one).
-/
import Derived.Test.YtnepnckiciapfaaDoorRgnFind
import Derived.Test.YtnepnckiciapfaaDoorRgn1
namespace Go.Proofs.YtnepnckiciapfaaDoor
open Go.RowKit RgnMath BoundsMath

theorem kept_8192 : Kept 0 8192 2 := by
  refine ⟨by omega, ?_, fun k hk => ?_⟩
  · unfold keeps; rw [if_neg (by omega)]; decide
  · obtain rfl | rfl : k = 0 ∨ k = 1 := by omega
    · unfold keeps; rw [if_pos rfl]; decide
    · unfold keeps; rw [if_neg (by omega)]; decide
theorem shape_5000 (w : World) : Calls Tryd.prog 14 #[.int .u64 5000] w (Makes (.tuple #[.int .u64 8192, .int .i64 12]) w) := by
  have c1 : ∀ W, Calls Tryd.prog 25 #[.int .u64 5000, .int .i64 12] W (Makes (.tuple #[.int .u64 8192, .bool true]) W) := fun W => by
    have := (sup_nat 5000 12 (by omega) (by omega) W).mono fun _ _ h => quiet_makes h
    rwa [show up 5000 12 = 8192 by decide] at this
  have c2 : ∀ W, Calls Tryd.prog 26 #[.int .u64 8192] W (Makes (.tuple #[.int .u64 8192, .bool true]) W) := fun W => by
    have := glength_nat 8192 2 (by omega) kept_8192 W
    rwa [show up 8192 (2 - 1) = 8192 by decide] at this
  have c3 : ∀ W, Calls Tryd.prog 25 #[.int .u64 8192, .int .i64 12] W (Makes (.tuple #[.int .u64 8192, .bool true]) W) := fun W => by
    have := (sup_nat 8192 12 (by omega) (by omega) W).mono fun _ _ h => quiet_makes h
    rwa [show up 8192 12 = 8192 by decide] at this
  have c4 : ∀ W, Calls Tryd.prog 27 #[.int .u64 8192] W (Makes (.tuple #[.int .i64 1, .bool true]) W) := fun W => galign_nat 8192 2 (by omega) kept_8192 W
  exact shape_of _ _ _ _ _ c1 c2 c3 c4 (by omega) w
theorem find_5000 (w : World) : Calls Tryd.prog 6 #[.agg #[.int .u64 4096, .int .u64 65536, .slice none 0 0], .int .u64 5000] w (Makes (.tuple #[.agg #[.int .u64 4096, .int .u64 12288], .int .i64 0]) w) := by
  have cl : ∀ W, Lst W (.slice none 0 0) [] → Calls Tryd.prog 13 #[.agg #[.int .u64 4096, .int .u64 65536, .slice none 0 0], .int .u64 8192, .int .i64 12] W (Makes (.tuple #[.agg #[.int .u64 4096, .int .u64 12288], .bool true]) W) := fun W hW => by
    have := low_any 4096 65536 8192 12 (.slice none 0 0) [] asc_nil (by omega) (by omega) (by omega) (by omega) (by simp) W hW
    rwa [show lowF 8192 12 (up 4096 12) (wallsF [] 65536) = some 4096 by decide] at this
  exact find_of 4096 65536 5000 8192 12 4096 12288 true 0 0 none [] w (lst_nil w) (by omega) (by omega) shape_5000 cl

set_option maxHeartbeats 2000000 in
theorem one_any (w : World) : Calls Tryd.prog 5 #[] w (Makes (.bool true) w) := by
  have C1 : Hid (∀ W, Calls Tryd.prog 4 #[.agg #[.int .u64 4096, .int .u64 65536]] W (Makes (.tuple #[.agg #[.int .u64 4096, .int .u64 65536, .slice none 0 0], .int .i64 0]) W)) := hide (fun W => by
    have := new_any 4096 65536 W
    rwa [if_pos (by decide)] at this)
  have C2 := hide find_5000
  have E1 := eq_s 4096 12288 4096 12288
  have E2 := eqi_s 4096 12288 4096 12288
  have SS := cell_same
  have LB' := ltB_add
  have LS := ltB_self
  have LA' := alloc_reads
  have LH := alloc_holds
  go_enter Tryd.func5, Tryd.ntmps5
  go_wp2_with (first | (go_at_call 4; (with_reducible refine (C1.out _).mono ?_); rintro e w1 ⟨rfl, hb1⟩; have hr1 := below_reads hb1; have hh1 := below_holds hb1; obtain ⟨m1, hs1⟩ := below_grew hb1) | (go_at_call 6; (with_reducible refine (C2.out _).mono ?_); rintro e w2 ⟨rfl, hb2⟩; have hr2 := below_reads hb2; have hh2 := below_holds hb2; obtain ⟨m2, hs2⟩ := below_grew hb2))
  all_goals
    go_ret
    exact ⟨rfl, by repeat (first | with_reducible assumption | with_reducible exact Below.refl _ _ | with_reducible refine Below.drew ?_ | with_reducible refine below_drewN ?_ _ | with_reducible refine bw_alloc ?_ _ | (with_reducible refine bw_set ?_ ?_ _; focus (dsimp only; omega)) | (with_reducible apply bw_behind; with_reducible assumption))⟩
end Go.Proofs.YtnepnckiciapfaaDoor
