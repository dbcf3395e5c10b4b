/-
  What inst.fits answers.
-/
import Derived.Test.YtlommbeokbicjaaGreatDoorInst1
import Derived.Test.YtlommbeokbicjaaGreatDoorFieldWalks
namespace Go.Proofs.YtlommbeokbicjaaGreatDoor
open Go.RowKit Words FieldMath InstMath

set_option maxHeartbeats 1000000 in
theorem fit_reg (s o : Int) (v : Int) (B : Bool) (ho : (o != 3) = true) (hF : ∀ W, Calls Tryz.prog 40 #[.int .i64 v, .int .i64 5, .bool false] W (Quiet (.bool B) W)) (w : World) :
    Calls Tryz.prog 17 #[.int .u8 s, .int .i64 o, .int .i64 v] w (Makes (.bool B) w) := by
  have CF := hide hF
  clear hF
  go_enter Tryz.func17, Tryz.ntmps17
  go_wp2_with (go_at_call 40; (with_reducible refine (CF.out _).mono ?_); rintro e w' ⟨rfl, n1, rfl⟩)
  go_ret
  exact ⟨rfl, below_drewN (Below.refl _ _) _⟩
set_option maxHeartbeats 1000000 in
theorem fit_imm (s : Int) (v A K M : Int) (S B Z : Bool) (hK : K ≠ 0) (hM : v.tmod K = M) (hZ : (M == 0) = Z) (hN : ∀ W, Calls Tryz.prog 41 #[.int .u8 s] W (Makes (.agg #[.int .i64 A, .bool S, .int .i64 K]) W))
    (hF : ∀ W, Calls Tryz.prog 40 #[.int .i64 v, .int .i64 A, .bool S] W (Quiet (.bool B) W)) (w : World) :
    Calls Tryz.prog 17 #[.int .u8 s, .int .i64 3, .int .i64 v] w (Makes (.bool (B && Z)) w) := by
  have CF := hide hF
  have CN := hide hN
  clear hF hN
  have SS := cell_same
  have LB' := ltB_add
  have LS := ltB_self
  have LA' := alloc_reads
  have LH := alloc_holds
  cases B with
  | false =>
    go_enter Tryz.func17, Tryz.ntmps17
    go_wp2_with (first | (go_at_call 40; (with_reducible refine (CF.out _).mono ?_); rintro e w' ⟨rfl, n1, rfl⟩) | (go_at_call 41; (with_reducible first | refine (CN.out _).mono ?_); rintro e w1 ⟨rfl, hb1⟩; have hr1 := below_reads hb1; have hh1 := below_holds hb1; obtain ⟨m1, hs1⟩ := below_grew hb1))
    go_ret
    refine ⟨rfl, ?_⟩
    repeat (first | with_reducible assumption | with_reducible exact Below.refl _ _ | with_reducible refine Below.drew ?_ | with_reducible refine below_drewN ?_ _ | with_reducible refine bw_alloc ?_ _ | (with_reducible refine bw_set ?_ ?_ _; focus (dsimp only; omega)) | (with_reducible apply bw_behind; with_reducible assumption))
  | true =>
    go_enter Tryz.func17, Tryz.ntmps17
    go_wp2_with (first | (go_at_call 40; (with_reducible refine (CF.out _).mono ?_); rintro e w' ⟨rfl, n1, rfl⟩) | (go_at_call 41; (with_reducible first | refine (CN.out _).mono ?_); rintro e w1 ⟨rfl, hb1⟩; have hr1 := below_reads hb1; have hh1 := below_holds hb1; obtain ⟨m1, hs1⟩ := below_grew hb1))
    go_ret
    refine ⟨rfl, ?_⟩
    repeat (first | with_reducible assumption | with_reducible exact Below.refl _ _ | with_reducible refine Below.drew ?_ | with_reducible refine below_drewN ?_ _ | with_reducible refine bw_alloc ?_ _ | (with_reducible refine bw_set ?_ ?_ _; focus (dsimp only; omega)) | (with_reducible apply bw_behind; with_reducible assumption))
theorem nK_pos {s : Nat} (hs : IsShape s) : (nK s : Int) ≠ 0 := by
  have : nK s ≠ 0 := each_shape (P := fun s => nK s ≠ 0) (by decide +kernel) hs
  omega
theorem ifits_any (s : Nat) (hs : IsShape s) (o : Nat) (v : Int) (h1 : -9223372036854775808 ≤ v) (h2 : v < 9223372036854775808) (w : World) :
    Calls Tryz.prog 17 #[.int .u8 (s : Int), .int .i64 (o : Int), .int .i64 v] w (Makes (.bool (fitB s o v)) w) := by
  unfold fitB
  by_cases ho : o = 3
  · subst ho
    rw [if_pos rfl]
    exact fit_imm s v _ _ _ _ _ _ (nK_pos hs) rfl rfl (num_any s hs) (fun W => fits_any v _ _ W h1 h2) w
  · rw [if_neg ho]
    exact fit_reg s o v _ (by simp; omega) (fun W => fits_any v _ _ W h1 h2) w
end Go.Proofs.YtlommbeokbicjaaGreatDoor
