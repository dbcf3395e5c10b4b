/-
  What the document's own answers of layer 5 (package mintmarkref05) are: Right, Within.
-/
import Derived.Test.YtbncoiejbclpjaaDoorCapRef
import Derived.Test.YtbncoiejbclpjaaDoorCapMeta
namespace Go.Proofs.YtbncoiejbclpjaaDoor
open Go.RowKit Words FieldMath BoundsMath

set_option maxHeartbeats 1000000 in
theorem rright_let (q O V1 V2 : Bool) (M A D U P K S1 Z S2 : Int) (s1 : M / 2199023255552 = S1) (z : S1.tmod 128 = Z) (s2 : M / 1152921504606846976 = S2) (h1 : (Z == 0) = V1) (h2 : (S2 == 0) = V2)
    (c1 : ∀ W, Calls Tryd.prog 42 #[.agg #[.bool q, .int .u64 M, .int .u64 A]] W (Makes (.tuple #[.agg #[.int .u64 D, .int .u64 U, .int .u64 P, .int .u64 K], .bool O]) W)) (w : World) :
    Calls Tryd.prog 86 #[.agg #[.bool q, .int .u64 M, .int .u64 A]] w (Makes (.bool (O && (V1 && V2))) w) := by
  have C1 := hide c1
  clear c1
  have SS := cell_same
  have LB' := ltB_add
  have LS := ltB_self
  have LA' := alloc_reads
  have LH := alloc_holds
  cases O
  · go_enter Tryd.func86, Tryd.ntmps86
    go_wp2_with (first | (go_at_call 42; (with_reducible first | refine (C1.out _).mono ?_); rintro e wa ⟨rfl, hba⟩; have hra := below_reads hba; have hha := below_holds hba; obtain ⟨ma, hsa⟩ := below_grew hba))
    go_ret
    refine ⟨rfl, ?_⟩
    repeat (first | with_reducible assumption | with_reducible exact Below.refl _ _ | with_reducible refine Below.drew ?_ | with_reducible refine below_drewN ?_ _ | with_reducible refine bw_alloc ?_ _ | (with_reducible refine bw_set ?_ ?_ _; focus (dsimp only; omega)) | (with_reducible apply bw_behind; with_reducible assumption))
  · cases V1
    all_goals
      go_enter Tryd.func86, Tryd.ntmps86
      go_wp2_with (first | (go_at_call 42; (with_reducible first | refine (C1.out _).mono ?_); rintro e wa ⟨rfl, hba⟩; have hra := below_reads hba; have hha := below_holds hba; obtain ⟨ma, hsa⟩ := below_grew hba))
      go_ret
      refine ⟨rfl, ?_⟩
      repeat (first | with_reducible assumption | with_reducible exact Below.refl _ _ | with_reducible refine Below.drew ?_ | with_reducible refine below_drewN ?_ _ | with_reducible refine bw_alloc ?_ _ | (with_reducible refine bw_set ?_ ?_ _; focus (dsimp only; omega)) | (with_reducible apply bw_behind; with_reducible assumption))

theorem rright_any (q : Bool) (m a : Nat) (hm : m < 18446744073709551616) (w : World) :
    Calls Tryd.prog 86 #[.agg #[.bool q, .int .u64 (m : Int), .int .u64 (a : Int)]] w (Makes (.bool (rightB m a)) w) := by
  have h := rright_let q (lO m a) _ _ (m : Int) (a : Int) _ _ _ _ ((m / 2199023255552 : Nat) : Int) ((m / 2199023255552 % 128 : Nat) : Int) ((m / 1152921504606846976 : Nat) : Int) (by omega) (by rw [Int.tmod_eq_emod_of_nonneg (by omega)]; omega) (by omega) rfl rfl (fun W => rlook_any q m a W) w
  have e : rightB m a = (lO m a && ((((m / 2199023255552 % 128 : Nat) : Int) == 0) && (((m / 1152921504606846976 : Nat) : Int) == 0))) := by
    unfold rightB
    congr 1
    rw [Bool.eq_iff_iff, decide_eq_true_eq, right_iff hm, Bool.and_eq_true, beq_iff_eq, beq_iff_eq]
    omega
  rw [e]
  exact h
end Go.Proofs.YtbncoiejbclpjaaDoor
