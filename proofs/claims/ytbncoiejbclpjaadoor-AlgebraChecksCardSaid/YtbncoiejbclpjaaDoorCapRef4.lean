/-
  What the document's own answer of layer 5 (package mintmarkref05), Within, is.
-/
import Derived.Test.YtbncoiejbclpjaaDoorCapRef2
import Derived.Test.YtbncoiejbclpjaaDoorCapWithin
namespace Go.Proofs.YtbncoiejbclpjaaDoor
open Go.RowKit Words FieldMath BoundsMath

structure RWMet (q1 q2 R1 R2 O1 O2 : Bool) (M1 A1 M2 A2 D1 U1 P1 K1 D2 U2 P2 K2 : Int) : Prop where
  r1 : ∀ W, Calls Tryd.prog 86 #[.agg #[.bool q1, .int .u64 M1, .int .u64 A1]] W (Makes (.bool R1) W)
  r2 : ∀ W, Calls Tryd.prog 86 #[.agg #[.bool q2, .int .u64 M2, .int .u64 A2]] W (Makes (.bool R2) W)
  l1 : ∀ W, Calls Tryd.prog 42 #[.agg #[.bool q1, .int .u64 M1, .int .u64 A1]] W (Makes (.tuple #[.agg #[.int .u64 D1, .int .u64 U1, .int .u64 P1, .int .u64 K1], .bool O1]) W)
  l2 : ∀ W, Calls Tryd.prog 42 #[.agg #[.bool q2, .int .u64 M2, .int .u64 A2]] W (Makes (.tuple #[.agg #[.int .u64 D2, .int .u64 U2, .int .u64 P2, .int .u64 K2], .bool O2]) W)

set_option maxHeartbeats 2000000 in
theorem rwithin_no1 (q1 q2 R2 O1 O2 : Bool) (M1 A1 M2 A2 D1 U1 P1 K1 D2 U2 P2 K2 : Int) (hm : RWMet q1 q2 false R2 O1 O2 M1 A1 M2 A2 D1 U1 P1 K1 D2 U2 P2 K2)  (w : World) :
    Calls Tryd.prog 65 #[.agg #[.bool q1, .int .u64 M1, .int .u64 A1], .agg #[.bool q2, .int .u64 M2, .int .u64 A2]] w (Makes (.bool false) w) := by
  have CM := hide hm
  clear hm
  have SS := cell_same
  have LB' := ltB_add
  have LS := ltB_self
  have LA' := alloc_reads
  have LH := alloc_holds
  go_enter Tryd.func65, Tryd.ntmps65
  go_wp2_with (first | (go_at_call 42; (first | ((with_reducible refine (CM.out.l1 _).mono ?_))); rintro e wa ⟨rfl, hba⟩; have hra := below_reads hba; have hha := below_holds hba; obtain ⟨ma, hsa⟩ := below_grew hba) | (go_at_call 42; (first | ((with_reducible refine (CM.out.l2 _).mono ?_))); rintro e wb ⟨rfl, hbb⟩; have hrb := below_reads hbb; have hhb := below_holds hbb; obtain ⟨mb, hsb⟩ := below_grew hbb) | (go_at_call 86; (first | ((with_reducible refine (CM.out.r1 _).mono ?_))); rintro e wc ⟨rfl, hbc⟩; have hrc := below_reads hbc; have hhc := below_holds hbc; obtain ⟨mc, hsc⟩ := below_grew hbc) | (go_at_call 86; (first | ((with_reducible refine (CM.out.r2 _).mono ?_))); rintro e wd ⟨rfl, hbd⟩; have hrd := below_reads hbd; have hhd := below_holds hbd; obtain ⟨md, hsd⟩ := below_grew hbd))
  go_ret
  refine ⟨rfl, ?_⟩
  repeat (first | with_reducible assumption | with_reducible exact Below.refl _ _ | with_reducible refine Below.drew ?_ | with_reducible refine below_drewN ?_ _ | with_reducible refine bw_alloc ?_ _ | (with_reducible refine bw_set ?_ ?_ _; focus (dsimp only; omega)) | (with_reducible apply bw_behind; with_reducible assumption))

set_option maxHeartbeats 2000000 in
theorem rwithin_no2 (q1 q2 O1 O2 : Bool) (M1 A1 M2 A2 D1 U1 P1 K1 D2 U2 P2 K2 : Int) (hm : RWMet q1 q2 true false O1 O2 M1 A1 M2 A2 D1 U1 P1 K1 D2 U2 P2 K2)  (w : World) :
    Calls Tryd.prog 65 #[.agg #[.bool q1, .int .u64 M1, .int .u64 A1], .agg #[.bool q2, .int .u64 M2, .int .u64 A2]] w (Makes (.bool false) w) := by
  have CM := hide hm
  clear hm
  have SS := cell_same
  have LB' := ltB_add
  have LS := ltB_self
  have LA' := alloc_reads
  have LH := alloc_holds
  go_enter Tryd.func65, Tryd.ntmps65
  go_wp2_with (first | (go_at_call 42; (first | ((with_reducible refine (CM.out.l1 _).mono ?_))); rintro e wa ⟨rfl, hba⟩; have hra := below_reads hba; have hha := below_holds hba; obtain ⟨ma, hsa⟩ := below_grew hba) | (go_at_call 42; (first | ((with_reducible refine (CM.out.l2 _).mono ?_))); rintro e wb ⟨rfl, hbb⟩; have hrb := below_reads hbb; have hhb := below_holds hbb; obtain ⟨mb, hsb⟩ := below_grew hbb) | (go_at_call 86; (first | ((with_reducible refine (CM.out.r1 _).mono ?_))); rintro e wc ⟨rfl, hbc⟩; have hrc := below_reads hbc; have hhc := below_holds hbc; obtain ⟨mc, hsc⟩ := below_grew hbc) | (go_at_call 86; (first | ((with_reducible refine (CM.out.r2 _).mono ?_))); rintro e wd ⟨rfl, hbd⟩; have hrd := below_reads hbd; have hhd := below_holds hbd; obtain ⟨md, hsd⟩ := below_grew hbd))
  go_ret
  refine ⟨rfl, ?_⟩
  repeat (first | with_reducible assumption | with_reducible exact Below.refl _ _ | with_reducible refine Below.drew ?_ | with_reducible refine below_drewN ?_ _ | with_reducible refine bw_alloc ?_ _ | (with_reducible refine bw_set ?_ ?_ _; focus (dsimp only; omega)) | (with_reducible apply bw_behind; with_reducible assumption))

set_option maxHeartbeats 2000000 in
theorem rwithin_no3 (q1 q2 O1 O2 : Bool) (M1 A1 M2 A2 D1 U1 P1 K1 D2 U2 P2 K2 : Int) (hm : RWMet q1 q2 true true O1 O2 M1 A1 M2 A2 D1 U1 P1 K1 D2 U2 P2 K2) (h1 : ¬ D2 ≤ D1) (w : World) :
    Calls Tryd.prog 65 #[.agg #[.bool q1, .int .u64 M1, .int .u64 A1], .agg #[.bool q2, .int .u64 M2, .int .u64 A2]] w (Makes (.bool false) w) := by
  have CM := hide hm
  clear hm
  have SS := cell_same
  have LB' := ltB_add
  have LS := ltB_self
  have LA' := alloc_reads
  have LH := alloc_holds
  go_enter Tryd.func65, Tryd.ntmps65
  go_wp2_with (first | (go_at_call 42; (first | ((with_reducible refine (CM.out.l1 _).mono ?_))); rintro e wa ⟨rfl, hba⟩; have hra := below_reads hba; have hha := below_holds hba; obtain ⟨ma, hsa⟩ := below_grew hba) | (go_at_call 42; (first | ((with_reducible refine (CM.out.l2 _).mono ?_))); rintro e wb ⟨rfl, hbb⟩; have hrb := below_reads hbb; have hhb := below_holds hbb; obtain ⟨mb, hsb⟩ := below_grew hbb) | (go_at_call 86; (first | ((with_reducible refine (CM.out.r1 _).mono ?_))); rintro e wc ⟨rfl, hbc⟩; have hrc := below_reads hbc; have hhc := below_holds hbc; obtain ⟨mc, hsc⟩ := below_grew hbc) | (go_at_call 86; (first | ((with_reducible refine (CM.out.r2 _).mono ?_))); rintro e wd ⟨rfl, hbd⟩; have hrd := below_reads hbd; have hhd := below_holds hbd; obtain ⟨md, hsd⟩ := below_grew hbd))
  go_ret
  refine ⟨rfl, ?_⟩
  repeat (first | with_reducible assumption | with_reducible exact Below.refl _ _ | with_reducible refine Below.drew ?_ | with_reducible refine below_drewN ?_ _ | with_reducible refine bw_alloc ?_ _ | (with_reducible refine bw_set ?_ ?_ _; focus (dsimp only; omega)) | (with_reducible apply bw_behind; with_reducible assumption))

set_option maxHeartbeats 2000000 in
theorem rwithin_no4 (q1 q2 O1 O2 : Bool) (M1 A1 M2 A2 D1 U1 P1 K1 D2 U2 P2 K2 : Int) (hm : RWMet q1 q2 true true O1 O2 M1 A1 M2 A2 D1 U1 P1 K1 D2 U2 P2 K2) (h1 : D2 ≤ D1) (h2 : ¬ U1 ≤ U2) (w : World) :
    Calls Tryd.prog 65 #[.agg #[.bool q1, .int .u64 M1, .int .u64 A1], .agg #[.bool q2, .int .u64 M2, .int .u64 A2]] w (Makes (.bool false) w) := by
  have CM := hide hm
  clear hm
  have SS := cell_same
  have LB' := ltB_add
  have LS := ltB_self
  have LA' := alloc_reads
  have LH := alloc_holds
  go_enter Tryd.func65, Tryd.ntmps65
  go_wp2_with (first | (go_at_call 42; (first | ((with_reducible refine (CM.out.l1 _).mono ?_))); rintro e wa ⟨rfl, hba⟩; have hra := below_reads hba; have hha := below_holds hba; obtain ⟨ma, hsa⟩ := below_grew hba) | (go_at_call 42; (first | ((with_reducible refine (CM.out.l2 _).mono ?_))); rintro e wb ⟨rfl, hbb⟩; have hrb := below_reads hbb; have hhb := below_holds hbb; obtain ⟨mb, hsb⟩ := below_grew hbb) | (go_at_call 86; (first | ((with_reducible refine (CM.out.r1 _).mono ?_))); rintro e wc ⟨rfl, hbc⟩; have hrc := below_reads hbc; have hhc := below_holds hbc; obtain ⟨mc, hsc⟩ := below_grew hbc) | (go_at_call 86; (first | ((with_reducible refine (CM.out.r2 _).mono ?_))); rintro e wd ⟨rfl, hbd⟩; have hrd := below_reads hbd; have hhd := below_holds hbd; obtain ⟨md, hsd⟩ := below_grew hbd))
  go_ret
  refine ⟨rfl, ?_⟩
  repeat (first | with_reducible assumption | with_reducible exact Below.refl _ _ | with_reducible refine Below.drew ?_ | with_reducible refine below_drewN ?_ _ | with_reducible refine bw_alloc ?_ _ | (with_reducible refine bw_set ?_ ?_ _; focus (dsimp only; omega)) | (with_reducible apply bw_behind; with_reducible assumption))

set_option maxHeartbeats 2000000 in
theorem rwithin_yes (q1 q2 O1 O2 PV : Bool) (M1 A1 M2 A2 D1 U1 P1 K1 D2 U2 P2 K2 PA : Int) (hm : RWMet q1 q2 true true O1 O2 M1 A1 M2 A2 D1 U1 P1 K1 D2 U2 P2 K2) (h1 : D2 ≤ D1) (h2 : U1 ≤ U2) (h3 : bits .and .u64 P1 P2 = PA) (h4 : (PA == P1) = PV) (w : World) :
    Calls Tryd.prog 65 #[.agg #[.bool q1, .int .u64 M1, .int .u64 A1], .agg #[.bool q2, .int .u64 M2, .int .u64 A2]] w (Makes (.bool PV) w) := by
  have CM := hide hm
  clear hm
  have SS := cell_same
  have LB' := ltB_add
  have LS := ltB_self
  have LA' := alloc_reads
  have LH := alloc_holds
  go_enter Tryd.func65, Tryd.ntmps65
  go_wp2_with (first | (go_at_call 42; (first | ((with_reducible refine (CM.out.l1 _).mono ?_))); rintro e wa ⟨rfl, hba⟩; have hra := below_reads hba; have hha := below_holds hba; obtain ⟨ma, hsa⟩ := below_grew hba) | (go_at_call 42; (first | ((with_reducible refine (CM.out.l2 _).mono ?_))); rintro e wb ⟨rfl, hbb⟩; have hrb := below_reads hbb; have hhb := below_holds hbb; obtain ⟨mb, hsb⟩ := below_grew hbb) | (go_at_call 86; (first | ((with_reducible refine (CM.out.r1 _).mono ?_))); rintro e wc ⟨rfl, hbc⟩; have hrc := below_reads hbc; have hhc := below_holds hbc; obtain ⟨mc, hsc⟩ := below_grew hbc) | (go_at_call 86; (first | ((with_reducible refine (CM.out.r2 _).mono ?_))); rintro e wd ⟨rfl, hbd⟩; have hrd := below_reads hbd; have hhd := below_holds hbd; obtain ⟨md, hsd⟩ := below_grew hbd))
  go_ret
  refine ⟨rfl, ?_⟩
  repeat (first | with_reducible assumption | with_reducible exact Below.refl _ _ | with_reducible refine Below.drew ?_ | with_reducible refine below_drewN ?_ _ | with_reducible refine bw_alloc ?_ _ | (with_reducible refine bw_set ?_ ?_ _; focus (dsimp only; omega)) | (with_reducible apply bw_behind; with_reducible assumption))

theorem rwithin_any (q1 q2 : Bool) (m a n b : Nat) (hm : m < 18446744073709551616) (hn : n < 18446744073709551616) (w : World) :
    Calls Tryd.prog 65 #[.agg #[.bool q1, .int .u64 (m : Int), .int .u64 (a : Int)], .agg #[.bool q2, .int .u64 (n : Int), .int .u64 (b : Int)]] w (Makes (.bool (withinC m a n b)) w) := by
  have H : RWMet q1 q2 (rightB m a) (rightB n b) (lO m a) (lO n b) (m : Int) (a : Int) (n : Int) (b : Int) ((lB m a : Nat) : Int) ((lT m a : Nat) : Int) ((mP m : Nat) : Int) ((mK m : Nat) : Int) ((lB n b : Nat) : Int) ((lT n b : Nat) : Int) ((mP n : Nat) : Int) ((mK n : Nat) : Int) :=
    ⟨fun W => rright_any q1 m a hm W, fun W => rright_any q2 n b hn W, fun W => rlook_any q1 m a W, fun W => rlook_any q2 n b W⟩
  unfold withinC
  cases h1 : rightB m a
  · rw [h1] at H
    exact rwithin_no1 _ _ _ _ _ _ _ _ _ _ _ _ _ _ _ _ _ H w
  · cases h2 : rightB n b
    · rw [h1, h2] at H
      exact rwithin_no2 _ _ _ _ _ _ _ _ _ _ _ _ _ _ _ _ H w
    · rw [h1, h2] at H
      by_cases h3 : lB n b ≤ lB m a
      · by_cases h4 : lT m a ≤ lT n b
        · rw [decide_eq_true ⟨h3, h4⟩]
          have e1 : bits .and .u64 ((mP m : Nat) : Int) ((mP n : Nat) : Int) = ((mP m &&& mP n : Nat) : Int) := by
            have h := and_bv (BitVec.ofNat 64 (mP m)) (BitVec.ofNat 64 (mP n))
            rw [BitVec.toNat_and, BitVec.toNat_ofNat, BitVec.toNat_ofNat, Nat.mod_eq_of_lt (show mP m < 2 ^ 64 by unfold mP; omega), Nat.mod_eq_of_lt (show mP n < 2 ^ 64 by unfold mP; omega)] at h
            exact h
          have e2 : (((mP m &&& mP n : Nat) : Int) == ((mP m : Nat) : Int)) = subN (mP m) (mP n) := by
            unfold subN
            rw [Bool.eq_iff_iff, beq_iff_eq, decide_eq_true_eq]
            omega
          have := rwithin_yes _ _ _ _ _ _ _ _ _ _ _ _ _ _ _ _ _ _ H (by omega) (by omega) e1 e2 w
          simpa using this
        · rw [decide_eq_false (fun h => h4 h.2)]
          exact rwithin_no4 _ _ _ _ _ _ _ _ _ _ _ _ _ _ _ _ H (by omega) (by omega) w
      · rw [decide_eq_false (fun h => h3 h.1)]
        exact rwithin_no3 _ _ _ _ _ _ _ _ _ _ _ _ _ _ _ _ H (by omega) w
end Go.Proofs.YtbncoiejbclpjaaDoor
