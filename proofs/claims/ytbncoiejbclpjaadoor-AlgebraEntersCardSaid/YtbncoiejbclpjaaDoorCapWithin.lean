/-
  What capab.Within answers.
-/
import Derived.Test.YtbncoiejbclpjaaDoorCapRight
namespace Go.Proofs.YtbncoiejbclpjaaDoor
open Go.RowKit Words FieldMath BoundsMath

/-- Within, as numbers. -/
def withinC (m a n b : Nat) : Bool := rightB m a && rightB n b && (decide (lB n b ≤ lB m a ∧ lT m a ≤ lT n b) && subN (mP m) (mP n))
structure WMet (q1 q2 R1 R2 SV PV O1 O2 : Bool) (M1 A1 M2 A2 D1 U1 P1 K1 D2 U2 P2 K2 : Int) : Prop where
  r1 : ∀ W, Tab W → Calls Tryd.prog 30 #[.agg #[.bool q1, .int .u64 M1, .int .u64 A1]] W (Makes (.bool R1) W)
  r2 : ∀ W, Tab W → Calls Tryd.prog 30 #[.agg #[.bool q2, .int .u64 M2, .int .u64 A2]] W (Makes (.bool R2) W)
  l1 : ∀ W, Tab W → Calls Tryd.prog 33 #[.agg #[.bool q1, .int .u64 M1, .int .u64 A1]] W (Makes (.tuple #[.agg #[.int .u64 D1, .int .u64 U1, .int .u64 P1, .int .u64 K1], .bool O1]) W)
  l2 : ∀ W, Tab W → Calls Tryd.prog 33 #[.agg #[.bool q2, .int .u64 M2, .int .u64 A2]] W (Makes (.tuple #[.agg #[.int .u64 D2, .int .u64 U2, .int .u64 P2, .int .u64 K2], .bool O2]) W)
  s : ∀ W, Calls Tryd.prog 67 #[.agg #[.int .u64 D1, .int .u64 U1], .agg #[.int .u64 D2, .int .u64 U2]] W (Makes (.bool SV) W)
  p : ∀ W, Calls Tryd.prog 68 #[.int .u64 P1, .int .u64 P2] W (Quiet (.bool PV) W)

set_option maxHeartbeats 1000000 in
theorem cwithin_no1 (q1 q2 R2 SV PV O1 O2 : Bool) (M1 A1 M2 A2 D1 U1 P1 K1 D2 U2 P2 K2 : Int) (hm : WMet q1 q2 false R2 SV PV O1 O2 M1 A1 M2 A2 D1 U1 P1 K1 D2 U2 P2 K2) (w : World) (hT : Tab w) :
    Calls Tryd.prog 31 #[.agg #[.bool q1, .int .u64 M1, .int .u64 A1], .agg #[.bool q2, .int .u64 M2, .int .u64 A2]] w (Makes (.bool false) w) := by
  have CR1 := hide hm.r1
  have CR2 := hide hm.r2
  have CL1 := hide hm.l1
  have CL2 := hide hm.l2
  have CS := hide hm.s
  have CP := hide hm.p
  clear hm
  have SS := cell_same
  have LB' := ltB_add
  have LS := ltB_self
  have LA' := alloc_reads
  have LH := alloc_holds
  go_enter Tryd.func31, Tryd.ntmps31
  go_wp2_with (first | (go_at_call 30; (with_reducible first | refine (CR1.out _ ?_).mono ?_); (refine hT.behind ?_; repeat (first | with_reducible assumption | with_reducible exact Below.refl _ _ | with_reducible refine Below.drew ?_ | with_reducible refine below_drewN ?_ _ | with_reducible refine bw_alloc ?_ _ | (with_reducible refine bw_set ?_ ?_ _; focus (dsimp only; omega)) | (with_reducible apply bw_behind; with_reducible assumption))); rintro e wa ⟨rfl, hba⟩; have hra := below_reads hba; have hha := below_holds hba; obtain ⟨ma, hsa⟩ := below_grew hba) | (go_at_call 30; (with_reducible first | refine (CR2.out _ ?_).mono ?_); (refine hT.behind ?_; repeat (first | with_reducible assumption | with_reducible exact Below.refl _ _ | with_reducible refine Below.drew ?_ | with_reducible refine below_drewN ?_ _ | with_reducible refine bw_alloc ?_ _ | (with_reducible refine bw_set ?_ ?_ _; focus (dsimp only; omega)) | (with_reducible apply bw_behind; with_reducible assumption))); rintro e wb ⟨rfl, hbb⟩; have hrb := below_reads hbb; have hhb := below_holds hbb; obtain ⟨mb, hsb⟩ := below_grew hbb) | (go_at_call 33; (with_reducible first | refine (CL1.out _ ?_).mono ?_); (refine hT.behind ?_; repeat (first | with_reducible assumption | with_reducible exact Below.refl _ _ | with_reducible refine Below.drew ?_ | with_reducible refine below_drewN ?_ _ | with_reducible refine bw_alloc ?_ _ | (with_reducible refine bw_set ?_ ?_ _; focus (dsimp only; omega)) | (with_reducible apply bw_behind; with_reducible assumption))); rintro e wc ⟨rfl, hbc⟩; have hrc := below_reads hbc; have hhc := below_holds hbc; obtain ⟨mc, hsc⟩ := below_grew hbc) | (go_at_call 33; (with_reducible first | refine (CL2.out _ ?_).mono ?_); (refine hT.behind ?_; repeat (first | with_reducible assumption | with_reducible exact Below.refl _ _ | with_reducible refine Below.drew ?_ | with_reducible refine below_drewN ?_ _ | with_reducible refine bw_alloc ?_ _ | (with_reducible refine bw_set ?_ ?_ _; focus (dsimp only; omega)) | (with_reducible apply bw_behind; with_reducible assumption))); rintro e wd ⟨rfl, hbd⟩; have hrd := below_reads hbd; have hhd := below_holds hbd; obtain ⟨md, hsd⟩ := below_grew hbd) | (go_at_call 67; (with_reducible first | refine (CS.out _).mono ?_); rintro e we ⟨rfl, hbe⟩; have hre := below_reads hbe; have hhe := below_holds hbe; obtain ⟨me, hse⟩ := below_grew hbe) | (go_at_call 68; (with_reducible first | refine (CP.out _).mono ?_); rintro e w' ⟨rfl, n1, rfl⟩))
  go_ret
  refine ⟨rfl, ?_⟩
  repeat (first | with_reducible assumption | with_reducible exact Below.refl _ _ | with_reducible refine Below.drew ?_ | with_reducible refine below_drewN ?_ _ | with_reducible refine bw_alloc ?_ _ | (with_reducible refine bw_set ?_ ?_ _; focus (dsimp only; omega)) | (with_reducible apply bw_behind; with_reducible assumption))

set_option maxHeartbeats 1000000 in
theorem cwithin_no2 (q1 q2 SV PV O1 O2 : Bool) (M1 A1 M2 A2 D1 U1 P1 K1 D2 U2 P2 K2 : Int) (hm : WMet q1 q2 true false SV PV O1 O2 M1 A1 M2 A2 D1 U1 P1 K1 D2 U2 P2 K2) (w : World) (hT : Tab w) :
    Calls Tryd.prog 31 #[.agg #[.bool q1, .int .u64 M1, .int .u64 A1], .agg #[.bool q2, .int .u64 M2, .int .u64 A2]] w (Makes (.bool false) w) := by
  have CR1 := hide hm.r1
  have CR2 := hide hm.r2
  have CL1 := hide hm.l1
  have CL2 := hide hm.l2
  have CS := hide hm.s
  have CP := hide hm.p
  clear hm
  have SS := cell_same
  have LB' := ltB_add
  have LS := ltB_self
  have LA' := alloc_reads
  have LH := alloc_holds
  go_enter Tryd.func31, Tryd.ntmps31
  go_wp2_with (first | (go_at_call 30; (with_reducible first | refine (CR1.out _ ?_).mono ?_); (refine hT.behind ?_; repeat (first | with_reducible assumption | with_reducible exact Below.refl _ _ | with_reducible refine Below.drew ?_ | with_reducible refine below_drewN ?_ _ | with_reducible refine bw_alloc ?_ _ | (with_reducible refine bw_set ?_ ?_ _; focus (dsimp only; omega)) | (with_reducible apply bw_behind; with_reducible assumption))); rintro e wa ⟨rfl, hba⟩; have hra := below_reads hba; have hha := below_holds hba; obtain ⟨ma, hsa⟩ := below_grew hba) | (go_at_call 30; (with_reducible first | refine (CR2.out _ ?_).mono ?_); (refine hT.behind ?_; repeat (first | with_reducible assumption | with_reducible exact Below.refl _ _ | with_reducible refine Below.drew ?_ | with_reducible refine below_drewN ?_ _ | with_reducible refine bw_alloc ?_ _ | (with_reducible refine bw_set ?_ ?_ _; focus (dsimp only; omega)) | (with_reducible apply bw_behind; with_reducible assumption))); rintro e wb ⟨rfl, hbb⟩; have hrb := below_reads hbb; have hhb := below_holds hbb; obtain ⟨mb, hsb⟩ := below_grew hbb) | (go_at_call 33; (with_reducible first | refine (CL1.out _ ?_).mono ?_); (refine hT.behind ?_; repeat (first | with_reducible assumption | with_reducible exact Below.refl _ _ | with_reducible refine Below.drew ?_ | with_reducible refine below_drewN ?_ _ | with_reducible refine bw_alloc ?_ _ | (with_reducible refine bw_set ?_ ?_ _; focus (dsimp only; omega)) | (with_reducible apply bw_behind; with_reducible assumption))); rintro e wc ⟨rfl, hbc⟩; have hrc := below_reads hbc; have hhc := below_holds hbc; obtain ⟨mc, hsc⟩ := below_grew hbc) | (go_at_call 33; (with_reducible first | refine (CL2.out _ ?_).mono ?_); (refine hT.behind ?_; repeat (first | with_reducible assumption | with_reducible exact Below.refl _ _ | with_reducible refine Below.drew ?_ | with_reducible refine below_drewN ?_ _ | with_reducible refine bw_alloc ?_ _ | (with_reducible refine bw_set ?_ ?_ _; focus (dsimp only; omega)) | (with_reducible apply bw_behind; with_reducible assumption))); rintro e wd ⟨rfl, hbd⟩; have hrd := below_reads hbd; have hhd := below_holds hbd; obtain ⟨md, hsd⟩ := below_grew hbd) | (go_at_call 67; (with_reducible first | refine (CS.out _).mono ?_); rintro e we ⟨rfl, hbe⟩; have hre := below_reads hbe; have hhe := below_holds hbe; obtain ⟨me, hse⟩ := below_grew hbe) | (go_at_call 68; (with_reducible first | refine (CP.out _).mono ?_); rintro e w' ⟨rfl, n1, rfl⟩))
  go_ret
  refine ⟨rfl, ?_⟩
  repeat (first | with_reducible assumption | with_reducible exact Below.refl _ _ | with_reducible refine Below.drew ?_ | with_reducible refine below_drewN ?_ _ | with_reducible refine bw_alloc ?_ _ | (with_reducible refine bw_set ?_ ?_ _; focus (dsimp only; omega)) | (with_reducible apply bw_behind; with_reducible assumption))

set_option maxHeartbeats 1000000 in
theorem cwithin_no3 (q1 q2 PV O1 O2 : Bool) (M1 A1 M2 A2 D1 U1 P1 K1 D2 U2 P2 K2 : Int) (hm : WMet q1 q2 true true false PV O1 O2 M1 A1 M2 A2 D1 U1 P1 K1 D2 U2 P2 K2) (w : World) (hT : Tab w) :
    Calls Tryd.prog 31 #[.agg #[.bool q1, .int .u64 M1, .int .u64 A1], .agg #[.bool q2, .int .u64 M2, .int .u64 A2]] w (Makes (.bool false) w) := by
  have CR1 := hide hm.r1
  have CR2 := hide hm.r2
  have CL1 := hide hm.l1
  have CL2 := hide hm.l2
  have CS := hide hm.s
  have CP := hide hm.p
  clear hm
  have SS := cell_same
  have LB' := ltB_add
  have LS := ltB_self
  have LA' := alloc_reads
  have LH := alloc_holds
  go_enter Tryd.func31, Tryd.ntmps31
  go_wp2_with (first | (go_at_call 30; (with_reducible first | refine (CR1.out _ ?_).mono ?_); (refine hT.behind ?_; repeat (first | with_reducible assumption | with_reducible exact Below.refl _ _ | with_reducible refine Below.drew ?_ | with_reducible refine below_drewN ?_ _ | with_reducible refine bw_alloc ?_ _ | (with_reducible refine bw_set ?_ ?_ _; focus (dsimp only; omega)) | (with_reducible apply bw_behind; with_reducible assumption))); rintro e wa ⟨rfl, hba⟩; have hra := below_reads hba; have hha := below_holds hba; obtain ⟨ma, hsa⟩ := below_grew hba) | (go_at_call 30; (with_reducible first | refine (CR2.out _ ?_).mono ?_); (refine hT.behind ?_; repeat (first | with_reducible assumption | with_reducible exact Below.refl _ _ | with_reducible refine Below.drew ?_ | with_reducible refine below_drewN ?_ _ | with_reducible refine bw_alloc ?_ _ | (with_reducible refine bw_set ?_ ?_ _; focus (dsimp only; omega)) | (with_reducible apply bw_behind; with_reducible assumption))); rintro e wb ⟨rfl, hbb⟩; have hrb := below_reads hbb; have hhb := below_holds hbb; obtain ⟨mb, hsb⟩ := below_grew hbb) | (go_at_call 33; (with_reducible first | refine (CL1.out _ ?_).mono ?_); (refine hT.behind ?_; repeat (first | with_reducible assumption | with_reducible exact Below.refl _ _ | with_reducible refine Below.drew ?_ | with_reducible refine below_drewN ?_ _ | with_reducible refine bw_alloc ?_ _ | (with_reducible refine bw_set ?_ ?_ _; focus (dsimp only; omega)) | (with_reducible apply bw_behind; with_reducible assumption))); rintro e wc ⟨rfl, hbc⟩; have hrc := below_reads hbc; have hhc := below_holds hbc; obtain ⟨mc, hsc⟩ := below_grew hbc) | (go_at_call 33; (with_reducible first | refine (CL2.out _ ?_).mono ?_); (refine hT.behind ?_; repeat (first | with_reducible assumption | with_reducible exact Below.refl _ _ | with_reducible refine Below.drew ?_ | with_reducible refine below_drewN ?_ _ | with_reducible refine bw_alloc ?_ _ | (with_reducible refine bw_set ?_ ?_ _; focus (dsimp only; omega)) | (with_reducible apply bw_behind; with_reducible assumption))); rintro e wd ⟨rfl, hbd⟩; have hrd := below_reads hbd; have hhd := below_holds hbd; obtain ⟨md, hsd⟩ := below_grew hbd) | (go_at_call 67; (with_reducible first | refine (CS.out _).mono ?_); rintro e we ⟨rfl, hbe⟩; have hre := below_reads hbe; have hhe := below_holds hbe; obtain ⟨me, hse⟩ := below_grew hbe) | (go_at_call 68; (with_reducible first | refine (CP.out _).mono ?_); rintro e w' ⟨rfl, n1, rfl⟩))
  go_ret
  refine ⟨rfl, ?_⟩
  repeat (first | with_reducible assumption | with_reducible exact Below.refl _ _ | with_reducible refine Below.drew ?_ | with_reducible refine below_drewN ?_ _ | with_reducible refine bw_alloc ?_ _ | (with_reducible refine bw_set ?_ ?_ _; focus (dsimp only; omega)) | (with_reducible apply bw_behind; with_reducible assumption))

set_option maxHeartbeats 1000000 in
theorem cwithin_yes (q1 q2 PV O1 O2 : Bool) (M1 A1 M2 A2 D1 U1 P1 K1 D2 U2 P2 K2 : Int) (hm : WMet q1 q2 true true true PV O1 O2 M1 A1 M2 A2 D1 U1 P1 K1 D2 U2 P2 K2) (w : World) (hT : Tab w) :
    Calls Tryd.prog 31 #[.agg #[.bool q1, .int .u64 M1, .int .u64 A1], .agg #[.bool q2, .int .u64 M2, .int .u64 A2]] w (Makes (.bool PV) w) := by
  have CR1 := hide hm.r1
  have CR2 := hide hm.r2
  have CL1 := hide hm.l1
  have CL2 := hide hm.l2
  have CS := hide hm.s
  have CP := hide hm.p
  clear hm
  have SS := cell_same
  have LB' := ltB_add
  have LS := ltB_self
  have LA' := alloc_reads
  have LH := alloc_holds
  go_enter Tryd.func31, Tryd.ntmps31
  go_wp2_with (first | (go_at_call 30; (with_reducible first | refine (CR1.out _ ?_).mono ?_); (refine hT.behind ?_; repeat (first | with_reducible assumption | with_reducible exact Below.refl _ _ | with_reducible refine Below.drew ?_ | with_reducible refine below_drewN ?_ _ | with_reducible refine bw_alloc ?_ _ | (with_reducible refine bw_set ?_ ?_ _; focus (dsimp only; omega)) | (with_reducible apply bw_behind; with_reducible assumption))); rintro e wa ⟨rfl, hba⟩; have hra := below_reads hba; have hha := below_holds hba; obtain ⟨ma, hsa⟩ := below_grew hba) | (go_at_call 30; (with_reducible first | refine (CR2.out _ ?_).mono ?_); (refine hT.behind ?_; repeat (first | with_reducible assumption | with_reducible exact Below.refl _ _ | with_reducible refine Below.drew ?_ | with_reducible refine below_drewN ?_ _ | with_reducible refine bw_alloc ?_ _ | (with_reducible refine bw_set ?_ ?_ _; focus (dsimp only; omega)) | (with_reducible apply bw_behind; with_reducible assumption))); rintro e wb ⟨rfl, hbb⟩; have hrb := below_reads hbb; have hhb := below_holds hbb; obtain ⟨mb, hsb⟩ := below_grew hbb) | (go_at_call 33; (with_reducible first | refine (CL1.out _ ?_).mono ?_); (refine hT.behind ?_; repeat (first | with_reducible assumption | with_reducible exact Below.refl _ _ | with_reducible refine Below.drew ?_ | with_reducible refine below_drewN ?_ _ | with_reducible refine bw_alloc ?_ _ | (with_reducible refine bw_set ?_ ?_ _; focus (dsimp only; omega)) | (with_reducible apply bw_behind; with_reducible assumption))); rintro e wc ⟨rfl, hbc⟩; have hrc := below_reads hbc; have hhc := below_holds hbc; obtain ⟨mc, hsc⟩ := below_grew hbc) | (go_at_call 33; (with_reducible first | refine (CL2.out _ ?_).mono ?_); (refine hT.behind ?_; repeat (first | with_reducible assumption | with_reducible exact Below.refl _ _ | with_reducible refine Below.drew ?_ | with_reducible refine below_drewN ?_ _ | with_reducible refine bw_alloc ?_ _ | (with_reducible refine bw_set ?_ ?_ _; focus (dsimp only; omega)) | (with_reducible apply bw_behind; with_reducible assumption))); rintro e wd ⟨rfl, hbd⟩; have hrd := below_reads hbd; have hhd := below_holds hbd; obtain ⟨md, hsd⟩ := below_grew hbd) | (go_at_call 67; (with_reducible first | refine (CS.out _).mono ?_); rintro e we ⟨rfl, hbe⟩; have hre := below_reads hbe; have hhe := below_holds hbe; obtain ⟨me, hse⟩ := below_grew hbe) | (go_at_call 68; (with_reducible first | refine (CP.out _).mono ?_); rintro e w' ⟨rfl, n1, rfl⟩))
  go_ret
  refine ⟨rfl, ?_⟩
  repeat (first | with_reducible assumption | with_reducible exact Below.refl _ _ | with_reducible refine Below.drew ?_ | with_reducible refine below_drewN ?_ _ | with_reducible refine bw_alloc ?_ _ | (with_reducible refine bw_set ?_ ?_ _; focus (dsimp only; omega)) | (with_reducible apply bw_behind; with_reducible assumption))

theorem cwithin_any (q1 q2 : Bool) (m a n b : Nat) (hm : m < 18446744073709551616) (hn : n < 18446744073709551616) (w : World) (hT : Tab w) :
    Calls Tryd.prog 31 #[.agg #[.bool q1, .int .u64 (m : Int), .int .u64 (a : Int)], .agg #[.bool q2, .int .u64 (n : Int), .int .u64 (b : Int)]] w (Makes (.bool (withinC m a n b)) w) := by
  have H : WMet q1 q2 (rightB m a) (rightB n b) (decide (lB n b ≤ lB m a ∧ lT m a ≤ lT n b)) (subN (mP m) (mP n)) (lO m a) (lO n b) (m : Int) (a : Int) (n : Int) (b : Int) ((lB m a : Nat) : Int) ((lT m a : Nat) : Int) ((mP m : Nat) : Int) ((mK m : Nat) : Int) ((lB n b : Nat) : Int) ((lT n b : Nat) : Int) ((mP n : Nat) : Int) ((mK n : Nat) : Int) :=
    ⟨fun W h => right_any q1 m a hm W h, fun W h => right_any q2 n b hn W h, fun W h => look_any q1 m a hm W h, fun W h => look_any q2 n b hn W h,
      fun W => by rw [show decide (lB n b ≤ lB m a ∧ lT m a ≤ lT n b) = decide (((lB n b : Nat) : Int) ≤ ((lB m a : Nat) : Int) ∧ ((lT m a : Nat) : Int) ≤ ((lT n b : Nat) : Int)) from decide_eq_decide.mpr (by omega)]; exact swithin_any _ _ _ _ W,
      fun W => within_nat (mP m) (mP n) (by unfold mP; omega) (by unfold mP; omega) W⟩
  unfold withinC
  cases h1 : rightB m a
  · rw [h1] at H
    exact cwithin_no1 _ _ _ _ _ _ _ _ _ _ _ _ _ _ _ _ _ _ _ H w hT
  · cases h2 : rightB n b
    · rw [h1, h2] at H
      exact cwithin_no2 _ _ _ _ _ _ _ _ _ _ _ _ _ _ _ _ _ _ H w hT
    · cases h3 : decide (lB n b ≤ lB m a ∧ lT m a ≤ lT n b)
      · rw [h1, h2, h3] at H
        exact cwithin_no3 _ _ _ _ _ _ _ _ _ _ _ _ _ _ _ _ _ H w hT
      · rw [h1, h2, h3] at H
        have := cwithin_yes _ _ _ _ _ _ _ _ _ _ _ _ _ _ _ _ _ H w hT
        simpa using this
end Go.Proofs.YtbncoiejbclpjaaDoor
