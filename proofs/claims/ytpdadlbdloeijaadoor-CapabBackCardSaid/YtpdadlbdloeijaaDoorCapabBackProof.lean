/-
  CapabBack holds: for every v and c the law returns true and turns nothing that was there, where the table of places holds what the program's text lays.
-/
import Derived.Test.YtpdadlbdloeijaaDoorTabLaid03
import Derived.Test.YtpdadlbdloeijaaDoorCapRoot
import Derived.Test.YtpdadlbdloeijaaDoorCapMath2
namespace Go.Proofs.YtpdadlbdloeijaaDoor.CapabBack
open Go.RowKit Words FieldMath BoundsMath

theorem ne_view (D U E F B T P K : Int) : ∀ W, (binOp .neq 28 (.agg #[.int .u64 D, .int .u64 U, .int .u64 E, .int .u64 F]) (.agg #[.int .u64 B, .int .u64 T, .int .u64 P, .int .u64 K])).run Tryd.prog W = .ok (.bool (!decide (D = B ∧ U = T ∧ E = P ∧ F = K))) W := by
  intro W
  by_cases h1 : D = B <;> by_cases h2 : U = T <;> by_cases h3 : E = P <;> by_cases h4 : F = K <;> simp [go_sem, h1, h2, h3, h4]
structure MetY (B T P K M1 A1 : Int) : Prop where
  look1 : ∀ W, Tab W → Calls Tryd.prog 9 #[.agg #[.bool false, .int .u64 M1, .int .u64 A1]] W (Makes (.tuple #[.agg #[.int .u64 B, .int .u64 T, .int .u64 P, .int .u64 K], .bool true]) W)
  right1 : ∀ W, Tab W → Calls Tryd.prog 13 #[.agg #[.bool false, .int .u64 M1, .int .u64 A1]] W (Makes (.bool true) W)
  within1 : ∀ W, Tab W → Calls Tryd.prog 15 #[.agg #[.bool false, .int .u64 M1, .int .u64 A1], .agg #[.bool false, .int .u64 M1, .int .u64 A1]] W (Makes (.bool true) W)
structure Met (B T P K M A M1 A1 D U P1 K1 M2 A2 : Int) (q O RV L2 O2 : Bool) : Prop where
  mk1 : ∀ W, Tab W → Calls Tryd.prog 21 #[.agg #[.int .u64 B, .int .u64 T, .int .u64 P, .int .u64 K], .int .u64 B] W (Makes (.tuple #[.agg #[.bool false, .int .u64 M1, .int .u64 A1], .bool O]) W)
  right2 : ∀ W, Tab W → Calls Tryd.prog 13 #[.agg #[.bool q, .int .u64 M, .int .u64 A]] W (Makes (.bool RV) W)
  look2 : ∀ W, Tab W → Calls Tryd.prog 9 #[.agg #[.bool q, .int .u64 M, .int .u64 A]] W (Makes (.tuple #[.agg #[.int .u64 D, .int .u64 U, .int .u64 P1, .int .u64 K1], .bool L2]) W)
  mk2 : ∀ W, Tab W → Calls Tryd.prog 21 #[.agg #[.int .u64 D, .int .u64 U, .int .u64 P1, .int .u64 K1], .int .u64 A] W (Makes (.tuple #[.agg #[.bool false, .int .u64 M2, .int .u64 A2], .bool O2]) W)

set_option maxHeartbeats 4000000 in
theorem walk_nn (B T P K M A M1 A1 D U P1 K1 M2 A2 : Int) (q L2 O2 : Bool) (hm : Met B T P K M A M1 A1 D U P1 K1 M2 A2 q false false L2 O2) (w : World) (hT : Tab w) :
    Calls Tryd.prog 5 #[.agg #[.int .u64 B, .int .u64 T, .int .u64 P, .int .u64 K], .agg #[.bool q, .int .u64 M, .int .u64 A]] w fun e w' => e = .returned (.bool true) ∧ Below w.heap.size w w' := by
  have CM := hide hm
  clear hm
  have NV := ne_view B T P K B T P K
  rw [decide_eq_true ⟨rfl, rfl, rfl, rfl⟩] at NV
  have SS := cell_same
  have LB' := ltB_add
  have LS := ltB_self
  have LA' := alloc_reads
  have LH := alloc_holds
  go_enter Tryd.func5, Tryd.ntmps5
  go_wp2_with (first | (go_at_call 21; (first | ((with_reducible refine (CM.out.mk1 _ ?_).mono ?_); (refine hT.behind ?_; repeat (first | with_reducible assumption | with_reducible exact Below.refl _ _ | with_reducible refine Below.drew ?_ | with_reducible refine below_drewN ?_ _ | with_reducible refine bw_alloc ?_ _ | (with_reducible refine bw_set ?_ ?_ _; focus (dsimp only; omega)) | (with_reducible apply bw_behind; with_reducible assumption))))); rintro e wa ⟨rfl, hba⟩; have hra := below_reads hba; have hha := below_holds hba; obtain ⟨ma, hsa⟩ := below_grew hba) | (go_at_call 21; (first | ((with_reducible refine (CM.out.mk2 _ ?_).mono ?_); (refine hT.behind ?_; repeat (first | with_reducible assumption | with_reducible exact Below.refl _ _ | with_reducible refine Below.drew ?_ | with_reducible refine below_drewN ?_ _ | with_reducible refine bw_alloc ?_ _ | (with_reducible refine bw_set ?_ ?_ _; focus (dsimp only; omega)) | (with_reducible apply bw_behind; with_reducible assumption))))); rintro e wb ⟨rfl, hbb⟩; have hrb := below_reads hbb; have hhb := below_holds hbb; obtain ⟨mb, hsb⟩ := below_grew hbb) | (go_at_call 9; (first | ((with_reducible refine (CM.out.look2 _ ?_).mono ?_); (refine hT.behind ?_; repeat (first | with_reducible assumption | with_reducible exact Below.refl _ _ | with_reducible refine Below.drew ?_ | with_reducible refine below_drewN ?_ _ | with_reducible refine bw_alloc ?_ _ | (with_reducible refine bw_set ?_ ?_ _; focus (dsimp only; omega)) | (with_reducible apply bw_behind; with_reducible assumption))))); rintro e wd ⟨rfl, hbd⟩; have hrd := below_reads hbd; have hhd := below_holds hbd; obtain ⟨md, hsd⟩ := below_grew hbd) | (go_at_call 13; (first | ((with_reducible refine (CM.out.right2 _ ?_).mono ?_); (refine hT.behind ?_; repeat (first | with_reducible assumption | with_reducible exact Below.refl _ _ | with_reducible refine Below.drew ?_ | with_reducible refine below_drewN ?_ _ | with_reducible refine bw_alloc ?_ _ | (with_reducible refine bw_set ?_ ?_ _; focus (dsimp only; omega)) | (with_reducible apply bw_behind; with_reducible assumption))))); rintro e wf ⟨rfl, hbf⟩; have hrf := below_reads hbf; have hhf := below_holds hbf; obtain ⟨mf, hsf⟩ := below_grew hbf) | (go_at_call 20; (first | ((with_reducible refine (one_any _ ?_).mono ?_); (refine hT.behind ?_; repeat (first | with_reducible assumption | with_reducible exact Below.refl _ _ | with_reducible refine Below.drew ?_ | with_reducible refine below_drewN ?_ _ | with_reducible refine bw_alloc ?_ _ | (with_reducible refine bw_set ?_ ?_ _; focus (dsimp only; omega)) | (with_reducible apply bw_behind; with_reducible assumption))))); rintro e wh ⟨rfl, hbh⟩; have hrh := below_reads hbh; have hhh := below_holds hbh; obtain ⟨mh, hsh⟩ := below_grew hbh))
  go_ret
  refine ⟨rfl, ?_⟩
  repeat (first | with_reducible assumption | with_reducible exact Below.refl _ _ | with_reducible refine Below.drew ?_ | with_reducible refine below_drewN ?_ _ | with_reducible refine bw_alloc ?_ _ | (with_reducible refine bw_set ?_ ?_ _; focus (dsimp only; omega)) | (with_reducible apply bw_behind; with_reducible assumption))

set_option maxHeartbeats 4000000 in
theorem walk_nm (B T P K M A M1 A1 D U P1 K1 M2 A2 : Int) (q L2 : Bool) (hm : Met B T P K M A M1 A1 D U P1 K1 M2 A2 q false true L2 false) (w : World) (hT : Tab w) :
    Calls Tryd.prog 5 #[.agg #[.int .u64 B, .int .u64 T, .int .u64 P, .int .u64 K], .agg #[.bool q, .int .u64 M, .int .u64 A]] w fun e w' => e = .returned (.bool true) ∧ Below w.heap.size w w' := by
  have CM := hide hm
  clear hm
  have NV := ne_view B T P K B T P K
  rw [decide_eq_true ⟨rfl, rfl, rfl, rfl⟩] at NV
  have SS := cell_same
  have LB' := ltB_add
  have LS := ltB_self
  have LA' := alloc_reads
  have LH := alloc_holds
  go_enter Tryd.func5, Tryd.ntmps5
  go_wp2_with (first | (go_at_call 21; (first | ((with_reducible refine (CM.out.mk1 _ ?_).mono ?_); (refine hT.behind ?_; repeat (first | with_reducible assumption | with_reducible exact Below.refl _ _ | with_reducible refine Below.drew ?_ | with_reducible refine below_drewN ?_ _ | with_reducible refine bw_alloc ?_ _ | (with_reducible refine bw_set ?_ ?_ _; focus (dsimp only; omega)) | (with_reducible apply bw_behind; with_reducible assumption))))); rintro e wa ⟨rfl, hba⟩; have hra := below_reads hba; have hha := below_holds hba; obtain ⟨ma, hsa⟩ := below_grew hba) | (go_at_call 21; (first | ((with_reducible refine (CM.out.mk2 _ ?_).mono ?_); (refine hT.behind ?_; repeat (first | with_reducible assumption | with_reducible exact Below.refl _ _ | with_reducible refine Below.drew ?_ | with_reducible refine below_drewN ?_ _ | with_reducible refine bw_alloc ?_ _ | (with_reducible refine bw_set ?_ ?_ _; focus (dsimp only; omega)) | (with_reducible apply bw_behind; with_reducible assumption))))); rintro e wb ⟨rfl, hbb⟩; have hrb := below_reads hbb; have hhb := below_holds hbb; obtain ⟨mb, hsb⟩ := below_grew hbb) | (go_at_call 9; (first | ((with_reducible refine (CM.out.look2 _ ?_).mono ?_); (refine hT.behind ?_; repeat (first | with_reducible assumption | with_reducible exact Below.refl _ _ | with_reducible refine Below.drew ?_ | with_reducible refine below_drewN ?_ _ | with_reducible refine bw_alloc ?_ _ | (with_reducible refine bw_set ?_ ?_ _; focus (dsimp only; omega)) | (with_reducible apply bw_behind; with_reducible assumption))))); rintro e wd ⟨rfl, hbd⟩; have hrd := below_reads hbd; have hhd := below_holds hbd; obtain ⟨md, hsd⟩ := below_grew hbd) | (go_at_call 13; (first | ((with_reducible refine (CM.out.right2 _ ?_).mono ?_); (refine hT.behind ?_; repeat (first | with_reducible assumption | with_reducible exact Below.refl _ _ | with_reducible refine Below.drew ?_ | with_reducible refine below_drewN ?_ _ | with_reducible refine bw_alloc ?_ _ | (with_reducible refine bw_set ?_ ?_ _; focus (dsimp only; omega)) | (with_reducible apply bw_behind; with_reducible assumption))))); rintro e wf ⟨rfl, hbf⟩; have hrf := below_reads hbf; have hhf := below_holds hbf; obtain ⟨mf, hsf⟩ := below_grew hbf) | (go_at_call 20; (first | ((with_reducible refine (one_any _ ?_).mono ?_); (refine hT.behind ?_; repeat (first | with_reducible assumption | with_reducible exact Below.refl _ _ | with_reducible refine Below.drew ?_ | with_reducible refine below_drewN ?_ _ | with_reducible refine bw_alloc ?_ _ | (with_reducible refine bw_set ?_ ?_ _; focus (dsimp only; omega)) | (with_reducible apply bw_behind; with_reducible assumption))))); rintro e wh ⟨rfl, hbh⟩; have hrh := below_reads hbh; have hhh := below_holds hbh; obtain ⟨mh, hsh⟩ := below_grew hbh))
  go_ret
  refine ⟨rfl, ?_⟩
  repeat (first | with_reducible assumption | with_reducible exact Below.refl _ _ | with_reducible refine Below.drew ?_ | with_reducible refine below_drewN ?_ _ | with_reducible refine bw_alloc ?_ _ | (with_reducible refine bw_set ?_ ?_ _; focus (dsimp only; omega)) | (with_reducible apply bw_behind; with_reducible assumption))

set_option maxHeartbeats 4000000 in
theorem walk_ny (B T P K M A M1 A1 D U P1 K1 : Int) (q L2 : Bool) (hm : Met B T P K M A M1 A1 D U P1 K1 M A q false true L2 true) (w : World) (hT : Tab w) :
    Calls Tryd.prog 5 #[.agg #[.int .u64 B, .int .u64 T, .int .u64 P, .int .u64 K], .agg #[.bool q, .int .u64 M, .int .u64 A]] w fun e w' => e = .returned (.bool true) ∧ Below w.heap.size w w' := by
  have CM := hide hm
  clear hm
  have NV := ne_view B T P K B T P K
  rw [decide_eq_true ⟨rfl, rfl, rfl, rfl⟩] at NV
  have SS := cell_same
  have LB' := ltB_add
  have LS := ltB_self
  have LA' := alloc_reads
  have LH := alloc_holds
  go_enter Tryd.func5, Tryd.ntmps5
  go_wp2_with (first | (go_at_call 21; (first | ((with_reducible refine (CM.out.mk1 _ ?_).mono ?_); (refine hT.behind ?_; repeat (first | with_reducible assumption | with_reducible exact Below.refl _ _ | with_reducible refine Below.drew ?_ | with_reducible refine below_drewN ?_ _ | with_reducible refine bw_alloc ?_ _ | (with_reducible refine bw_set ?_ ?_ _; focus (dsimp only; omega)) | (with_reducible apply bw_behind; with_reducible assumption))))); rintro e wa ⟨rfl, hba⟩; have hra := below_reads hba; have hha := below_holds hba; obtain ⟨ma, hsa⟩ := below_grew hba) | (go_at_call 21; (first | ((with_reducible refine (CM.out.mk2 _ ?_).mono ?_); (refine hT.behind ?_; repeat (first | with_reducible assumption | with_reducible exact Below.refl _ _ | with_reducible refine Below.drew ?_ | with_reducible refine below_drewN ?_ _ | with_reducible refine bw_alloc ?_ _ | (with_reducible refine bw_set ?_ ?_ _; focus (dsimp only; omega)) | (with_reducible apply bw_behind; with_reducible assumption))))); rintro e wb ⟨rfl, hbb⟩; have hrb := below_reads hbb; have hhb := below_holds hbb; obtain ⟨mb, hsb⟩ := below_grew hbb) | (go_at_call 9; (first | ((with_reducible refine (CM.out.look2 _ ?_).mono ?_); (refine hT.behind ?_; repeat (first | with_reducible assumption | with_reducible exact Below.refl _ _ | with_reducible refine Below.drew ?_ | with_reducible refine below_drewN ?_ _ | with_reducible refine bw_alloc ?_ _ | (with_reducible refine bw_set ?_ ?_ _; focus (dsimp only; omega)) | (with_reducible apply bw_behind; with_reducible assumption))))); rintro e wd ⟨rfl, hbd⟩; have hrd := below_reads hbd; have hhd := below_holds hbd; obtain ⟨md, hsd⟩ := below_grew hbd) | (go_at_call 13; (first | ((with_reducible refine (CM.out.right2 _ ?_).mono ?_); (refine hT.behind ?_; repeat (first | with_reducible assumption | with_reducible exact Below.refl _ _ | with_reducible refine Below.drew ?_ | with_reducible refine below_drewN ?_ _ | with_reducible refine bw_alloc ?_ _ | (with_reducible refine bw_set ?_ ?_ _; focus (dsimp only; omega)) | (with_reducible apply bw_behind; with_reducible assumption))))); rintro e wf ⟨rfl, hbf⟩; have hrf := below_reads hbf; have hhf := below_holds hbf; obtain ⟨mf, hsf⟩ := below_grew hbf) | (go_at_call 20; (first | ((with_reducible refine (one_any _ ?_).mono ?_); (refine hT.behind ?_; repeat (first | with_reducible assumption | with_reducible exact Below.refl _ _ | with_reducible refine Below.drew ?_ | with_reducible refine below_drewN ?_ _ | with_reducible refine bw_alloc ?_ _ | (with_reducible refine bw_set ?_ ?_ _; focus (dsimp only; omega)) | (with_reducible apply bw_behind; with_reducible assumption))))); rintro e wh ⟨rfl, hbh⟩; have hrh := below_reads hbh; have hhh := below_holds hbh; obtain ⟨mh, hsh⟩ := below_grew hbh))
  go_ret
  refine ⟨rfl, ?_⟩
  repeat (first | with_reducible assumption | with_reducible exact Below.refl _ _ | with_reducible refine Below.drew ?_ | with_reducible refine below_drewN ?_ _ | with_reducible refine bw_alloc ?_ _ | (with_reducible refine bw_set ?_ ?_ _; focus (dsimp only; omega)) | (with_reducible apply bw_behind; with_reducible assumption))

set_option maxHeartbeats 4000000 in
theorem walk_yn (B T P K M A M1 A1 D U P1 K1 M2 A2 : Int) (q L2 O2 : Bool) (hm : Met B T P K M A M1 A1 D U P1 K1 M2 A2 q true false L2 O2) (hy : MetY B T P K M1 A1) (w : World) (hT : Tab w) :
    Calls Tryd.prog 5 #[.agg #[.int .u64 B, .int .u64 T, .int .u64 P, .int .u64 K], .agg #[.bool q, .int .u64 M, .int .u64 A]] w fun e w' => e = .returned (.bool true) ∧ Below w.heap.size w w' := by
  have CM := hide hm
  clear hm
  have CY := hide hy
  clear hy
  have NV := ne_view B T P K B T P K
  rw [decide_eq_true ⟨rfl, rfl, rfl, rfl⟩] at NV
  have SS := cell_same
  have LB' := ltB_add
  have LS := ltB_self
  have LA' := alloc_reads
  have LH := alloc_holds
  go_enter Tryd.func5, Tryd.ntmps5
  go_wp2_with (first | (go_at_call 21; (first | ((with_reducible refine (CM.out.mk1 _ ?_).mono ?_); (refine hT.behind ?_; repeat (first | with_reducible assumption | with_reducible exact Below.refl _ _ | with_reducible refine Below.drew ?_ | with_reducible refine below_drewN ?_ _ | with_reducible refine bw_alloc ?_ _ | (with_reducible refine bw_set ?_ ?_ _; focus (dsimp only; omega)) | (with_reducible apply bw_behind; with_reducible assumption))))); rintro e wa ⟨rfl, hba⟩; have hra := below_reads hba; have hha := below_holds hba; obtain ⟨ma, hsa⟩ := below_grew hba) | (go_at_call 21; (first | ((with_reducible refine (CM.out.mk2 _ ?_).mono ?_); (refine hT.behind ?_; repeat (first | with_reducible assumption | with_reducible exact Below.refl _ _ | with_reducible refine Below.drew ?_ | with_reducible refine below_drewN ?_ _ | with_reducible refine bw_alloc ?_ _ | (with_reducible refine bw_set ?_ ?_ _; focus (dsimp only; omega)) | (with_reducible apply bw_behind; with_reducible assumption))))); rintro e wb ⟨rfl, hbb⟩; have hrb := below_reads hbb; have hhb := below_holds hbb; obtain ⟨mb, hsb⟩ := below_grew hbb) | (go_at_call 9; (first | ((with_reducible refine (CY.out.look1 _ ?_).mono ?_); (refine hT.behind ?_; repeat (first | with_reducible assumption | with_reducible exact Below.refl _ _ | with_reducible refine Below.drew ?_ | with_reducible refine below_drewN ?_ _ | with_reducible refine bw_alloc ?_ _ | (with_reducible refine bw_set ?_ ?_ _; focus (dsimp only; omega)) | (with_reducible apply bw_behind; with_reducible assumption))))); rintro e wc ⟨rfl, hbc⟩; have hrc := below_reads hbc; have hhc := below_holds hbc; obtain ⟨mc, hsc⟩ := below_grew hbc) | (go_at_call 13; (first | ((with_reducible refine (CY.out.right1 _ ?_).mono ?_); (refine hT.behind ?_; repeat (first | with_reducible assumption | with_reducible exact Below.refl _ _ | with_reducible refine Below.drew ?_ | with_reducible refine below_drewN ?_ _ | with_reducible refine bw_alloc ?_ _ | (with_reducible refine bw_set ?_ ?_ _; focus (dsimp only; omega)) | (with_reducible apply bw_behind; with_reducible assumption))))); rintro e we ⟨rfl, hbe⟩; have hre := below_reads hbe; have hhe := below_holds hbe; obtain ⟨me, hse⟩ := below_grew hbe) | (go_at_call 15; (first | ((with_reducible refine (CY.out.within1 _ ?_).mono ?_); (refine hT.behind ?_; repeat (first | with_reducible assumption | with_reducible exact Below.refl _ _ | with_reducible refine Below.drew ?_ | with_reducible refine below_drewN ?_ _ | with_reducible refine bw_alloc ?_ _ | (with_reducible refine bw_set ?_ ?_ _; focus (dsimp only; omega)) | (with_reducible apply bw_behind; with_reducible assumption))))); rintro e wg ⟨rfl, hbg⟩; have hrg := below_reads hbg; have hhg := below_holds hbg; obtain ⟨mg, hsg⟩ := below_grew hbg) | (go_at_call 9; (first | ((with_reducible refine (CM.out.look2 _ ?_).mono ?_); (refine hT.behind ?_; repeat (first | with_reducible assumption | with_reducible exact Below.refl _ _ | with_reducible refine Below.drew ?_ | with_reducible refine below_drewN ?_ _ | with_reducible refine bw_alloc ?_ _ | (with_reducible refine bw_set ?_ ?_ _; focus (dsimp only; omega)) | (with_reducible apply bw_behind; with_reducible assumption))))); rintro e wd ⟨rfl, hbd⟩; have hrd := below_reads hbd; have hhd := below_holds hbd; obtain ⟨md, hsd⟩ := below_grew hbd) | (go_at_call 13; (first | ((with_reducible refine (CM.out.right2 _ ?_).mono ?_); (refine hT.behind ?_; repeat (first | with_reducible assumption | with_reducible exact Below.refl _ _ | with_reducible refine Below.drew ?_ | with_reducible refine below_drewN ?_ _ | with_reducible refine bw_alloc ?_ _ | (with_reducible refine bw_set ?_ ?_ _; focus (dsimp only; omega)) | (with_reducible apply bw_behind; with_reducible assumption))))); rintro e wf ⟨rfl, hbf⟩; have hrf := below_reads hbf; have hhf := below_holds hbf; obtain ⟨mf, hsf⟩ := below_grew hbf) | (go_at_call 20; (first | ((with_reducible refine (one_any _ ?_).mono ?_); (refine hT.behind ?_; repeat (first | with_reducible assumption | with_reducible exact Below.refl _ _ | with_reducible refine Below.drew ?_ | with_reducible refine below_drewN ?_ _ | with_reducible refine bw_alloc ?_ _ | (with_reducible refine bw_set ?_ ?_ _; focus (dsimp only; omega)) | (with_reducible apply bw_behind; with_reducible assumption))))); rintro e wh ⟨rfl, hbh⟩; have hrh := below_reads hbh; have hhh := below_holds hbh; obtain ⟨mh, hsh⟩ := below_grew hbh))
  go_ret
  refine ⟨rfl, ?_⟩
  repeat (first | with_reducible assumption | with_reducible exact Below.refl _ _ | with_reducible refine Below.drew ?_ | with_reducible refine below_drewN ?_ _ | with_reducible refine bw_alloc ?_ _ | (with_reducible refine bw_set ?_ ?_ _; focus (dsimp only; omega)) | (with_reducible apply bw_behind; with_reducible assumption))

set_option maxHeartbeats 4000000 in
theorem walk_ym (B T P K M A M1 A1 D U P1 K1 M2 A2 : Int) (q L2 : Bool) (hm : Met B T P K M A M1 A1 D U P1 K1 M2 A2 q true true L2 false) (hy : MetY B T P K M1 A1) (w : World) (hT : Tab w) :
    Calls Tryd.prog 5 #[.agg #[.int .u64 B, .int .u64 T, .int .u64 P, .int .u64 K], .agg #[.bool q, .int .u64 M, .int .u64 A]] w fun e w' => e = .returned (.bool true) ∧ Below w.heap.size w w' := by
  have CM := hide hm
  clear hm
  have CY := hide hy
  clear hy
  have NV := ne_view B T P K B T P K
  rw [decide_eq_true ⟨rfl, rfl, rfl, rfl⟩] at NV
  have SS := cell_same
  have LB' := ltB_add
  have LS := ltB_self
  have LA' := alloc_reads
  have LH := alloc_holds
  go_enter Tryd.func5, Tryd.ntmps5
  go_wp2_with (first | (go_at_call 21; (first | ((with_reducible refine (CM.out.mk1 _ ?_).mono ?_); (refine hT.behind ?_; repeat (first | with_reducible assumption | with_reducible exact Below.refl _ _ | with_reducible refine Below.drew ?_ | with_reducible refine below_drewN ?_ _ | with_reducible refine bw_alloc ?_ _ | (with_reducible refine bw_set ?_ ?_ _; focus (dsimp only; omega)) | (with_reducible apply bw_behind; with_reducible assumption))))); rintro e wa ⟨rfl, hba⟩; have hra := below_reads hba; have hha := below_holds hba; obtain ⟨ma, hsa⟩ := below_grew hba) | (go_at_call 21; (first | ((with_reducible refine (CM.out.mk2 _ ?_).mono ?_); (refine hT.behind ?_; repeat (first | with_reducible assumption | with_reducible exact Below.refl _ _ | with_reducible refine Below.drew ?_ | with_reducible refine below_drewN ?_ _ | with_reducible refine bw_alloc ?_ _ | (with_reducible refine bw_set ?_ ?_ _; focus (dsimp only; omega)) | (with_reducible apply bw_behind; with_reducible assumption))))); rintro e wb ⟨rfl, hbb⟩; have hrb := below_reads hbb; have hhb := below_holds hbb; obtain ⟨mb, hsb⟩ := below_grew hbb) | (go_at_call 9; (first | ((with_reducible refine (CY.out.look1 _ ?_).mono ?_); (refine hT.behind ?_; repeat (first | with_reducible assumption | with_reducible exact Below.refl _ _ | with_reducible refine Below.drew ?_ | with_reducible refine below_drewN ?_ _ | with_reducible refine bw_alloc ?_ _ | (with_reducible refine bw_set ?_ ?_ _; focus (dsimp only; omega)) | (with_reducible apply bw_behind; with_reducible assumption))))); rintro e wc ⟨rfl, hbc⟩; have hrc := below_reads hbc; have hhc := below_holds hbc; obtain ⟨mc, hsc⟩ := below_grew hbc) | (go_at_call 13; (first | ((with_reducible refine (CY.out.right1 _ ?_).mono ?_); (refine hT.behind ?_; repeat (first | with_reducible assumption | with_reducible exact Below.refl _ _ | with_reducible refine Below.drew ?_ | with_reducible refine below_drewN ?_ _ | with_reducible refine bw_alloc ?_ _ | (with_reducible refine bw_set ?_ ?_ _; focus (dsimp only; omega)) | (with_reducible apply bw_behind; with_reducible assumption))))); rintro e we ⟨rfl, hbe⟩; have hre := below_reads hbe; have hhe := below_holds hbe; obtain ⟨me, hse⟩ := below_grew hbe) | (go_at_call 15; (first | ((with_reducible refine (CY.out.within1 _ ?_).mono ?_); (refine hT.behind ?_; repeat (first | with_reducible assumption | with_reducible exact Below.refl _ _ | with_reducible refine Below.drew ?_ | with_reducible refine below_drewN ?_ _ | with_reducible refine bw_alloc ?_ _ | (with_reducible refine bw_set ?_ ?_ _; focus (dsimp only; omega)) | (with_reducible apply bw_behind; with_reducible assumption))))); rintro e wg ⟨rfl, hbg⟩; have hrg := below_reads hbg; have hhg := below_holds hbg; obtain ⟨mg, hsg⟩ := below_grew hbg) | (go_at_call 9; (first | ((with_reducible refine (CM.out.look2 _ ?_).mono ?_); (refine hT.behind ?_; repeat (first | with_reducible assumption | with_reducible exact Below.refl _ _ | with_reducible refine Below.drew ?_ | with_reducible refine below_drewN ?_ _ | with_reducible refine bw_alloc ?_ _ | (with_reducible refine bw_set ?_ ?_ _; focus (dsimp only; omega)) | (with_reducible apply bw_behind; with_reducible assumption))))); rintro e wd ⟨rfl, hbd⟩; have hrd := below_reads hbd; have hhd := below_holds hbd; obtain ⟨md, hsd⟩ := below_grew hbd) | (go_at_call 13; (first | ((with_reducible refine (CM.out.right2 _ ?_).mono ?_); (refine hT.behind ?_; repeat (first | with_reducible assumption | with_reducible exact Below.refl _ _ | with_reducible refine Below.drew ?_ | with_reducible refine below_drewN ?_ _ | with_reducible refine bw_alloc ?_ _ | (with_reducible refine bw_set ?_ ?_ _; focus (dsimp only; omega)) | (with_reducible apply bw_behind; with_reducible assumption))))); rintro e wf ⟨rfl, hbf⟩; have hrf := below_reads hbf; have hhf := below_holds hbf; obtain ⟨mf, hsf⟩ := below_grew hbf) | (go_at_call 20; (first | ((with_reducible refine (one_any _ ?_).mono ?_); (refine hT.behind ?_; repeat (first | with_reducible assumption | with_reducible exact Below.refl _ _ | with_reducible refine Below.drew ?_ | with_reducible refine below_drewN ?_ _ | with_reducible refine bw_alloc ?_ _ | (with_reducible refine bw_set ?_ ?_ _; focus (dsimp only; omega)) | (with_reducible apply bw_behind; with_reducible assumption))))); rintro e wh ⟨rfl, hbh⟩; have hrh := below_reads hbh; have hhh := below_holds hbh; obtain ⟨mh, hsh⟩ := below_grew hbh))
  go_ret
  refine ⟨rfl, ?_⟩
  repeat (first | with_reducible assumption | with_reducible exact Below.refl _ _ | with_reducible refine Below.drew ?_ | with_reducible refine below_drewN ?_ _ | with_reducible refine bw_alloc ?_ _ | (with_reducible refine bw_set ?_ ?_ _; focus (dsimp only; omega)) | (with_reducible apply bw_behind; with_reducible assumption))

set_option maxHeartbeats 4000000 in
theorem walk_yy (B T P K M A M1 A1 D U P1 K1 : Int) (q L2 : Bool) (hm : Met B T P K M A M1 A1 D U P1 K1 M A q true true L2 true) (hy : MetY B T P K M1 A1) (w : World) (hT : Tab w) :
    Calls Tryd.prog 5 #[.agg #[.int .u64 B, .int .u64 T, .int .u64 P, .int .u64 K], .agg #[.bool q, .int .u64 M, .int .u64 A]] w fun e w' => e = .returned (.bool true) ∧ Below w.heap.size w w' := by
  have CM := hide hm
  clear hm
  have CY := hide hy
  clear hy
  have NV := ne_view B T P K B T P K
  rw [decide_eq_true ⟨rfl, rfl, rfl, rfl⟩] at NV
  have SS := cell_same
  have LB' := ltB_add
  have LS := ltB_self
  have LA' := alloc_reads
  have LH := alloc_holds
  go_enter Tryd.func5, Tryd.ntmps5
  go_wp2_with (first | (go_at_call 21; (first | ((with_reducible refine (CM.out.mk1 _ ?_).mono ?_); (refine hT.behind ?_; repeat (first | with_reducible assumption | with_reducible exact Below.refl _ _ | with_reducible refine Below.drew ?_ | with_reducible refine below_drewN ?_ _ | with_reducible refine bw_alloc ?_ _ | (with_reducible refine bw_set ?_ ?_ _; focus (dsimp only; omega)) | (with_reducible apply bw_behind; with_reducible assumption))))); rintro e wa ⟨rfl, hba⟩; have hra := below_reads hba; have hha := below_holds hba; obtain ⟨ma, hsa⟩ := below_grew hba) | (go_at_call 21; (first | ((with_reducible refine (CM.out.mk2 _ ?_).mono ?_); (refine hT.behind ?_; repeat (first | with_reducible assumption | with_reducible exact Below.refl _ _ | with_reducible refine Below.drew ?_ | with_reducible refine below_drewN ?_ _ | with_reducible refine bw_alloc ?_ _ | (with_reducible refine bw_set ?_ ?_ _; focus (dsimp only; omega)) | (with_reducible apply bw_behind; with_reducible assumption))))); rintro e wb ⟨rfl, hbb⟩; have hrb := below_reads hbb; have hhb := below_holds hbb; obtain ⟨mb, hsb⟩ := below_grew hbb) | (go_at_call 9; (first | ((with_reducible refine (CY.out.look1 _ ?_).mono ?_); (refine hT.behind ?_; repeat (first | with_reducible assumption | with_reducible exact Below.refl _ _ | with_reducible refine Below.drew ?_ | with_reducible refine below_drewN ?_ _ | with_reducible refine bw_alloc ?_ _ | (with_reducible refine bw_set ?_ ?_ _; focus (dsimp only; omega)) | (with_reducible apply bw_behind; with_reducible assumption))))); rintro e wc ⟨rfl, hbc⟩; have hrc := below_reads hbc; have hhc := below_holds hbc; obtain ⟨mc, hsc⟩ := below_grew hbc) | (go_at_call 13; (first | ((with_reducible refine (CY.out.right1 _ ?_).mono ?_); (refine hT.behind ?_; repeat (first | with_reducible assumption | with_reducible exact Below.refl _ _ | with_reducible refine Below.drew ?_ | with_reducible refine below_drewN ?_ _ | with_reducible refine bw_alloc ?_ _ | (with_reducible refine bw_set ?_ ?_ _; focus (dsimp only; omega)) | (with_reducible apply bw_behind; with_reducible assumption))))); rintro e we ⟨rfl, hbe⟩; have hre := below_reads hbe; have hhe := below_holds hbe; obtain ⟨me, hse⟩ := below_grew hbe) | (go_at_call 15; (first | ((with_reducible refine (CY.out.within1 _ ?_).mono ?_); (refine hT.behind ?_; repeat (first | with_reducible assumption | with_reducible exact Below.refl _ _ | with_reducible refine Below.drew ?_ | with_reducible refine below_drewN ?_ _ | with_reducible refine bw_alloc ?_ _ | (with_reducible refine bw_set ?_ ?_ _; focus (dsimp only; omega)) | (with_reducible apply bw_behind; with_reducible assumption))))); rintro e wg ⟨rfl, hbg⟩; have hrg := below_reads hbg; have hhg := below_holds hbg; obtain ⟨mg, hsg⟩ := below_grew hbg) | (go_at_call 9; (first | ((with_reducible refine (CM.out.look2 _ ?_).mono ?_); (refine hT.behind ?_; repeat (first | with_reducible assumption | with_reducible exact Below.refl _ _ | with_reducible refine Below.drew ?_ | with_reducible refine below_drewN ?_ _ | with_reducible refine bw_alloc ?_ _ | (with_reducible refine bw_set ?_ ?_ _; focus (dsimp only; omega)) | (with_reducible apply bw_behind; with_reducible assumption))))); rintro e wd ⟨rfl, hbd⟩; have hrd := below_reads hbd; have hhd := below_holds hbd; obtain ⟨md, hsd⟩ := below_grew hbd) | (go_at_call 13; (first | ((with_reducible refine (CM.out.right2 _ ?_).mono ?_); (refine hT.behind ?_; repeat (first | with_reducible assumption | with_reducible exact Below.refl _ _ | with_reducible refine Below.drew ?_ | with_reducible refine below_drewN ?_ _ | with_reducible refine bw_alloc ?_ _ | (with_reducible refine bw_set ?_ ?_ _; focus (dsimp only; omega)) | (with_reducible apply bw_behind; with_reducible assumption))))); rintro e wf ⟨rfl, hbf⟩; have hrf := below_reads hbf; have hhf := below_holds hbf; obtain ⟨mf, hsf⟩ := below_grew hbf) | (go_at_call 20; (first | ((with_reducible refine (one_any _ ?_).mono ?_); (refine hT.behind ?_; repeat (first | with_reducible assumption | with_reducible exact Below.refl _ _ | with_reducible refine Below.drew ?_ | with_reducible refine below_drewN ?_ _ | with_reducible refine bw_alloc ?_ _ | (with_reducible refine bw_set ?_ ?_ _; focus (dsimp only; omega)) | (with_reducible apply bw_behind; with_reducible assumption))))); rintro e wh ⟨rfl, hbh⟩; have hrh := below_reads hbh; have hhh := below_holds hbh; obtain ⟨mh, hsh⟩ := below_grew hbh))
  go_ret
  refine ⟨rfl, ?_⟩
  repeat (first | with_reducible assumption | with_reducible exact Below.refl _ _ | with_reducible refine Below.drew ?_ | with_reducible refine below_drewN ?_ _ | with_reducible refine bw_alloc ?_ _ | (with_reducible refine bw_set ?_ ?_ _; focus (dsimp only; omega)) | (with_reducible apply bw_behind; with_reducible assumption))

theorem walk (b t p k : BitVec 64) (q : Bool) (m a : BitVec 64) (w : World) (hT : Tab w) :
    Calls Tryd.prog 5 #[.agg #[.int .u64 (b.toNat : Int), .int .u64 (t.toNat : Int), .int .u64 (p.toNat : Int), .int .u64 (k.toNat : Int)], .agg #[.bool q, .int .u64 (m.toNat : Int), .int .u64 (a.toNat : Int)]] w fun e w' => e = .returned (.bool true) ∧ Below w.heap.size w w' := by
  obtain ⟨fb, ft, e, ex, h⟩ := enc_ex b.toNat t.toNat
  have h1 := fun W hW => make_any b t p.toNat k.toNat b.toNat fb ft e ex (toNat_lt p) (toNat_lt k) h W hW
  have h2 := fun W hW => right_any q m.toNat a.toNat (toNat_lt m) W hW
  have h3 := fun W hW => look_any q m.toNat a.toNat (toNat_lt m) W hW
  obtain ⟨D, hD⟩ : ∃ D : BitVec 64, D.toNat = lB m.toNat a.toNat := ⟨BitVec.ofNat 64 (lB m.toNat a.toNat), by rw [BitVec.toNat_ofNat]; exact Nat.mod_eq_of_lt (by have := dB_le (mB m.toNat) (mT m.toNat) (mE m.toNat) a.toNat; have := dT_le (mB m.toNat) (mT m.toNat) (mE m.toNat) a.toNat; unfold lB; omega)⟩
  obtain ⟨U, hU⟩ : ∃ U : BitVec 64, U.toNat = lT m.toNat a.toNat := ⟨BitVec.ofNat 64 (lT m.toNat a.toNat), by rw [BitVec.toNat_ofNat]; exact Nat.mod_eq_of_lt (by have := dT_le (mB m.toNat) (mT m.toNat) (mE m.toNat) a.toNat; unfold lT; omega)⟩
  obtain ⟨fb2, ft2, e2, ex2, hh⟩ := enc_ex D.toNat U.toNat
  have h4 := fun W hW => make_any D U (mP m.toNat) (mK m.toNat) a.toNat fb2 ft2 e2 ex2 (by unfold mP; omega) (by unfold mK; omega) hh W hW
  have hmk : rightB m.toNat a.toNat = true → metaN (wordN fb2 ft2 e2) (mP m.toNat) (mK m.toNat) = m.toNat := fun hr => by
    rw [hD, hU] at hh
    exact remade hr hh
  rw [← hD, ← hU] at h3
  have h7 : mkO b.toNat t.toNat p.toNat k.toNat b.toNat fb ft e ex = true →
      (∀ W, Tab W → Calls Tryd.prog 9 #[.agg #[.bool false, .int .u64 ((metaN (wordN fb ft e) p.toNat k.toNat : Nat) : Int), .int .u64 (b.toNat : Int)]] W (Makes (.tuple #[.agg #[.int .u64 (b.toNat : Int), .int .u64 (t.toNat : Int), .int .u64 (p.toNat : Int), .int .u64 (k.toNat : Int)], .bool true]) W)) ∧
      (∀ W, Tab W → Calls Tryd.prog 13 #[.agg #[.bool false, .int .u64 ((metaN (wordN fb ft e) p.toNat k.toNat : Nat) : Int), .int .u64 (b.toNat : Int)]] W (Makes (.bool true) W)) ∧
      (∀ W, Tab W → Calls Tryd.prog 15 #[.agg #[.bool false, .int .u64 ((metaN (wordN fb ft e) p.toNat k.toNat : Nat) : Int), .int .u64 (b.toNat : Int)], .agg #[.bool false, .int .u64 ((metaN (wordN fb ft e) p.toNat k.toNat : Nat) : Int), .int .u64 (b.toNat : Int)]] W (Makes (.bool true) W)) := fun ho => by
    obtain ⟨e1, e2, e3, e4, e5, e6⟩ := made h ho
    have a1 := fun W hW => look_any false (metaN (wordN fb ft e) p.toNat k.toNat) b.toNat (metaN_lt ..) W hW
    have a2 := fun W hW => right_any false (metaN (wordN fb ft e) p.toNat k.toNat) b.toNat (metaN_lt ..) W hW
    have a3 := fun W hW => within_any false false (metaN (wordN fb ft e) p.toNat k.toNat) b.toNat (metaN (wordN fb ft e) p.toNat k.toNat) b.toNat (metaN_lt ..) (metaN_lt ..) W hW
    rw [e1, e2, e3, e4, e5] at a1
    rw [e6] at a2
    rw [within_refl e6] at a3
    exact ⟨a1, a2, a3⟩
  cases ho : mkO b.toNat t.toNat p.toNat k.toNat b.toNat fb ft e ex with
  | true =>
    rw [ho] at h1
    obtain ⟨a1, a2, a3⟩ := h7 ho
    have hy : MetY (b.toNat : Int) (t.toNat : Int) (p.toNat : Int) (k.toNat : Int) ((metaN (wordN fb ft e) p.toNat k.toNat : Nat) : Int) (b.toNat : Int) := ⟨a1, a2, a3⟩
    cases hr : rightB m.toNat a.toNat with
    | false =>
      rw [hr] at h2
      exact walk_yn _ _ _ _ _ _ _ _ _ _ _ _ _ _ _ _ _ ⟨h1, h2, h3, h4⟩ hy w hT
    | true =>
      rw [hr] at h2
      cases ho2 : mkO D.toNat U.toNat (mP m.toNat) (mK m.toNat) a.toNat fb2 ft2 e2 ex2 with
      | false =>
        rw [ho2] at h4
        exact walk_ym _ _ _ _ _ _ _ _ _ _ _ _ _ _ _ _ ⟨h1, h2, h3, h4⟩ hy w hT
      | true =>
        rw [ho2] at h4
        have hmm : mkM (mP m.toNat) (mK m.toNat) fb2 ft2 e2 true = m.toNat := hmk hr
        rw [hmm] at h4
        exact walk_yy _ _ _ _ _ _ _ _ _ _ _ _ _ _ ⟨h1, h2, h3, h4⟩ hy w hT
  | false =>
    rw [ho] at h1
    cases hr : rightB m.toNat a.toNat with
    | false =>
      rw [hr] at h2
      exact walk_nn _ _ _ _ _ _ _ _ _ _ _ _ _ _ _ _ _ ⟨h1, h2, h3, h4⟩ w hT
    | true =>
      rw [hr] at h2
      cases ho2 : mkO D.toNat U.toNat (mP m.toNat) (mK m.toNat) a.toNat fb2 ft2 e2 ex2 with
      | false =>
        rw [ho2] at h4
        exact walk_nm _ _ _ _ _ _ _ _ _ _ _ _ _ _ _ _ ⟨h1, h2, h3, h4⟩ w hT
      | true =>
        rw [ho2] at h4
        have hmm : mkM (mP m.toNat) (mK m.toNat) fb2 ft2 e2 true = m.toNat := hmk hr
        rw [hmm] at h4
        exact walk_ny _ _ _ _ _ _ _ _ _ _ _ _ _ _ ⟨h1, h2, h3, h4⟩ w hT
open Go.ChangeShapes Go.WideShapes Go.ChangeAt
set_option maxRecDepth 100000 in
theorem walks : Frame.WalksLaid [("mintmark/bounds.places", Rows.laid_mintmark_bounds_places)] 5 Tryd.f5 := by
  intro H enc W base args ds ps hL hval hA
  rw [Tryd.params5] at hA hval
  obtain ⟨v0, v1, d0, d1, p0, p1, hargs, rfl, rfl, h0, h1⟩ := trodAll_two hA
  obtain rfl : args = #[v0, v1] := by cases args; simp_all
  obtain ⟨cs0, rfl, hf0⟩ := Frame.open_struct (F := 4) (ks := [.inl .u64, .inl .u64, .inl .u64, .inl .u64]) Tryd.underlying28 (by kernel_rfl) (hval 0 28 v0 rfl rfl) h0
  match cs0, hf0 with
  | [_, _, _, _], ⟨⟨z0_0, rfl, wz0_0⟩, ⟨z0_1, rfl, wz0_1⟩, ⟨z0_2, rfl, wz0_2⟩, ⟨z0_3, rfl, wz0_3⟩, _⟩ =>
  obtain ⟨Z0_0, rfl⟩ := Frame.wf_u64 wz0_0
  obtain ⟨Z0_1, rfl⟩ := Frame.wf_u64 wz0_1
  obtain ⟨Z0_2, rfl⟩ := Frame.wf_u64 wz0_2
  obtain ⟨Z0_3, rfl⟩ := Frame.wf_u64 wz0_3
  obtain ⟨cs1, rfl, hf1⟩ := Frame.open_struct (F := 4) (ks := [.inr false, .inl .u64, .inl .u64]) Tryd.underlying24 (by kernel_rfl) (hval 1 24 v1 rfl rfl) h1
  match cs1, hf1 with
  | [_, _, _], ⟨⟨z1_0, rfl⟩, ⟨z1_1, rfl, wz1_1⟩, ⟨z1_2, rfl, wz1_2⟩, _⟩ =>
  obtain ⟨Z1_1, rfl⟩ := Frame.wf_u64 wz1_1
  obtain ⟨Z1_2, rfl⟩ := Frame.wf_u64 wz1_2
  exact walk Z0_0 Z0_1 Z0_2 Z0_3 z1_0 Z1_1 Z1_2 W (tab_of_laid hL)
set_option maxRecDepth 100000 in
theorem said : Rows.CapabBackSaid :=
  OpenClaim.holds_of_wide 5 Tryd.f5 rfl rfl rfl rfl rfl rfl rfl ⟨rfl, rfl, rfl, rfl, rfl⟩ rfl rfl rfl rfl rfl (by kernel_rfl) Tryd.func5 (by kernel_rfl)
    (of_decide_eq_true (by kernel_rfl)) (by unfold Func.isWrapper; first | (rw [if_pos (by decide +kernel)]; kernel_rfl) | (rw [if_neg (by decide +kernel)]; exact ⟨rfl, rfl⟩))
    (fun os started H enc _ => Frame.liftLaid [("mintmark/bounds.places", Rows.laid_mintmark_bounds_places)] os started H enc _ _ Rows.capabBackSpec 4 (by kernel_rfl) Tryd.func5 Tryd.underlying4 (by kernel_rfl) rfl (by kernel_rfl)
      (fun ds h => by match ds, h with | [_, _], _ => exact ⟨rfl, rfl, rfl⟩)
      (ChangeSpec.witness_shaped (enc := enc) (C := Tryd.checked) (os := os) (X := fun w _ => laidMetH Tryd.prog [("mintmark/bounds.places", Rows.laid_mintmark_bounds_places)] w) false (World.doorLaid Tryd.prog 400 os) #[.agg #[.int .u64 0, .int .u64 0, .int .u64 0, .int .u64 0], .agg #[.bool false, .int .u64 0, .int .u64 0]] 8 rfl (World.shaped_of_RefB (by kernel_rfl) (by kernel_rfl)) (by kernel_rfl) (by kernel_rfl) (by kernel_rfl) (door_met os _)) walks)
set_option maxRecDepth 100000 in
theorem proved : Rows.CapabBackCardSaid :=
  Claim7.holds_tied_plain_at .later [] [.data] true _ false said (fun _ h => by cases h) (by kernel_rfl) (fun _ h => by cases h) capabBack_row_tie rfl ⟨rfl, rfl⟩ (by kernel_rfl) rfl
    (fun f fn hf hfn => by
      obtain rfl : f = 5 := Option.some.inj ((show Tryd.prog.funcNamed "mintmark/mintmarklaw05.CapabBack" = some 5 by kernel_rfl).symm.trans hf) |>.symm
      obtain rfl : fn = Tryd.f5 := (Option.some.inj (Tryd.func5.symm.trans hfn)).symm
      exact ⟨by kernel_rfl, fun j t ht => by
        rw [Tryd.params5] at ht
        have hm : t ∈ [28, 24] := by have := Array.mem_of_getElem? ht; simp at this; simp; first | omega | grind
        have hall : ([28, 24].all fun u => !Tryd.prog.wantsStandIn u) = true := by kernel_rfl
        exact (show Tryd.prog.wantsStandIn t = false by simpa using List.all_eq_true.1 hall t hm)⟩)
    (by kernel_rfl)
end Go.Proofs.YtpdadlbdloeijaaDoor.CapabBack
