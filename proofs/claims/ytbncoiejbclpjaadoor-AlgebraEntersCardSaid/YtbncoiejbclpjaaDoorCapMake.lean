/-
  What capab.Make and Root answer.
-/
import Derived.Test.YtbncoiejbclpjaaDoorMakeMath
import Derived.Test.YtbncoiejbclpjaaDoorCapLook
import Derived.Test.YtbncoiejbclpjaaDoorCapMeta
import Derived.Test.YtbncoiejbclpjaaDoorCode03
import Derived.Deep.DeepCutAuto
import Derived.Deep.RegionHeld3
namespace Go.Proofs.YtbncoiejbclpjaaDoor
open Go.RowKit Words FieldMath BoundsMath

theorem enc_any (b t : BitVec 64) (fb ft e : Nat) (ex : Bool) (h : EncRel b.toNat t.toNat fb ft e ex) (w : World) (hT : Tab w) :
    Calls Tryd.prog 79 #[.agg #[.int .u64 (b.toNat : Int), .int .u64 (t.toNat : Int)]] w (Makes (.tuple #[.agg #[.int .u64 (fb : Int), .int .u64 (ft : Int), .int .u64 (e : Int)], .bool ex]) w) := by
  rcases h with ⟨h1, h2, hk, rfl, rfl, rfl⟩ | ⟨h1, rfl, rfl, rfl, rfl⟩
  · exact encode_any _ _ e h1 h2 hk w hT
  · exact encode_not b t h1 w
structure MMet (EX OV NE : Bool) (B T P K A FB FT E D U W1 R : Int) : Prop where
  enc : ∀ W, Tab W → Calls Tryd.prog 79 #[.agg #[.int .u64 B, .int .u64 T]] W (Makes (.tuple #[.agg #[.int .u64 FB, .int .u64 FT, .int .u64 E], .bool EX]) W)
  dec : ∀ W, Tab W → Calls Tryd.prog 71 #[.agg #[.int .u64 FB, .int .u64 FT, .int .u64 E], .int .u64 A] W (Makes (.tuple #[.agg #[.int .u64 D, .int .u64 U], .bool OV]) W)
  word : ∀ W, Tab W → Calls Tryd.prog 80 #[.agg #[.int .u64 FB, .int .u64 FT, .int .u64 E]] W (Makes (.int .u64 W1) W)
  met : ∀ W, Calls Tryd.prog 66 #[.int .u64 W1, .int .u64 P, .int .u64 K] W (Makes (.int .u64 R) W)
  ne : ∀ W, (binOp .neq 44 (.agg #[.int .u64 D, .int .u64 U]) (.agg #[.int .u64 B, .int .u64 T])).run Tryd.prog W = .ok (.bool NE) W

set_option maxHeartbeats 4000000 in
theorem make_no1 (OV NE : Bool) (B T P K A FB FT E D U W1 R : Int) (hm : MMet false OV NE B T P K A FB FT E D U W1 R)  (w : World) (hT : Tab w) :
    Calls Tryd.prog 46 #[.agg #[.int .u64 B, .int .u64 T, .int .u64 P, .int .u64 K], .int .u64 A] w (Makes (.tuple #[.agg #[.bool false, .int .u64 0, .int .u64 0], .bool false]) w) := by
  have CE := hide hm.enc
  have CD := hide hm.dec
  have CW := hide hm.word
  have CM := hide hm.met
  have NEQ := hm.ne
  clear hm
  have SS := cell_same
  have LB' := ltB_add
  have LS := ltB_self
  have LA' := alloc_reads
  have LH := alloc_holds
  go_enter Tryd.func46, Tryd.ntmps46
  go_wp2_with (first | (go_at_call 79; (with_reducible first | refine (CE.out _ ?_).mono ?_); (refine hT.behind ?_; repeat (first | with_reducible assumption | with_reducible exact Below.refl _ _ | with_reducible refine Below.drew ?_ | with_reducible refine below_drewN ?_ _ | with_reducible refine bw_alloc ?_ _ | (with_reducible refine bw_set ?_ ?_ _; focus (dsimp only; omega)) | (with_reducible apply bw_behind; with_reducible assumption))); rintro e wa ⟨rfl, hba⟩; have hra := below_reads hba; have hha := below_holds hba; obtain ⟨ma, hsa⟩ := below_grew hba) | (go_at_call 71; (with_reducible first | refine (CD.out _ ?_).mono ?_); (refine hT.behind ?_; repeat (first | with_reducible assumption | with_reducible exact Below.refl _ _ | with_reducible refine Below.drew ?_ | with_reducible refine below_drewN ?_ _ | with_reducible refine bw_alloc ?_ _ | (with_reducible refine bw_set ?_ ?_ _; focus (dsimp only; omega)) | (with_reducible apply bw_behind; with_reducible assumption))); rintro e wb ⟨rfl, hbb⟩; have hrb := below_reads hbb; have hhb := below_holds hbb; obtain ⟨mb, hsb⟩ := below_grew hbb))
  refine bodyPost_ret (v := .tuple #[.agg #[.bool false, .int .u64 0, .int .u64 0], .bool false]) (by simp (maxDischargeDepth := 4) [results, Tryd.results46, go_sem, *]) rfl ?_
  refine ⟨rfl, ?_⟩
  repeat (first | with_reducible assumption | with_reducible exact Below.refl _ _ | with_reducible refine Below.drew ?_ | with_reducible refine below_drewN ?_ _ | with_reducible refine bw_alloc ?_ _ | (with_reducible refine bw_set ?_ ?_ _; focus (dsimp only; omega)) | (with_reducible apply bw_behind; with_reducible assumption))

set_option maxHeartbeats 4000000 in
theorem make_no2 (OV NE : Bool) (B T P K A FB FT E D U W1 R : Int) (hm : MMet true OV NE B T P K A FB FT E D U W1 R) (hP : 511 < P) (w : World) (hT : Tab w) :
    Calls Tryd.prog 46 #[.agg #[.int .u64 B, .int .u64 T, .int .u64 P, .int .u64 K], .int .u64 A] w (Makes (.tuple #[.agg #[.bool false, .int .u64 0, .int .u64 0], .bool false]) w) := by
  have CE := hide hm.enc
  have CD := hide hm.dec
  have CW := hide hm.word
  have CM := hide hm.met
  have NEQ := hm.ne
  clear hm
  have SS := cell_same
  have LB' := ltB_add
  have LS := ltB_self
  have LA' := alloc_reads
  have LH := alloc_holds
  go_enter Tryd.func46, Tryd.ntmps46
  go_wp2_with (first | (go_at_call 79; (with_reducible first | refine (CE.out _ ?_).mono ?_); (refine hT.behind ?_; repeat (first | with_reducible assumption | with_reducible exact Below.refl _ _ | with_reducible refine Below.drew ?_ | with_reducible refine below_drewN ?_ _ | with_reducible refine bw_alloc ?_ _ | (with_reducible refine bw_set ?_ ?_ _; focus (dsimp only; omega)) | (with_reducible apply bw_behind; with_reducible assumption))); rintro e wa ⟨rfl, hba⟩; have hra := below_reads hba; have hha := below_holds hba; obtain ⟨ma, hsa⟩ := below_grew hba) | (go_at_call 71; (with_reducible first | refine (CD.out _ ?_).mono ?_); (refine hT.behind ?_; repeat (first | with_reducible assumption | with_reducible exact Below.refl _ _ | with_reducible refine Below.drew ?_ | with_reducible refine below_drewN ?_ _ | with_reducible refine bw_alloc ?_ _ | (with_reducible refine bw_set ?_ ?_ _; focus (dsimp only; omega)) | (with_reducible apply bw_behind; with_reducible assumption))); rintro e wb ⟨rfl, hbb⟩; have hrb := below_reads hbb; have hhb := below_holds hbb; obtain ⟨mb, hsb⟩ := below_grew hbb))
  refine bodyPost_ret (v := .tuple #[.agg #[.bool false, .int .u64 0, .int .u64 0], .bool false]) (by simp (maxDischargeDepth := 4) [results, Tryd.results46, go_sem, *]) rfl ?_
  refine ⟨rfl, ?_⟩
  repeat (first | with_reducible assumption | with_reducible exact Below.refl _ _ | with_reducible refine Below.drew ?_ | with_reducible refine below_drewN ?_ _ | with_reducible refine bw_alloc ?_ _ | (with_reducible refine bw_set ?_ ?_ _; focus (dsimp only; omega)) | (with_reducible apply bw_behind; with_reducible assumption))

set_option maxHeartbeats 4000000 in
theorem make_no3 (OV NE : Bool) (B T P K A FB FT E D U W1 R : Int) (hm : MMet true OV NE B T P K A FB FT E D U W1 R) (hP : ¬ 511 < P) (hK : 4095 < K) (w : World) (hT : Tab w) :
    Calls Tryd.prog 46 #[.agg #[.int .u64 B, .int .u64 T, .int .u64 P, .int .u64 K], .int .u64 A] w (Makes (.tuple #[.agg #[.bool false, .int .u64 0, .int .u64 0], .bool false]) w) := by
  have CE := hide hm.enc
  have CD := hide hm.dec
  have CW := hide hm.word
  have CM := hide hm.met
  have NEQ := hm.ne
  clear hm
  have SS := cell_same
  have LB' := ltB_add
  have LS := ltB_self
  have LA' := alloc_reads
  have LH := alloc_holds
  go_enter Tryd.func46, Tryd.ntmps46
  go_wp2_with (first | (go_at_call 79; (with_reducible first | refine (CE.out _ ?_).mono ?_); (refine hT.behind ?_; repeat (first | with_reducible assumption | with_reducible exact Below.refl _ _ | with_reducible refine Below.drew ?_ | with_reducible refine below_drewN ?_ _ | with_reducible refine bw_alloc ?_ _ | (with_reducible refine bw_set ?_ ?_ _; focus (dsimp only; omega)) | (with_reducible apply bw_behind; with_reducible assumption))); rintro e wa ⟨rfl, hba⟩; have hra := below_reads hba; have hha := below_holds hba; obtain ⟨ma, hsa⟩ := below_grew hba) | (go_at_call 71; (with_reducible first | refine (CD.out _ ?_).mono ?_); (refine hT.behind ?_; repeat (first | with_reducible assumption | with_reducible exact Below.refl _ _ | with_reducible refine Below.drew ?_ | with_reducible refine below_drewN ?_ _ | with_reducible refine bw_alloc ?_ _ | (with_reducible refine bw_set ?_ ?_ _; focus (dsimp only; omega)) | (with_reducible apply bw_behind; with_reducible assumption))); rintro e wb ⟨rfl, hbb⟩; have hrb := below_reads hbb; have hhb := below_holds hbb; obtain ⟨mb, hsb⟩ := below_grew hbb))
  refine bodyPost_ret (v := .tuple #[.agg #[.bool false, .int .u64 0, .int .u64 0], .bool false]) (by simp (maxDischargeDepth := 4) [results, Tryd.results46, go_sem, *]) rfl ?_
  refine ⟨rfl, ?_⟩
  repeat (first | with_reducible assumption | with_reducible exact Below.refl _ _ | with_reducible refine Below.drew ?_ | with_reducible refine below_drewN ?_ _ | with_reducible refine bw_alloc ?_ _ | (with_reducible refine bw_set ?_ ?_ _; focus (dsimp only; omega)) | (with_reducible apply bw_behind; with_reducible assumption))

set_option maxHeartbeats 4000000 in
theorem make_no4 (NE : Bool) (B T P K A FB FT E D U W1 R : Int) (hm : MMet true false NE B T P K A FB FT E D U W1 R) (hP : ¬ 511 < P) (hK : ¬ 4095 < K) (w : World) (hT : Tab w) :
    Calls Tryd.prog 46 #[.agg #[.int .u64 B, .int .u64 T, .int .u64 P, .int .u64 K], .int .u64 A] w (Makes (.tuple #[.agg #[.bool false, .int .u64 0, .int .u64 0], .bool false]) w) := by
  have CE := hide hm.enc
  have CD := hide hm.dec
  have CW := hide hm.word
  have CM := hide hm.met
  have NEQ := hm.ne
  clear hm
  have SS := cell_same
  have LB' := ltB_add
  have LS := ltB_self
  have LA' := alloc_reads
  have LH := alloc_holds
  go_enter Tryd.func46, Tryd.ntmps46
  go_wp2_with (first | (go_at_call 79; (with_reducible first | refine (CE.out _ ?_).mono ?_); (refine hT.behind ?_; repeat (first | with_reducible assumption | with_reducible exact Below.refl _ _ | with_reducible refine Below.drew ?_ | with_reducible refine below_drewN ?_ _ | with_reducible refine bw_alloc ?_ _ | (with_reducible refine bw_set ?_ ?_ _; focus (dsimp only; omega)) | (with_reducible apply bw_behind; with_reducible assumption))); rintro e wa ⟨rfl, hba⟩; have hra := below_reads hba; have hha := below_holds hba; obtain ⟨ma, hsa⟩ := below_grew hba) | (go_at_call 71; (with_reducible first | refine (CD.out _ ?_).mono ?_); (refine hT.behind ?_; repeat (first | with_reducible assumption | with_reducible exact Below.refl _ _ | with_reducible refine Below.drew ?_ | with_reducible refine below_drewN ?_ _ | with_reducible refine bw_alloc ?_ _ | (with_reducible refine bw_set ?_ ?_ _; focus (dsimp only; omega)) | (with_reducible apply bw_behind; with_reducible assumption))); rintro e wb ⟨rfl, hbb⟩; have hrb := below_reads hbb; have hhb := below_holds hbb; obtain ⟨mb, hsb⟩ := below_grew hbb))
  refine bodyPost_ret (v := .tuple #[.agg #[.bool false, .int .u64 0, .int .u64 0], .bool false]) (by simp (maxDischargeDepth := 4) [results, Tryd.results46, go_sem, *]) rfl ?_
  refine ⟨rfl, ?_⟩
  repeat (first | with_reducible assumption | with_reducible exact Below.refl _ _ | with_reducible refine Below.drew ?_ | with_reducible refine below_drewN ?_ _ | with_reducible refine bw_alloc ?_ _ | (with_reducible refine bw_set ?_ ?_ _; focus (dsimp only; omega)) | (with_reducible apply bw_behind; with_reducible assumption))

set_option maxHeartbeats 4000000 in
theorem make_no5 (B T P K A FB FT E D U W1 R : Int) (hm : MMet true true true B T P K A FB FT E D U W1 R) (hP : ¬ 511 < P) (hK : ¬ 4095 < K) (w : World) (hT : Tab w) :
    Calls Tryd.prog 46 #[.agg #[.int .u64 B, .int .u64 T, .int .u64 P, .int .u64 K], .int .u64 A] w (Makes (.tuple #[.agg #[.bool false, .int .u64 0, .int .u64 0], .bool false]) w) := by
  have CE := hide hm.enc
  have CD := hide hm.dec
  have CW := hide hm.word
  have CM := hide hm.met
  have NEQ := hm.ne
  clear hm
  have SS := cell_same
  have LB' := ltB_add
  have LS := ltB_self
  have LA' := alloc_reads
  have LH := alloc_holds
  go_enter Tryd.func46, Tryd.ntmps46
  go_wp2_with (first | (go_at_call 79; (with_reducible first | refine (CE.out _ ?_).mono ?_); (refine hT.behind ?_; repeat (first | with_reducible assumption | with_reducible exact Below.refl _ _ | with_reducible refine Below.drew ?_ | with_reducible refine below_drewN ?_ _ | with_reducible refine bw_alloc ?_ _ | (with_reducible refine bw_set ?_ ?_ _; focus (dsimp only; omega)) | (with_reducible apply bw_behind; with_reducible assumption))); rintro e wa ⟨rfl, hba⟩; have hra := below_reads hba; have hha := below_holds hba; obtain ⟨ma, hsa⟩ := below_grew hba) | (go_at_call 71; (with_reducible first | refine (CD.out _ ?_).mono ?_); (refine hT.behind ?_; repeat (first | with_reducible assumption | with_reducible exact Below.refl _ _ | with_reducible refine Below.drew ?_ | with_reducible refine below_drewN ?_ _ | with_reducible refine bw_alloc ?_ _ | (with_reducible refine bw_set ?_ ?_ _; focus (dsimp only; omega)) | (with_reducible apply bw_behind; with_reducible assumption))); rintro e wb ⟨rfl, hbb⟩; have hrb := below_reads hbb; have hhb := below_holds hbb; obtain ⟨mb, hsb⟩ := below_grew hbb))
  refine bodyPost_ret (v := .tuple #[.agg #[.bool false, .int .u64 0, .int .u64 0], .bool false]) (by simp (maxDischargeDepth := 4) [results, Tryd.results46, go_sem, *]) rfl ?_
  refine ⟨rfl, ?_⟩
  repeat (first | with_reducible assumption | with_reducible exact Below.refl _ _ | with_reducible refine Below.drew ?_ | with_reducible refine below_drewN ?_ _ | with_reducible refine bw_alloc ?_ _ | (with_reducible refine bw_set ?_ ?_ _; focus (dsimp only; omega)) | (with_reducible apply bw_behind; with_reducible assumption))

set_option maxHeartbeats 4000000 in
theorem make_yes (B T P K A FB FT E D U W1 R : Int) (hm : MMet true true false B T P K A FB FT E D U W1 R) (hP : ¬ 511 < P) (hK : ¬ 4095 < K) (w : World) (hT : Tab w) :
    Calls Tryd.prog 46 #[.agg #[.int .u64 B, .int .u64 T, .int .u64 P, .int .u64 K], .int .u64 A] w (Makes (.tuple #[.agg #[.bool false, .int .u64 R, .int .u64 A], .bool true]) w) := by
  have CE := hide hm.enc
  have CD := hide hm.dec
  have CW := hide hm.word
  have CM := hide hm.met
  have NEQ := hm.ne
  clear hm
  have SS := cell_same
  have LB' := ltB_add
  have LS := ltB_self
  have LA' := alloc_reads
  have LH := alloc_holds
  go_enter Tryd.func46, Tryd.ntmps46
  go_upto_region 7 with (first | (go_at_call 79; (with_reducible first | refine (CE.out _ ?_).mono ?_); (refine hT.behind ?_; repeat (first | with_reducible assumption | with_reducible exact Below.refl _ _ | with_reducible refine Below.drew ?_ | with_reducible refine below_drewN ?_ _ | with_reducible refine bw_alloc ?_ _ | (with_reducible refine bw_set ?_ ?_ _; focus (dsimp only; omega)) | (with_reducible apply bw_behind; with_reducible assumption))); rintro e wa ⟨rfl, hba⟩; have hra := below_reads hba; have hha := below_holds hba; obtain ⟨ma, hsa⟩ := below_grew hba) | (go_at_call 71; (with_reducible first | refine (CD.out _ ?_).mono ?_); (refine hT.behind ?_; repeat (first | with_reducible assumption | with_reducible exact Below.refl _ _ | with_reducible refine Below.drew ?_ | with_reducible refine below_drewN ?_ _ | with_reducible refine bw_alloc ?_ _ | (with_reducible refine bw_set ?_ ?_ _; focus (dsimp only; omega)) | (with_reducible apply bw_behind; with_reducible assumption))); rintro e wb ⟨rfl, hbb⟩; have hrb := below_reads hbb; have hhb := below_holds hbb; obtain ⟨mb, hsb⟩ := below_grew hbb))
  go_cut [5] (fun s5 wx => s5 = .bool true ∧ wx.cell? ⟨w.heap.size + 1, 0, none⟩ = some (.bool false) ∧ wx.cell? ⟨w.heap.size + 1, 1, none⟩ = some (.int .u64 R) ∧ wx.cell? ⟨w.heap.size + 1, 2, none⟩ = some (.int .u64 A) ∧ Below w.heap.size w wx)
  case first =>
    go_region_held3 (fun w' => w'.cell? ⟨w.heap.size, 2, none⟩ = some (.int .u64 P) ∧ w'.cell? ⟨w.heap.size, 3, none⟩ = some (.int .u64 K) ∧ w'.cell? ⟨w.heap.size + 1 + 1 + ma, 0, none⟩ = some (.int .u64 FB) ∧ w'.cell? ⟨w.heap.size + 1 + 1 + ma, 1, none⟩ = some (.int .u64 FT) ∧ w'.cell? ⟨w.heap.size + 1 + 1 + ma, 2, none⟩ = some (.int .u64 E) ∧
        Own w' (w.heap.size + 1) 3 ∧ Tab w' ∧ Below w.heap.size w w')
      (first | with_reducible assumption | (refine ⟨?_, ?_, ?_, ?_, ?_, ?_, ?_, ?_⟩ <;> (first | with_reducible assumption | ((repeat (first | with_reducible assumption | with_reducible refine c_dr _ ?_ | with_reducible refine c_d1 ?_ | with_reducible refine c_al _ ?_ | (with_reducible refine c_set ?_ ?_; focus (dsimp only; omega)) | (with_reducible apply c_be; with_reducible assumption))); done) | ((repeat (first | with_reducible assumption | with_reducible refine o_dr _ ?_ | with_reducible refine o_d1 ?_ | with_reducible refine o_set ?_ | (with_reducible refine o_new ?_ ?_; (focus (simp)); (focus (simp))) | with_reducible refine o_al _ ?_ | (with_reducible apply o_be; with_reducible assumption))); done) | ((repeat (first | with_reducible assumption | with_reducible exact Below.refl _ _ | with_reducible refine Below.drew ?_ | with_reducible refine below_drewN ?_ _ | with_reducible refine bw_alloc ?_ _ | (with_reducible refine bw_set ?_ ?_ _; focus (dsimp only; omega)) | (with_reducible apply bw_behind; with_reducible assumption))); done) | (refine hT.behind ?_; (repeat (first | with_reducible assumption | with_reducible exact Below.refl _ _ | with_reducible refine Below.drew ?_ | with_reducible refine below_drewN ?_ _ | with_reducible refine bw_alloc ?_ _ | (with_reducible refine bw_set ?_ ?_ _; focus (dsimp only; omega)) | (with_reducible apply bw_behind; with_reducible assumption))); done) | (simp [go_sem, *]; omega) | (simp (maxDischargeDepth := 4) [go_sem, *]; done))))
      (first | (go_at_call 80; (with_reducible refine (CW.out _ ?_).mono ?_); (refine hT.behind ?_; repeat (first | with_reducible assumption | with_reducible exact Below.refl _ _ | with_reducible refine Below.drew ?_ | with_reducible refine below_drewN ?_ _ | with_reducible refine bw_alloc ?_ _ | (with_reducible refine bw_set ?_ ?_ _; focus (dsimp only; omega)) | (with_reducible apply bw_behind; with_reducible assumption))); rintro e wd ⟨rfl, hbd⟩; have hrd := below_reads hbd; have hhd := below_holds hbd; obtain ⟨md, hsd⟩ := below_grew hbd) | (go_at_call 66; (with_reducible refine (CM.out _).mono ?_); rintro e we ⟨rfl, hbe⟩; have hre := below_reads hbe; have hhe := below_holds hbe; obtain ⟨me, hse⟩ := below_grew hbe))
    all_goals
      go_wp2_with fail
      go_meet
      refine ⟨rfl, ?_, ?_, ?_, ?_⟩
    all_goals (first | with_reducible assumption | ((repeat (first | with_reducible assumption | with_reducible refine c_dr _ ?_ | with_reducible refine c_d1 ?_ | with_reducible refine c_al _ ?_ | (with_reducible refine c_set ?_ ?_; focus (dsimp only; omega)) | (with_reducible apply c_be; with_reducible assumption))); done) | ((repeat (first | with_reducible assumption | with_reducible refine o_dr _ ?_ | with_reducible refine o_d1 ?_ | with_reducible refine o_set ?_ | (with_reducible refine o_new ?_ ?_; (focus (simp)); (focus (simp))) | with_reducible refine o_al _ ?_ | (with_reducible apply o_be; with_reducible assumption))); done) | ((repeat (first | with_reducible assumption | with_reducible exact Below.refl _ _ | with_reducible refine Below.drew ?_ | with_reducible refine below_drewN ?_ _ | with_reducible refine bw_alloc ?_ _ | (with_reducible refine bw_set ?_ ?_ _; focus (dsimp only; omega)) | (with_reducible apply bw_behind; with_reducible assumption))); done) | (refine hT.behind ?_; (repeat (first | with_reducible assumption | with_reducible exact Below.refl _ _ | with_reducible refine Below.drew ?_ | with_reducible refine below_drewN ?_ _ | with_reducible refine bw_alloc ?_ _ | (with_reducible refine bw_set ?_ ?_ _; focus (dsimp only; omega)) | (with_reducible apply bw_behind; with_reducible assumption))); done) | (simp [go_sem, *]; omega) | (simp (maxDischargeDepth := 4) [go_sem, *]; done))
  case rest =>
    obtain ⟨rfl, c0, c1, c2, hB⟩ := hcut
    go_wp2
    refine bodyPost_ret (v := .tuple #[.agg #[.bool false, .int .u64 R, .int .u64 A], .bool true]) (by simp (maxDischargeDepth := 4) [results, Tryd.results46, go_sem, *]) rfl ?_
    exact ⟨rfl, hB⟩
end Go.Proofs.YtbncoiejbclpjaaDoor
