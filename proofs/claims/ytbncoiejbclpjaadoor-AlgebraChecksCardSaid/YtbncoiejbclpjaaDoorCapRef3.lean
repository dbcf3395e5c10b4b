/-
  What the document's own answers of layer 5 (package mintmarkref05) are: Make, Root.
-/
import Derived.Test.YtbncoiejbclpjaaDoorMakeMath
import Derived.Test.YtbncoiejbclpjaaDoorCapRef
import Derived.Test.YtbncoiejbclpjaaDoorRefEnc03
namespace Go.Proofs.YtbncoiejbclpjaaDoor
open Go.RowKit Words FieldMath BoundsMath

theorem renc_any (b t fb ft e : Nat) (ex : Bool) (h : EncRel b t fb ft e ex) (w : World) :
    Calls Tryd.prog 83 #[.agg #[.int .u64 (b : Int), .int .u64 (t : Int)]] w (Makes (.tuple #[.agg #[.int .u64 (fb : Int), .int .u64 (ft : Int), .int .u64 (e : Int)], .bool ex]) w) := by
  rcases h with ⟨h1, h2, hk, rfl, rfl, rfl⟩ | ⟨h1, rfl, rfl, rfl, rfl⟩
  · exact rencode_any _ _ e h1 h2 hk w
  · exact rencode_not _ _ (by omega) w
theorem ne_rspan (D U B T : Int) : ∀ W, (binOp .neq 57 (.agg #[.int .u64 D, .int .u64 U]) (.agg #[.int .u64 B, .int .u64 T])).run Tryd.prog W = .ok (.bool (!decide (D = B ∧ U = T))) W := by
  intro W
  by_cases h1 : D = B <;> by_cases h2 : U = T <;> simp [go_sem, h1, h2]
structure RMMet (EX OV NE : Bool) (B T A FB FT E D U : Int) : Prop where
  enc : ∀ W, Calls Tryd.prog 83 #[.agg #[.int .u64 B, .int .u64 T]] W (Makes (.tuple #[.agg #[.int .u64 FB, .int .u64 FT, .int .u64 E], .bool EX]) W)
  dec : ∀ W, Calls Tryd.prog 76 #[.agg #[.int .u64 FB, .int .u64 FT, .int .u64 E], .int .u64 A] W (Makes (.tuple #[.agg #[.int .u64 D, .int .u64 U], .bool OV]) W)
  ne : ∀ W, (binOp .neq 57 (.agg #[.int .u64 D, .int .u64 U]) (.agg #[.int .u64 B, .int .u64 T])).run Tryd.prog W = .ok (.bool NE) W
structure RMSum (P K FB FT E S1 S2 S3 X1 X2 S4 X3 R : Int) : Prop where
  s1 : IntKind.u64.wrap (FT * 16384) = S1
  x1 : IntKind.u64.wrap (FB + S1) = X1
  s2 : IntKind.u64.wrap (E * 67108864) = S2
  x2 : IntKind.u64.wrap (X1 + S2) = X2
  s3 : IntKind.u64.wrap (P * 4294967296) = S3
  x3 : IntKind.u64.wrap (X2 + S3) = X3
  s4 : IntKind.u64.wrap (K * 281474976710656) = S4
  x4 : IntKind.u64.wrap (X3 + S4) = R
theorem rm_sum (p k fb ft e : Nat) (h1 : fb < 16384) (h2 : ft < 4096) (h3 : e < 64) (h4 : p ≤ 511) (h5 : k ≤ 4095) : ∃ S1 S2 S3 X1 X2 S4 X3, RMSum (p : Int) (k : Int) (fb : Int) (ft : Int) (e : Int) S1 S2 S3 X1 X2 S4 X3 ((metaN (wordN fb ft e) p k : Nat) : Int) := by
  have hw := fun n : Int => IntKind.wrap_u64 n
  refine ⟨((ft * 16384 : Nat) : Int), ((e * 67108864 : Nat) : Int), ((p * 4294967296 : Nat) : Int), ((fb + ft * 16384 : Nat) : Int), ((fb + ft * 16384 + e * 67108864 : Nat) : Int), ((k * 281474976710656 : Nat) : Int), ((fb + ft * 16384 + e * 67108864 + p * 4294967296 : Nat) : Int), ⟨?_, ?_, ?_, ?_, ?_, ?_, ?_, ?_⟩⟩
  all_goals (try unfold metaN wordN); rw [hw]; omega

set_option maxHeartbeats 4000000 in
theorem rmake_no1 (OV NE : Bool) (B T A FB FT E D U P K : Int) (hm : RMMet false OV NE B T A FB FT E D U)  (w : World) :
    Calls Tryd.prog 48 #[.agg #[.int .u64 B, .int .u64 T, .int .u64 P, .int .u64 K], .int .u64 A] w (Makes (.tuple #[.agg #[.bool false, .int .u64 0, .int .u64 0], .bool false]) w) := by
  have CE := hide hm.enc
  have CD := hide hm.dec
  have NEQ := hm.ne
  clear hm
  have SS := cell_same
  have LB' := ltB_add
  have LS := ltB_self
  have LA' := alloc_reads
  have LH := alloc_holds
  go_enter Tryd.func48, Tryd.ntmps48
  go_wp2_with (first | (go_at_call 83; (with_reducible first | refine (CE.out _).mono ?_); rintro e wa ⟨rfl, hba⟩; have hra := below_reads hba; have hha := below_holds hba; obtain ⟨ma, hsa⟩ := below_grew hba) | (go_at_call 76; (with_reducible first | refine (CD.out _).mono ?_); rintro e wb ⟨rfl, hbb⟩; have hrb := below_reads hbb; have hhb := below_holds hbb; obtain ⟨mb, hsb⟩ := below_grew hbb))
  refine bodyPost_ret (v := .tuple #[.agg #[.bool false, .int .u64 0, .int .u64 0], .bool false]) (by simp (maxDischargeDepth := 4) [results, Tryd.results48, go_sem, *]) rfl ?_
  refine ⟨rfl, ?_⟩
  repeat (first | with_reducible assumption | with_reducible exact Below.refl _ _ | with_reducible refine Below.drew ?_ | with_reducible refine below_drewN ?_ _ | with_reducible refine bw_alloc ?_ _ | (with_reducible refine bw_set ?_ ?_ _; focus (dsimp only; omega)) | (with_reducible apply bw_behind; with_reducible assumption))

set_option maxHeartbeats 4000000 in
theorem rmake_no2 (OV NE : Bool) (B T A FB FT E D U P K : Int) (hm : RMMet true OV NE B T A FB FT E D U) (hP : 511 < P) (w : World) :
    Calls Tryd.prog 48 #[.agg #[.int .u64 B, .int .u64 T, .int .u64 P, .int .u64 K], .int .u64 A] w (Makes (.tuple #[.agg #[.bool false, .int .u64 0, .int .u64 0], .bool false]) w) := by
  have CE := hide hm.enc
  have CD := hide hm.dec
  have NEQ := hm.ne
  clear hm
  have SS := cell_same
  have LB' := ltB_add
  have LS := ltB_self
  have LA' := alloc_reads
  have LH := alloc_holds
  go_enter Tryd.func48, Tryd.ntmps48
  go_wp2_with (first | (go_at_call 83; (with_reducible first | refine (CE.out _).mono ?_); rintro e wa ⟨rfl, hba⟩; have hra := below_reads hba; have hha := below_holds hba; obtain ⟨ma, hsa⟩ := below_grew hba) | (go_at_call 76; (with_reducible first | refine (CD.out _).mono ?_); rintro e wb ⟨rfl, hbb⟩; have hrb := below_reads hbb; have hhb := below_holds hbb; obtain ⟨mb, hsb⟩ := below_grew hbb))
  refine bodyPost_ret (v := .tuple #[.agg #[.bool false, .int .u64 0, .int .u64 0], .bool false]) (by simp (maxDischargeDepth := 4) [results, Tryd.results48, go_sem, *]) rfl ?_
  refine ⟨rfl, ?_⟩
  repeat (first | with_reducible assumption | with_reducible exact Below.refl _ _ | with_reducible refine Below.drew ?_ | with_reducible refine below_drewN ?_ _ | with_reducible refine bw_alloc ?_ _ | (with_reducible refine bw_set ?_ ?_ _; focus (dsimp only; omega)) | (with_reducible apply bw_behind; with_reducible assumption))

set_option maxHeartbeats 4000000 in
theorem rmake_no3 (OV NE : Bool) (B T A FB FT E D U P K : Int) (hm : RMMet true OV NE B T A FB FT E D U) (hP : ¬ 511 < P) (hK : 4095 < K) (w : World) :
    Calls Tryd.prog 48 #[.agg #[.int .u64 B, .int .u64 T, .int .u64 P, .int .u64 K], .int .u64 A] w (Makes (.tuple #[.agg #[.bool false, .int .u64 0, .int .u64 0], .bool false]) w) := by
  have CE := hide hm.enc
  have CD := hide hm.dec
  have NEQ := hm.ne
  clear hm
  have SS := cell_same
  have LB' := ltB_add
  have LS := ltB_self
  have LA' := alloc_reads
  have LH := alloc_holds
  go_enter Tryd.func48, Tryd.ntmps48
  go_wp2_with (first | (go_at_call 83; (with_reducible first | refine (CE.out _).mono ?_); rintro e wa ⟨rfl, hba⟩; have hra := below_reads hba; have hha := below_holds hba; obtain ⟨ma, hsa⟩ := below_grew hba) | (go_at_call 76; (with_reducible first | refine (CD.out _).mono ?_); rintro e wb ⟨rfl, hbb⟩; have hrb := below_reads hbb; have hhb := below_holds hbb; obtain ⟨mb, hsb⟩ := below_grew hbb))
  refine bodyPost_ret (v := .tuple #[.agg #[.bool false, .int .u64 0, .int .u64 0], .bool false]) (by simp (maxDischargeDepth := 4) [results, Tryd.results48, go_sem, *]) rfl ?_
  refine ⟨rfl, ?_⟩
  repeat (first | with_reducible assumption | with_reducible exact Below.refl _ _ | with_reducible refine Below.drew ?_ | with_reducible refine below_drewN ?_ _ | with_reducible refine bw_alloc ?_ _ | (with_reducible refine bw_set ?_ ?_ _; focus (dsimp only; omega)) | (with_reducible apply bw_behind; with_reducible assumption))

set_option maxHeartbeats 4000000 in
theorem rmake_no4 (NE : Bool) (B T A FB FT E D U P K : Int) (hm : RMMet true false NE B T A FB FT E D U) (hP : ¬ 511 < P) (hK : ¬ 4095 < K) (w : World) :
    Calls Tryd.prog 48 #[.agg #[.int .u64 B, .int .u64 T, .int .u64 P, .int .u64 K], .int .u64 A] w (Makes (.tuple #[.agg #[.bool false, .int .u64 0, .int .u64 0], .bool false]) w) := by
  have CE := hide hm.enc
  have CD := hide hm.dec
  have NEQ := hm.ne
  clear hm
  have SS := cell_same
  have LB' := ltB_add
  have LS := ltB_self
  have LA' := alloc_reads
  have LH := alloc_holds
  go_enter Tryd.func48, Tryd.ntmps48
  go_wp2_with (first | (go_at_call 83; (with_reducible first | refine (CE.out _).mono ?_); rintro e wa ⟨rfl, hba⟩; have hra := below_reads hba; have hha := below_holds hba; obtain ⟨ma, hsa⟩ := below_grew hba) | (go_at_call 76; (with_reducible first | refine (CD.out _).mono ?_); rintro e wb ⟨rfl, hbb⟩; have hrb := below_reads hbb; have hhb := below_holds hbb; obtain ⟨mb, hsb⟩ := below_grew hbb))
  refine bodyPost_ret (v := .tuple #[.agg #[.bool false, .int .u64 0, .int .u64 0], .bool false]) (by simp (maxDischargeDepth := 4) [results, Tryd.results48, go_sem, *]) rfl ?_
  refine ⟨rfl, ?_⟩
  repeat (first | with_reducible assumption | with_reducible exact Below.refl _ _ | with_reducible refine Below.drew ?_ | with_reducible refine below_drewN ?_ _ | with_reducible refine bw_alloc ?_ _ | (with_reducible refine bw_set ?_ ?_ _; focus (dsimp only; omega)) | (with_reducible apply bw_behind; with_reducible assumption))

set_option maxHeartbeats 4000000 in
theorem rmake_no5 (B T A FB FT E D U P K : Int) (hm : RMMet true true true B T A FB FT E D U) (hP : ¬ 511 < P) (hK : ¬ 4095 < K) (w : World) :
    Calls Tryd.prog 48 #[.agg #[.int .u64 B, .int .u64 T, .int .u64 P, .int .u64 K], .int .u64 A] w (Makes (.tuple #[.agg #[.bool false, .int .u64 0, .int .u64 0], .bool false]) w) := by
  have CE := hide hm.enc
  have CD := hide hm.dec
  have NEQ := hm.ne
  clear hm
  have SS := cell_same
  have LB' := ltB_add
  have LS := ltB_self
  have LA' := alloc_reads
  have LH := alloc_holds
  go_enter Tryd.func48, Tryd.ntmps48
  go_wp2_with (first | (go_at_call 83; (with_reducible first | refine (CE.out _).mono ?_); rintro e wa ⟨rfl, hba⟩; have hra := below_reads hba; have hha := below_holds hba; obtain ⟨ma, hsa⟩ := below_grew hba) | (go_at_call 76; (with_reducible first | refine (CD.out _).mono ?_); rintro e wb ⟨rfl, hbb⟩; have hrb := below_reads hbb; have hhb := below_holds hbb; obtain ⟨mb, hsb⟩ := below_grew hbb))
  refine bodyPost_ret (v := .tuple #[.agg #[.bool false, .int .u64 0, .int .u64 0], .bool false]) (by simp (maxDischargeDepth := 4) [results, Tryd.results48, go_sem, *]) rfl ?_
  refine ⟨rfl, ?_⟩
  repeat (first | with_reducible assumption | with_reducible exact Below.refl _ _ | with_reducible refine Below.drew ?_ | with_reducible refine below_drewN ?_ _ | with_reducible refine bw_alloc ?_ _ | (with_reducible refine bw_set ?_ ?_ _; focus (dsimp only; omega)) | (with_reducible apply bw_behind; with_reducible assumption))

set_option maxHeartbeats 4000000 in
theorem rmake_yes (B T A FB FT E D U P K S1 S2 S3 X1 X2 S4 X3 R : Int) (hm : RMMet true true false B T A FB FT E D U) (hP : ¬ 511 < P) (hK : ¬ 4095 < K) (hs : RMSum P K FB FT E S1 S2 S3 X1 X2 S4 X3 R) (w : World) :
    Calls Tryd.prog 48 #[.agg #[.int .u64 B, .int .u64 T, .int .u64 P, .int .u64 K], .int .u64 A] w (Makes (.tuple #[.agg #[.bool false, .int .u64 R, .int .u64 A], .bool true]) w) := by
  have CE := hide hm.enc
  have CD := hide hm.dec
  have NEQ := hm.ne
  clear hm
  obtain ⟨g1, g2, g3, g4, g5, g6, g7, g8⟩ := hs
  have SS := cell_same
  have LB' := ltB_add
  have LS := ltB_self
  have LA' := alloc_reads
  have LH := alloc_holds
  go_enter Tryd.func48, Tryd.ntmps48
  go_wp2_with (first | (go_at_call 83; (with_reducible first | refine (CE.out _).mono ?_); rintro e wa ⟨rfl, hba⟩; have hra := below_reads hba; have hha := below_holds hba; obtain ⟨ma, hsa⟩ := below_grew hba) | (go_at_call 76; (with_reducible first | refine (CD.out _).mono ?_); rintro e wb ⟨rfl, hbb⟩; have hrb := below_reads hbb; have hhb := below_holds hbb; obtain ⟨mb, hsb⟩ := below_grew hbb))
  refine bodyPost_ret (v := .tuple #[.agg #[.bool false, .int .u64 R, .int .u64 A], .bool true]) (by simp (maxDischargeDepth := 4) [results, Tryd.results48, go_sem, *]) rfl ?_
  refine ⟨rfl, ?_⟩
  repeat (first | with_reducible assumption | with_reducible exact Below.refl _ _ | with_reducible refine Below.drew ?_ | with_reducible refine below_drewN ?_ _ | with_reducible refine bw_alloc ?_ _ | (with_reducible refine bw_set ?_ ?_ _; focus (dsimp only; omega)) | (with_reducible apply bw_behind; with_reducible assumption))

theorem rmake_any (b t p k a fb ft e : Nat) (ex : Bool) (h : EncRel b t fb ft e ex) (w : World) :
    Calls Tryd.prog 48 #[.agg #[.int .u64 (b : Int), .int .u64 (t : Int), .int .u64 (p : Int), .int .u64 (k : Int)], .int .u64 (a : Int)] w
      (Makes (.tuple #[.agg #[.bool false, .int .u64 ((mkM p k fb ft e (mkO b t p k a fb ft e ex) : Nat) : Int), .int .u64 ((mkA a (mkO b t p k a fb ft e ex) : Nat) : Int)], .bool (mkO b t p k a fb ft e ex)]) w) := by
  obtain ⟨l1, l2, l3⟩ := h.lt
  have H : RMMet ex (dO fb ft e a) (!decide (dB fb ft e a = b ∧ dT fb ft e a = t)) (b : Int) (t : Int) (a : Int) (fb : Int) (ft : Int) (e : Int) ((dB fb ft e a : Nat) : Int) ((dT fb ft e a : Nat) : Int) :=
    ⟨fun W => renc_any b t fb ft e ex h W, fun W => rdec_any fb ft e a W, fun W => by
        rw [show decide (dB fb ft e a = b ∧ dT fb ft e a = t) = decide (((dB fb ft e a : Nat) : Int) = (b : Int) ∧ ((dT fb ft e a : Nat) : Int) = (t : Int)) from decide_eq_decide.mpr (by omega)]
        exact ne_rspan _ _ _ _ W⟩
  unfold mkM mkA mkO
  cases ex with
  | false => exact rmake_no1 _ _ _ _ _ _ _ _ _ _ _ _ H w
  | true =>
    by_cases h1 : p ≤ 511
    · by_cases h2 : k ≤ 4095
      · rw [decide_eq_true h1, decide_eq_true h2]
        cases h3 : dO fb ft e a with
        | false =>
          rw [h3] at H
          exact rmake_no4 _ _ _ _ _ _ _ _ _ _ _ H (by omega) (by omega) w
        | true =>
          rw [h3] at H
          cases h4 : decide (dB fb ft e a = b ∧ dT fb ft e a = t) with
          | false =>
            rw [h4] at H
            exact rmake_no5 _ _ _ _ _ _ _ _ _ _ H (by omega) (by omega) w
          | true =>
            rw [h4] at H
            obtain ⟨S1, S2, S3, X1, X2, S4, X3, hs⟩ := rm_sum p k fb ft e l1 l2 (by omega) h1 h2
            exact rmake_yes _ _ _ _ _ _ _ _ _ _ S1 S2 S3 X1 X2 S4 X3 _ H (by omega) (by omega) hs w
      · rw [decide_eq_true h1, decide_eq_false h2]
        exact rmake_no3 _ _ _ _ _ _ _ _ _ _ _ _ H (by omega) (by omega) w
    · rw [decide_eq_false h1]
      exact rmake_no2 _ _ _ _ _ _ _ _ _ _ _ _ H (by omega) w

end Go.Proofs.YtbncoiejbclpjaaDoor