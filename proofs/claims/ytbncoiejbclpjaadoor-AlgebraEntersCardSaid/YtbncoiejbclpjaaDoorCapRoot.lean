/-
  What capab.Make answers for every view; Root, Null.
-/
import Derived.Test.YtbncoiejbclpjaaDoorCapMake
namespace Go.Proofs.YtbncoiejbclpjaaDoor
open Go.RowKit Words FieldMath BoundsMath

theorem ne_span (D U B T : Int) : ∀ W, (binOp .neq 44 (.agg #[.int .u64 D, .int .u64 U]) (.agg #[.int .u64 B, .int .u64 T])).run Tryd.prog W = .ok (.bool (!decide (D = B ∧ U = T))) W := by
  intro W
  by_cases h1 : D = B <;> by_cases h2 : U = T <;> simp [go_sem, h1, h2]
theorem make_any (b t : BitVec 64) (p k a fb ft e : Nat) (ex : Bool) (hp : p < 18446744073709551616) (hk : k < 18446744073709551616) (h : EncRel b.toNat t.toNat fb ft e ex) (w : World) (hT : Tab w) :
    Calls Tryd.prog 46 #[.agg #[.int .u64 (b.toNat : Int), .int .u64 (t.toNat : Int), .int .u64 (p : Int), .int .u64 (k : Int)], .int .u64 (a : Int)] w
      (Makes (.tuple #[.agg #[.bool false, .int .u64 ((mkM p k fb ft e (mkO b.toNat t.toNat p k a fb ft e ex) : Nat) : Int), .int .u64 ((mkA a (mkO b.toNat t.toNat p k a fb ft e ex) : Nat) : Int)], .bool (mkO b.toNat t.toNat p k a fb ft e ex)]) w) := by
  obtain ⟨l1, l2, l3⟩ := h.lt
  have hw := word_lt fb ft e
  have H : MMet ex (dO fb ft e a) (!decide (dB fb ft e a = b.toNat ∧ dT fb ft e a = t.toNat)) (b.toNat : Int) (t.toNat : Int) (p : Int) (k : Int) (a : Int) (fb : Int) (ft : Int) (e : Int) ((dB fb ft e a : Nat) : Int) ((dT fb ft e a : Nat) : Int) ((wordN fb ft e : Nat) : Int) ((metaN (wordN fb ft e) p k : Nat) : Int) :=
    ⟨fun W hW => enc_any b t fb ft e ex h W hW, fun W hW => dec_any fb ft e a (by omega) (by omega) (by omega) W hW, fun W hW => word_any fb ft e (by omega) (by omega) (by omega) W hW,
      fun W => meta_any _ p k (by omega) hp hk W, fun W => by
        rw [show decide (dB fb ft e a = b.toNat ∧ dT fb ft e a = t.toNat) = decide (((dB fb ft e a : Nat) : Int) = (b.toNat : Int) ∧ ((dT fb ft e a : Nat) : Int) = (t.toNat : Int)) from decide_eq_decide.mpr (by omega)]
        exact ne_span _ _ _ _ W⟩
  unfold mkM mkA mkO
  cases ex with
  | false => exact make_no1 _ _ _ _ _ _ _ _ _ _ _ _ _ _ H w hT
  | true =>
    by_cases h1 : p ≤ 511
    · by_cases h2 : k ≤ 4095
      · rw [decide_eq_true h1, decide_eq_true h2]
        cases h3 : dO fb ft e a with
        | false =>
          rw [h3] at H
          exact make_no4 _ _ _ _ _ _ _ _ _ _ _ _ _ H (by omega) (by omega) w hT
        | true =>
          rw [h3] at H
          cases h4 : decide (dB fb ft e a = b.toNat ∧ dT fb ft e a = t.toNat) with
          | false =>
            rw [h4] at H
            exact make_no5 _ _ _ _ _ _ _ _ _ _ _ _ H (by omega) (by omega) w hT
          | true =>
            rw [h4] at H
            exact make_yes _ _ _ _ _ _ _ _ _ _ _ _ H (by omega) (by omega) w hT
      · rw [decide_eq_true h1, decide_eq_false h2]
        exact make_no3 _ _ _ _ _ _ _ _ _ _ _ _ _ _ H (by omega) (by omega) w hT
    · rw [decide_eq_false h1]
      exact make_no2 _ _ _ _ _ _ _ _ _ _ _ _ _ _ H (by omega) w hT

set_option maxHeartbeats 1000000 in
theorem root_let (B T P M A : Int) (O : Bool) (c1 : ∀ W, Tab W → Calls Tryd.prog 46 #[.agg #[.int .u64 B, .int .u64 T, .int .u64 P, .int .u64 0], .int .u64 B] W (Makes (.tuple #[.agg #[.bool false, .int .u64 M, .int .u64 A], .bool O]) W)) (w : World) (hT : Tab w) :
    Calls Tryd.prog 51 #[.agg #[.int .u64 B, .int .u64 T], .int .u64 P] w (Makes (.tuple #[.agg #[.bool O, .int .u64 M, .int .u64 A], .bool O]) w) := by
  have C1 := hide c1
  clear c1
  have SS := cell_same
  have LB' := ltB_add
  have LS := ltB_self
  have LA' := alloc_reads
  have LH := alloc_holds
  go_enter Tryd.func51, Tryd.ntmps51
  go_wp2_with (first | (go_at_call 46; (with_reducible first | refine (C1.out _ ?_).mono ?_); (refine hT.behind ?_; repeat (first | with_reducible assumption | with_reducible exact Below.refl _ _ | with_reducible refine Below.drew ?_ | with_reducible refine below_drewN ?_ _ | with_reducible refine bw_alloc ?_ _ | (with_reducible refine bw_set ?_ ?_ _; focus (dsimp only; omega)) | (with_reducible apply bw_behind; with_reducible assumption))); rintro e wa ⟨rfl, hba⟩; have hra := below_reads hba; have hha := below_holds hba; obtain ⟨ma, hsa⟩ := below_grew hba))
  refine bodyPost_ret (v := .tuple #[.agg #[.bool O, .int .u64 M, .int .u64 A], .bool O]) (by simp (maxDischargeDepth := 4) [results, Tryd.results51, go_sem, *]) rfl ?_
  refine ⟨rfl, ?_⟩
  repeat (first | with_reducible assumption | with_reducible exact Below.refl _ _ | with_reducible refine Below.drew ?_ | with_reducible refine below_drewN ?_ _ | with_reducible refine bw_alloc ?_ _ | (with_reducible refine bw_set ?_ ?_ _; focus (dsimp only; omega)) | (with_reducible apply bw_behind; with_reducible assumption))

theorem root_any (b t : BitVec 64) (p fb ft e : Nat) (ex : Bool) (hp : p < 18446744073709551616) (h : EncRel b.toNat t.toNat fb ft e ex) (w : World) (hT : Tab w) :
    Calls Tryd.prog 51 #[.agg #[.int .u64 (b.toNat : Int), .int .u64 (t.toNat : Int)], .int .u64 (p : Int)] w
      (Makes (.tuple #[.agg #[.bool (mkO b.toNat t.toNat p 0 b.toNat fb ft e ex), .int .u64 ((mkM p 0 fb ft e (mkO b.toNat t.toNat p 0 b.toNat fb ft e ex) : Nat) : Int), .int .u64 ((mkA b.toNat (mkO b.toNat t.toNat p 0 b.toNat fb ft e ex) : Nat) : Int)], .bool (mkO b.toNat t.toNat p 0 b.toNat fb ft e ex)]) w) :=
  root_let _ _ _ _ _ _ (fun W hW => make_any b t p 0 b.toNat fb ft e ex hp (by omega) h W hW) w hT

/-- The plain case of a known span that has a root. -/
theorem kept_small : Kept 0 16 0 := ⟨by omega, by unfold keeps; rw [if_pos rfl]; decide, fun k hk => by omega⟩
theorem kept_all : Kept 0 281474976710656 37 := by
  refine ⟨by omega, by unfold keeps; rw [if_neg (by omega)]; decide, fun k hk hp => ?_⟩
  have h36 : ∀ j, j < 37 → ¬ keeps 0 281474976710656 j := by
    have : ((List.range 37).all fun j => decide (¬ (if j = 0 then steps 0 281474976710656 0 < 4096 else 4096 ≤ steps 0 281474976710656 (j - 1) ∧ steps 0 281474976710656 (j - 1) < 8192))) = true := by decide +kernel
    intro j hj
    have := List.all_eq_true.1 this j (List.mem_range.2 hj)
    unfold keeps; exact of_decide_eq_true this
  exact h36 k hk hp
theorem enc_small : EncRel 0 16 0 16 0 true := .inl ⟨by omega, by omega, kept_small, by decide, by decide, by decide⟩
theorem enc_all : EncRel 0 281474976710656 0 0 37 true := .inl ⟨by omega, by omega, kept_all, by decide, by decide, by decide⟩
theorem root_one (w : World) (hT : Tab w) : Calls Tryd.prog 51 #[.agg #[.int .u64 0, .int .u64 16], .int .u64 3] w (Makes (.tuple #[.agg #[.bool true, .int .u64 12885164032, .int .u64 0], .bool true]) w) := by
  have h := root_any 0#64 16#64 3 0 16 0 true (by omega) enc_small w hT
  have e : mkO (0#64).toNat (16#64).toNat 3 0 (0#64).toNat 0 16 0 true = true := by decide +kernel
  rw [e] at h
  exact h
theorem root_all (w : World) (hT : Tab w) : Calls Tryd.prog 51 #[.agg #[.int .u64 0, .int .u64 281474976710656], .int .u64 511] w (Makes (.tuple #[.agg #[.bool true, .int .u64 ((metaN (wordN 0 0 37) 511 0 : Nat) : Int), .int .u64 0], .bool true]) w) := by
  have h := root_any 0#64 281474976710656#64 511 0 0 37 true (by omega) enc_all w hT
  have e : mkO (0#64).toNat (281474976710656#64).toNat 511 0 (0#64).toNat 0 0 37 true = true := by decide +kernel
  rw [e] at h
  exact h

end Go.Proofs.YtbncoiejbclpjaaDoor