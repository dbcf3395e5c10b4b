/-
  BoundsKeeps holds: for every s the law returns true and turns nothing that was there, where the table of places holds what the program's text lays.
-/
import Derived.Test.YtdffacghdnaniaaDoorTabLaid03
import Derived.Test.YtdffacghdnaniaaDoorNear03
import Derived.Test.YtdffacghdnaniaaDoorRefEnc03
namespace Go.Proofs.YtdffacghdnaniaaDoor.BoundsKeeps
open Go.RowKit Words FieldMath BoundsMath

structure Met (B T FB FT E D U M X D0 F0 F1 E2 : Int) (O OK OK2 O2 : Bool) : Prop where
  enc : ∀ W, Tab W → Calls Tryd.prog 9 #[.agg #[.int .u64 B, .int .u64 T]] W (Makes (.tuple #[.agg #[.int .u64 FB, .int .u64 FT, .int .u64 E], .bool O]) W)
  renc : ∀ W, Calls Tryd.prog 10 #[.agg #[.int .u64 B, .int .u64 T]] W (Makes (.tuple #[.agg #[.int .u64 FB, .int .u64 FT, .int .u64 E], .bool O]) W)
  rnd : ∀ W, Calls Tryd.prog 11 #[.agg #[.int .u64 B, .int .u64 T]] W (Makes (.tuple #[.agg #[.int .u64 D, .int .u64 U], .bool OK]) W)
  rrnd : ∀ W, Calls Tryd.prog 12 #[.agg #[.int .u64 B, .int .u64 T]] W (Makes (.tuple #[.agg #[.int .u64 D, .int .u64 U], .bool OK]) W)
  len : ∀ W, Calls Tryd.prog 13 #[.int .u64 T] W (Makes (.tuple #[.int .u64 M, .bool OK2]) W)
  ali : ∀ W, Calls Tryd.prog 14 #[.int .u64 T] W (Makes (.tuple #[.int .i64 X, .bool OK2]) W)
  rrnd2 : ∀ W, Calls Tryd.prog 12 #[.agg #[.int .u64 0, .int .u64 T]] W (Makes (.tuple #[.agg #[.int .u64 D0, .int .u64 M], .bool OK2]) W)
  renc2 : ∀ W, Calls Tryd.prog 10 #[.agg #[.int .u64 0, .int .u64 T]] W (Makes (.tuple #[.agg #[.int .u64 F0, .int .u64 F1, .int .u64 E2], .bool O2]) W)
  len3 : ∀ W, Calls Tryd.prog 13 #[.int .u64 10001] W (Makes (.tuple #[.int .u64 10002, .bool true]) W)
  e0 : 0 ≤ E2
  e37 : E2 ≤ 37
  x0 : E2 = 0 → X = 0
  x1 : E2 ≠ 0 → E2 - 1 = X

theorem kept_10001 : Kept 0 10001 2 := by
  refine ⟨by omega, ?_, fun k hk => ?_⟩
  · unfold keeps; rw [if_neg (by omega)]; decide
  · have : k = 0 ∨ k = 1 := by omega
    rcases this with rfl | rfl
    · unfold keeps; rw [if_pos rfl]; decide
    · unfold keeps; rw [if_neg (by omega)]; decide
theorem len3 (W : World) : Calls Tryd.prog 13 #[.int .u64 10001] W (Makes (.tuple #[.int .u64 10002, .bool true]) W) := by
  have := length_of _ _ _ _ _ (fun W => extended_any 0 10001 2 (Nat.zero_le _) (by omega) kept_10001 W) W
  rw [show up 10001 (2 - 1) = 10002 by decide] at this
  exact this
/-- The half that speaks of the span. -/
theorem span_met (b t : BitVec 64) : ∃ FB FT E D U O OK, (∀ W, Tab W → Calls Tryd.prog 9 #[.agg #[.int .u64 (b.toNat : Int), .int .u64 (t.toNat : Int)]] W (Makes (.tuple #[.agg #[.int .u64 FB, .int .u64 FT, .int .u64 E], .bool O]) W)) ∧
    (∀ W, Calls Tryd.prog 10 #[.agg #[.int .u64 (b.toNat : Int), .int .u64 (t.toNat : Int)]] W (Makes (.tuple #[.agg #[.int .u64 FB, .int .u64 FT, .int .u64 E], .bool O]) W)) ∧
    (∀ W, Calls Tryd.prog 11 #[.agg #[.int .u64 (b.toNat : Int), .int .u64 (t.toNat : Int)]] W (Makes (.tuple #[.agg #[.int .u64 D, .int .u64 U], .bool OK]) W)) ∧
    (∀ W, Calls Tryd.prog 12 #[.agg #[.int .u64 (b.toNat : Int), .int .u64 (t.toNat : Int)]] W (Makes (.tuple #[.agg #[.int .u64 D, .int .u64 U], .bool OK]) W)) := by
  by_cases h : b.toNat ≤ t.toNat ∧ t.toNat ≤ 281474976710656
  · obtain ⟨e, hk⟩ := ex_kept (b := b.toNat) (t := t.toNat) (by have : (2 : Nat) ^ 48 = 281474976710656 := by decide
                                                                omega)
    exact ⟨_, _, _, _, _, _, _, fun W hW => encode_any _ _ e h.1 h.2 hk W hW, fun W => rencode_any _ _ e h.1 h.2 hk W,
      fun W => rounded_of _ _ _ _ _ _ (fun W => extended_any _ _ e h.1 h.2 hk W) W, fun W => rrounded_any _ _ e h.1 h.2 hk W⟩
  · exact ⟨0, 0, 0, 0, 0, false, false, fun W _ => encode_not b t h W, fun W => rencode_not _ _ (by omega) W,
      fun W => rounded_of _ _ _ _ _ _ (fun W => extended_not b t h W) W, fun W => rrounded_not _ _ (by omega) W⟩
theorem met (b t : BitVec 64) : ∃ FB FT E D U M X D0 F0 F1 E2 O OK OK2 O2, Met b.toNat t.toNat FB FT E D U M X D0 F0 F1 E2 O OK OK2 O2 := by
  obtain ⟨FB, FT, E, D, U, O, OK, h1, h2, h3, h4⟩ := span_met b t
  by_cases h : t.toNat ≤ 281474976710656
  · obtain ⟨e, hk⟩ := ex_kept (b := 0) (t := t.toNat) (by have : (2 : Nat) ^ 48 = 281474976710656 := by decide
                                                          omega)
    have he := hk.le
    exact ⟨FB, FT, E, D, U, _, _, _, _, _, _, O, OK, _, _, ⟨h1, h2, h3, h4, fun W => length_of _ _ _ _ _ (fun W => extended_any 0 _ e (Nat.zero_le _) h hk W) W,
      fun W => align_of _ _ _ e hk.le _ (fun W => extended_any 0 _ e (Nat.zero_le _) h hk W) W, fun W => rrounded_any 0 _ e (Nat.zero_le _) h hk W, fun W => rencode_any 0 _ e (Nat.zero_le _) h hk W, len3,
      by omega, by omega, fun h0 => by omega, fun h0 => by omega⟩⟩
  · have hn : ¬ ((0#64).toNat ≤ t.toNat ∧ t.toNat ≤ 281474976710656) := fun h2 => h h2.2
    have ex := fun W => extended_not 0#64 t hn W
    have ex2 : ∀ W, Calls Tryd.prog 21 #[.agg #[.int .u64 0, .int .u64 (t.toNat : Int)]] W (Makes (.tuple #[.agg #[.int .u64 0, .int .u64 0], .int .u64 ((0 : Nat) : Int), .bool false]) W) := ex
    exact ⟨FB, FT, E, D, U, 0, ((0 - 1 : Nat) : Int), 0, 0, 0, 0, O, OK, false, false, ⟨h1, h2, h3, h4, fun W => length_of _ _ _ _ _ ex2 W,
      fun W => align_of _ _ _ 0 (by omega) _ ex2 W, fun W => rrounded_not 0 _ (by omega) W, fun W => rencode_not 0 _ (by omega) W, len3,
      by omega, by omega, fun h0 => by omega, fun h0 => by omega⟩⟩

set_option maxHeartbeats 4000000 in
theorem walk (b t : BitVec 64) (w : World) (hT : Tab w) :
    Calls Tryd.prog 3 #[.agg #[.int .u64 (b.toNat : Int), .int .u64 (t.toNat : Int)]] w fun e w' => e = .returned (.bool true) ∧ Below w.heap.size w w' := by
  obtain ⟨FB, FT, E, D, U, M, X, D0, F0, F1, E2, O, OK, OK2, O2, hm⟩ := met b t
  generalize (b.toNat : Int) = B at *
  generalize (t.toNat : Int) = T at *
  have CM := hide hm
  have g1 := hm.e0
  have g2 := hm.e37
  by_cases h0 : E2 = 0
  · have g3 := hm.x0 h0
    subst h0 g3
    clear hm
    have SS := cell_same
    have LB := ltB_add
    have LS := ltB_self
    have LA := alloc_reads
    have LH := alloc_holds
    go_enter Tryd.func3, Tryd.ntmps3
    go_wp2_with (first | (go_at_call 9; (with_reducible first | refine (CM.out.enc _ ?_).mono ?_); (refine hT.behind ?_; repeat (first | with_reducible assumption | with_reducible exact Below.refl _ _ | with_reducible refine Below.drew ?_ | with_reducible refine below_drewN ?_ _ | with_reducible refine bw_alloc ?_ _ | (with_reducible refine bw_set ?_ ?_ _; focus (dsimp only; omega)) | (with_reducible apply bw_behind; with_reducible assumption))); rintro e w1 ⟨rfl, hb1⟩; have hr1 := below_reads hb1; have hh1 := below_holds hb1; obtain ⟨m1, hs1⟩ := below_grew hb1) | (go_at_call 10; (with_reducible first | refine (CM.out.renc _).mono ?_ | refine (CM.out.renc2 _).mono ?_); rintro e w1 ⟨rfl, hb1⟩; have hr1 := below_reads hb1; have hh1 := below_holds hb1; obtain ⟨m1, hs1⟩ := below_grew hb1) | (go_at_call 11; (with_reducible first | refine (CM.out.rnd _).mono ?_); rintro e w1 ⟨rfl, hb1⟩; have hr1 := below_reads hb1; have hh1 := below_holds hb1; obtain ⟨m1, hs1⟩ := below_grew hb1) | (go_at_call 12; (with_reducible first | refine (CM.out.rrnd _).mono ?_ | refine (CM.out.rrnd2 _).mono ?_); rintro e w1 ⟨rfl, hb1⟩; have hr1 := below_reads hb1; have hh1 := below_holds hb1; obtain ⟨m1, hs1⟩ := below_grew hb1) | (go_at_call 13; (with_reducible first | refine (CM.out.len _).mono ?_ | refine (CM.out.len3 _).mono ?_); rintro e w1 ⟨rfl, hb1⟩; have hr1 := below_reads hb1; have hh1 := below_holds hb1; obtain ⟨m1, hs1⟩ := below_grew hb1) | (go_at_call 14; (with_reducible first | refine (CM.out.ali _).mono ?_); rintro e w1 ⟨rfl, hb1⟩; have hr1 := below_reads hb1; have hh1 := below_holds hb1; obtain ⟨m1, hs1⟩ := below_grew hb1))
    go_ret
    refine ⟨rfl, ?_⟩
    repeat (first | with_reducible assumption | with_reducible exact Below.refl _ _ | with_reducible refine Below.drew ?_ | with_reducible refine below_drewN ?_ _ | with_reducible refine bw_alloc ?_ _ | (with_reducible refine bw_set ?_ ?_ _; focus (dsimp only; omega)) | (with_reducible apply bw_behind; with_reducible assumption))
  · have g3 := hm.x1 h0
    clear hm
    have SS := cell_same
    have LB := ltB_add
    have LS := ltB_self
    have LA := alloc_reads
    have LH := alloc_holds
    go_enter Tryd.func3, Tryd.ntmps3
    go_wp2_with (first | (go_at_call 9; (with_reducible first | refine (CM.out.enc _ ?_).mono ?_); (refine hT.behind ?_; repeat (first | with_reducible assumption | with_reducible exact Below.refl _ _ | with_reducible refine Below.drew ?_ | with_reducible refine below_drewN ?_ _ | with_reducible refine bw_alloc ?_ _ | (with_reducible refine bw_set ?_ ?_ _; focus (dsimp only; omega)) | (with_reducible apply bw_behind; with_reducible assumption))); rintro e w1 ⟨rfl, hb1⟩; have hr1 := below_reads hb1; have hh1 := below_holds hb1; obtain ⟨m1, hs1⟩ := below_grew hb1) | (go_at_call 10; (with_reducible first | refine (CM.out.renc _).mono ?_ | refine (CM.out.renc2 _).mono ?_); rintro e w1 ⟨rfl, hb1⟩; have hr1 := below_reads hb1; have hh1 := below_holds hb1; obtain ⟨m1, hs1⟩ := below_grew hb1) | (go_at_call 11; (with_reducible first | refine (CM.out.rnd _).mono ?_); rintro e w1 ⟨rfl, hb1⟩; have hr1 := below_reads hb1; have hh1 := below_holds hb1; obtain ⟨m1, hs1⟩ := below_grew hb1) | (go_at_call 12; (with_reducible first | refine (CM.out.rrnd _).mono ?_ | refine (CM.out.rrnd2 _).mono ?_); rintro e w1 ⟨rfl, hb1⟩; have hr1 := below_reads hb1; have hh1 := below_holds hb1; obtain ⟨m1, hs1⟩ := below_grew hb1) | (go_at_call 13; (with_reducible first | refine (CM.out.len _).mono ?_ | refine (CM.out.len3 _).mono ?_); rintro e w1 ⟨rfl, hb1⟩; have hr1 := below_reads hb1; have hh1 := below_holds hb1; obtain ⟨m1, hs1⟩ := below_grew hb1) | (go_at_call 14; (with_reducible first | refine (CM.out.ali _).mono ?_); rintro e w1 ⟨rfl, hb1⟩; have hr1 := below_reads hb1; have hh1 := below_holds hb1; obtain ⟨m1, hs1⟩ := below_grew hb1))
    go_ret
    refine ⟨rfl, ?_⟩
    repeat (first | with_reducible assumption | with_reducible exact Below.refl _ _ | with_reducible refine Below.drew ?_ | with_reducible refine below_drewN ?_ _ | with_reducible refine bw_alloc ?_ _ | (with_reducible refine bw_set ?_ ?_ _; focus (dsimp only; omega)) | (with_reducible apply bw_behind; with_reducible assumption))

open Go.ChangeShapes Go.WideShapes Go.ChangeAt
theorem walks : Frame.WalksLaid [("mintmark/bounds.places", Rows.laid_mintmark_bounds_places)] 3 Tryd.f3 := by
  intro H enc W base args ds ps hL hval hA
  rw [Tryd.params3] at hA hval
  obtain ⟨v0, d0, hargs, rfl, h0⟩ := trodAll_one hA
  obtain rfl : args = #[v0] := by cases args; simp_all
  obtain ⟨cs0, rfl, hf0⟩ := Frame.open_struct (F := 4) (ks := [.inl .u64, .inl .u64]) Tryd.underlying24 (by kernel_rfl) (hval 0 24 v0 rfl rfl) h0
  match cs0, hf0 with
  | [_, _], ⟨⟨z0_0, rfl, wz0_0⟩, ⟨z0_1, rfl, wz0_1⟩, _⟩ =>
  obtain ⟨Z0_0, rfl⟩ := Frame.wf_u64 wz0_0
  obtain ⟨Z0_1, rfl⟩ := Frame.wf_u64 wz0_1
  exact walk Z0_0 Z0_1 W (tab_of_laid hL)
set_option maxRecDepth 100000 in
theorem said : Rows.BoundsKeepsSaid :=
  OpenClaim.holds_of_wide 3 Tryd.f3 rfl rfl rfl rfl rfl rfl rfl ⟨rfl, rfl, rfl, rfl, rfl⟩ rfl rfl rfl rfl rfl (by kernel_rfl) Tryd.func3 (by kernel_rfl)
    (of_decide_eq_true (by kernel_rfl)) (by unfold Func.isWrapper; first | (rw [if_pos (by decide +kernel)]; kernel_rfl) | (rw [if_neg (by decide +kernel)]; exact ⟨rfl, rfl⟩))
    (fun os started H enc _ => Frame.liftLaid [("mintmark/bounds.places", Rows.laid_mintmark_bounds_places)] os started H enc _ _ Rows.boundsKeepsSpec 4 (by kernel_rfl) Tryd.func3 Tryd.underlying4 (by kernel_rfl) rfl (by kernel_rfl)
      (fun ds h => by match ds, h with | [_], _ => exact ⟨rfl, rfl, rfl⟩)
      (ChangeSpec.witness_shaped (enc := enc) (C := Tryd.checked) (os := os) (X := fun w _ => laidMetH Tryd.prog [("mintmark/bounds.places", Rows.laid_mintmark_bounds_places)] w) false (World.doorLaid Tryd.prog 400 os) #[.agg #[.int .u64 0, .int .u64 0]] 8 rfl (World.shaped_of_RefB (by kernel_rfl) (by kernel_rfl)) (by kernel_rfl) (by kernel_rfl) (by kernel_rfl) (door_met os _)) walks)
set_option maxRecDepth 100000 in
theorem proved : Rows.BoundsKeepsCardSaid :=
  Claim7.holds_tied_plain_at .later [] [.data] true _ false said (fun _ h => by cases h) (by kernel_rfl) (fun _ h => by cases h) boundsKeeps_row_tie rfl ⟨rfl, rfl⟩ (by kernel_rfl) rfl
    (fun f fn hf hfn => by
      obtain rfl : f = 3 := Option.some.inj ((show Tryd.prog.funcNamed "mintmark/mintmarklaw03.BoundsKeeps" = some 3 by kernel_rfl).symm.trans hf) |>.symm
      obtain rfl : fn = Tryd.f3 := (Option.some.inj (Tryd.func3.symm.trans hfn)).symm
      exact ⟨by kernel_rfl, fun j t ht => by
        rw [Tryd.params3] at ht
        have hm : t ∈ [24] := by have := Array.mem_of_getElem? ht; simp at this; simp; omega
        have hall : ([24].all fun u => !Tryd.prog.wantsStandIn u) = true := by kernel_rfl
        exact (show Tryd.prog.wantsStandIn t = false by simpa using List.all_eq_true.1 hall t hm)⟩)
    (by kernel_rfl)
end Go.Proofs.YtdffacghdnaniaaDoor.BoundsKeeps
