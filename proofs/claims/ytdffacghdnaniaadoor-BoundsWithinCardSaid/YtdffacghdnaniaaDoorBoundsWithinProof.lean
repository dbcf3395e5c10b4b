/-
  BoundsWithin holds: for every a and b the law returns true and turns nothing that was there, where the table of places holds what the program's text lays.
-/
import Derived.Test.YtdffacghdnaniaaDoorTabLaid03
import Derived.Test.YtdffacghdnaniaaDoorNear03
import Derived.Test.YtdffacghdnaniaaDoorBoundsMath2
import Derived.Test.YtdffacghdnaniaaDoorBoundsLaw
namespace Go.Proofs.YtdffacghdnaniaaDoor.BoundsWithin
open Go.RowKit Words FieldMath BoundsMath

theorem rounded_nat (b t e : Nat) (hb : b ≤ t) (ht : t ≤ 281474976710656) (hk : Kept b t e) (W : World) :
    Calls Tryd.prog 11 #[.agg #[.int .u64 (b : Int), .int .u64 (t : Int)]] W (Makes (.tuple #[.agg #[.int .u64 ((dn b (e - 1) : Nat) : Int), .int .u64 ((up t (e - 1) : Nat) : Int)], .bool true]) W) :=
  rounded_of _ _ _ _ _ _ (fun W => extended_any b t e hb ht hk W) W
theorem length_nat (n e : Nat) (hn : n ≤ 281474976710656) (hk : Kept 0 n e) (W : World) :
    Calls Tryd.prog 13 #[.int .u64 (n : Int)] W (Makes (.tuple #[.int .u64 ((up n (e - 1) : Nat) : Int), .bool true]) W) :=
  length_of _ _ _ _ _ (fun W => extended_any 0 n e (Nat.zero_le _) hn hk W) W
theorem kept_4096 : Kept 0 4096 1 := by
  refine ⟨by omega, ?_, fun k hk => ?_⟩
  · unfold keeps; rw [if_neg (by omega)]; decide
  · obtain rfl : k = 0 := by omega
    unfold keeps; rw [if_pos rfl]; decide

/-- The calls, and what comes of them. -/
structure Met (A B P Q D U FB FT E PW G1 G2 : Int) (O : Bool) : Prop where
  span : ∀ W, Calls Tryd.prog 20 #[.int .u64 A, .int .u64 B] W (Makes (.agg #[.int .u64 P, .int .u64 Q]) W)
  rnd : ∀ W, Calls Tryd.prog 11 #[.agg #[.int .u64 P, .int .u64 Q]] W (Makes (.tuple #[.agg #[.int .u64 D, .int .u64 U], .bool true]) W)
  enc : ∀ W, Tab W → Calls Tryd.prog 9 #[.agg #[.int .u64 P, .int .u64 Q]] W (Makes (.tuple #[.agg #[.int .u64 FB, .int .u64 FT, .int .u64 E], .bool O]) W)
  rnd2 : ∀ W, Calls Tryd.prog 11 #[.agg #[.int .u64 D, .int .u64 U]] W (Makes (.tuple #[.agg #[.int .u64 D, .int .u64 U], .bool true]) W)
  enc2 : ∀ W, Tab W → Calls Tryd.prog 9 #[.agg #[.int .u64 D, .int .u64 U]] W (Makes (.tuple #[.agg #[.int .u64 FB, .int .u64 FT, .int .u64 E], .bool true]) W)
  len : ∀ W, Calls Tryd.prog 13 #[.int .u64 4096] W (Makes (.tuple #[.int .u64 4096, .bool true]) W)
  e37 : E ≤ 37
  e0 : 0 ≤ E
  low : ¬ P < D
  top : ¬ U < Q
  pw : E ≠ 0 → IntKind.u64.wrap (2 ^ (E.toNat - 1)) = PW
  pw0 : E = 0 → PW = 1
  g1 : IntKind.u64.wrap (P - D) = G1
  g2 : IntKind.u64.wrap (U - Q) = G2
  l1 : ¬ PW ≤ G1
  l2 : ¬ PW ≤ G2
  eq : ∀ W, (binOp .eql 24 (.agg #[.int .u64 D, .int .u64 U]) (.agg #[.int .u64 P, .int .u64 Q])).run Tryd.prog W = .ok (.bool O) W

theorem met (a b : Nat) : ∃ P Q D U FB FT E PW G1 G2 O, Met a b P Q D U FB FT E PW G1 G2 O := by
  have pw : (2 : Nat) ^ 48 = 281474976710656 := by decide
  obtain ⟨p, hp⟩ : ∃ p, min (a % 281474976710657) (b % 281474976710657) = p := ⟨_, rfl⟩
  obtain ⟨q, hq⟩ : ∃ q, max (a % 281474976710657) (b % 281474976710657) = q := ⟨_, rfl⟩
  have hpq : p ≤ q := by omega
  have hq48 : q ≤ 281474976710656 := by omega
  obtain ⟨e, hk⟩ := ex_kept (b := p) (t := q) (by omega)
  have he := hk.le
  have ha := hk.again
  have h1 := dn_le p (e - 1)
  have h2 := dn_gap p (e - 1)
  have h3 := up_le q (e - 1)
  have h4 := up_gap q (e - 1)
  have h5 := up_top (t := q) (x := e - 1) (by omega) (by omega)
  have hP : 2 ^ (e - 1) ≤ 2 ^ 36 := Nat.pow_le_pow_right (by decide) (by omega)
  have r2 := rounded_nat _ _ e (by omega) (by omega) ha
  have en2 := fun W hW => encode_any _ _ e (by omega) (by omega) ha W hW
  rw [decide_eq_true ⟨dn_dn _ _, up_up _ _⟩] at en2
  rw [dn_dn, up_up] at r2 en2
  have h6 : up 4096 (1 - 1) = 4096 := by decide
  have en := fun W hW => encode_any p q e hpq hq48 hk W hW
  have eq := eq_span ((dn p (e - 1) : Nat) : Int) ((up q (e - 1) : Nat) : Int) p q
  rw [show decide (((dn p (e - 1) : Nat) : Int) = (p : Int) ∧ ((up q (e - 1) : Nat) : Int) = (q : Int)) = decide (dn p (e - 1) = p ∧ up q (e - 1) = q) from decide_eq_decide.mpr (by omega)] at eq
  refine ⟨p, q, _, _, _, _, e, ((2 ^ (e - 1) : Nat) : Int), ((p - dn p (e - 1) : Nat) : Int), ((up q (e - 1) - q : Nat) : Int), _,
    ⟨fun W => ?_, fun W => rounded_nat p q e hpq hq48 hk W, en, r2, en2, fun W => ?_, by omega, by omega, by omega, by omega, ?_, ?_, ?_, ?_, by omega, by omega, eq⟩⟩
  · have := lspan_any a b W
    rw [hp, hq] at this
    exact this
  · have := length_nat 4096 1 (by omega) kept_4096 W
    rw [h6] at this
    exact this
  · intro h0
    rw [show ((e : Int)).toNat - 1 = e - 1 by omega, show (2 : Int) ^ (e - 1) = ((2 ^ (e - 1) : Nat) : Int) by simp, IntKind.wrap_u64]
    omega
  · intro h0
    obtain rfl : e = 0 := by omega
    rfl
  · rw [IntKind.wrap_u64]; omega
  · rw [IntKind.wrap_u64]; omega

set_option maxHeartbeats 4000000 in
theorem walk (x v : BitVec 64) (w : World) (hT : Tab w) :
    Calls Tryd.prog 5 #[.int .u64 (x.toNat : Int), .int .u64 (v.toNat : Int)] w fun e w' => e = .returned (.bool true) ∧ Below w.heap.size w w' := by
  obtain ⟨P, Q, D, U, FB, FT, E, PW, G1, G2, O, hm⟩ := met x.toNat v.toNat
  generalize (x.toNat : Int) = A at *
  generalize (v.toNat : Int) = B at *
  have CM := hide hm
  have g1 := hm.e37
  have g2 := hm.e0
  have g3 := hm.low
  have g4 := hm.top
  have g5 := hm.pw
  have g6 := hm.pw0
  have g7 := hm.g1
  have g8 := hm.g2
  have g9 := hm.l1
  have g10 := hm.l2
  have g11 := hm.eq
  clear hm
  have SS := cell_same
  have LB := ltB_add
  have LS := ltB_self
  have LA := alloc_reads
  have LH := alloc_holds
  by_cases h0 : E = 0
  · have h1 := g6 h0
    subst h0 h1
    clear g5 g6
    go_enter Tryd.func5, Tryd.ntmps5
    go_wp2_with (first | (go_at_call 20; (with_reducible refine (CM.out.span _).mono ?_); rintro e w1 ⟨rfl, hb1⟩; have hr1 := below_reads hb1; have hh1 := below_holds hb1; obtain ⟨m1, hs1⟩ := below_grew hb1) | (go_at_call 11; (with_reducible first | refine (CM.out.rnd _).mono ?_ | refine (CM.out.rnd2 _).mono ?_); rintro e w1 ⟨rfl, hb1⟩; have hr1 := below_reads hb1; have hh1 := below_holds hb1; obtain ⟨m1, hs1⟩ := below_grew hb1) | (go_at_call 9; (with_reducible first | refine (CM.out.enc _ ?_).mono ?_ | refine (CM.out.enc2 _ ?_).mono ?_); (refine hT.behind ?_; repeat (first | with_reducible assumption | with_reducible exact Below.refl _ _ | with_reducible refine Below.drew ?_ | with_reducible refine below_drewN ?_ _ | with_reducible refine bw_alloc ?_ _ | (with_reducible refine bw_set ?_ ?_ _; focus (dsimp only; omega)) | (with_reducible apply bw_behind; with_reducible assumption))); rintro e w1 ⟨rfl, hb1⟩; have hr1 := below_reads hb1; have hh1 := below_holds hb1; obtain ⟨m1, hs1⟩ := below_grew hb1) | (go_at_call 13; (with_reducible refine (CM.out.len _).mono ?_); rintro e w1 ⟨rfl, hb1⟩; have hr1 := below_reads hb1; have hh1 := below_holds hb1; obtain ⟨m1, hs1⟩ := below_grew hb1))
    go_ret
    refine ⟨rfl, ?_⟩
    repeat (first | with_reducible assumption | with_reducible exact Below.refl _ _ | with_reducible refine Below.drew ?_ | with_reducible refine below_drewN ?_ _ | with_reducible refine bw_alloc ?_ _ | (with_reducible refine bw_set ?_ ?_ _; focus (dsimp only; omega)) | (with_reducible apply bw_behind; with_reducible assumption))
  · have h1 := g5 h0
    clear g5 g6
    go_enter Tryd.func5, Tryd.ntmps5
    go_wp2_with (first | (go_at_call 20; (with_reducible refine (CM.out.span _).mono ?_); rintro e w1 ⟨rfl, hb1⟩; have hr1 := below_reads hb1; have hh1 := below_holds hb1; obtain ⟨m1, hs1⟩ := below_grew hb1) | (go_at_call 11; (with_reducible first | refine (CM.out.rnd _).mono ?_ | refine (CM.out.rnd2 _).mono ?_); rintro e w1 ⟨rfl, hb1⟩; have hr1 := below_reads hb1; have hh1 := below_holds hb1; obtain ⟨m1, hs1⟩ := below_grew hb1) | (go_at_call 9; (with_reducible first | refine (CM.out.enc _ ?_).mono ?_ | refine (CM.out.enc2 _ ?_).mono ?_); (refine hT.behind ?_; repeat (first | with_reducible assumption | with_reducible exact Below.refl _ _ | with_reducible refine Below.drew ?_ | with_reducible refine below_drewN ?_ _ | with_reducible refine bw_alloc ?_ _ | (with_reducible refine bw_set ?_ ?_ _; focus (dsimp only; omega)) | (with_reducible apply bw_behind; with_reducible assumption))); rintro e w1 ⟨rfl, hb1⟩; have hr1 := below_reads hb1; have hh1 := below_holds hb1; obtain ⟨m1, hs1⟩ := below_grew hb1) | (go_at_call 13; (with_reducible refine (CM.out.len _).mono ?_); rintro e w1 ⟨rfl, hb1⟩; have hr1 := below_reads hb1; have hh1 := below_holds hb1; obtain ⟨m1, hs1⟩ := below_grew hb1))
    go_ret
    refine ⟨rfl, ?_⟩
    repeat (first | with_reducible assumption | with_reducible exact Below.refl _ _ | with_reducible refine Below.drew ?_ | with_reducible refine below_drewN ?_ _ | with_reducible refine bw_alloc ?_ _ | (with_reducible refine bw_set ?_ ?_ _; focus (dsimp only; omega)) | (with_reducible apply bw_behind; with_reducible assumption))

open Go.ChangeShapes Go.WideShapes Go.ChangeAt
theorem walks : Frame.WalksLaid [("mintmark/bounds.places", Rows.laid_mintmark_bounds_places)] 5 Tryd.f5 := by
  intro H enc W base args ds ps hL hval hA
  rw [Tryd.params5] at hA hval
  obtain ⟨v0, v1, d0, d1, p0, p1, hargs, rfl, rfl, h0, h1⟩ := trodAll_two hA
  obtain rfl : args = #[v0, v1] := by cases args; simp_all
  obtain ⟨x0, rfl, rfl, rfl, w0⟩ := open_int Tryd.underlying22 (hval 0 22 v0 rfl rfl) h0
  obtain ⟨x1, rfl, rfl, rfl, w1⟩ := open_int Tryd.underlying22 (hval 1 22 v1 rfl rfl) h1
  obtain ⟨X0, rfl⟩ := Frame.wf_u64 w0
  obtain ⟨X1, rfl⟩ := Frame.wf_u64 w1
  exact walk X0 X1 W (tab_of_laid hL)
set_option maxRecDepth 100000 in
theorem said : Rows.BoundsWithinSaid :=
  OpenClaim.holds_of_wide 5 Tryd.f5 rfl rfl rfl rfl rfl rfl rfl ⟨rfl, rfl, rfl, rfl, rfl⟩ rfl rfl rfl rfl rfl (by kernel_rfl) Tryd.func5 (by kernel_rfl)
    (of_decide_eq_true (by kernel_rfl)) (by unfold Func.isWrapper; first | (rw [if_pos (by decide +kernel)]; kernel_rfl) | (rw [if_neg (by decide +kernel)]; exact ⟨rfl, rfl⟩))
    (fun os started H enc _ => Frame.liftLaid [("mintmark/bounds.places", Rows.laid_mintmark_bounds_places)] os started H enc _ _ Rows.boundsWithinSpec 4 (by kernel_rfl) Tryd.func5 Tryd.underlying4 (by kernel_rfl) rfl (by kernel_rfl)
      (fun ds h => by match ds, h with | [_, _], _ => exact ⟨rfl, rfl, rfl⟩)
      (ChangeSpec.witness_shaped (enc := enc) (C := Tryd.checked) (os := os) (X := fun w _ => laidMetH Tryd.prog [("mintmark/bounds.places", Rows.laid_mintmark_bounds_places)] w) false (World.doorLaid Tryd.prog 400 os) #[.int .u64 0, .int .u64 0] 8 rfl (World.shaped_of_RefB (by kernel_rfl) (by kernel_rfl)) (by kernel_rfl) (by kernel_rfl) (by kernel_rfl) (door_met os _)) walks)
set_option maxRecDepth 100000 in
theorem proved : Rows.BoundsWithinCardSaid :=
  Claim7.holds_tied_plain_at .later [] [.data] true _ false said (fun _ h => by cases h) (by kernel_rfl) (fun _ h => by cases h) boundsWithin_row_tie rfl ⟨rfl, rfl⟩ (by kernel_rfl) rfl
    (fun f fn hf hfn => by
      obtain rfl : f = 5 := Option.some.inj ((show Tryd.prog.funcNamed "mintmark/mintmarklaw03.BoundsWithin" = some 5 by kernel_rfl).symm.trans hf) |>.symm
      obtain rfl : fn = Tryd.f5 := (Option.some.inj (Tryd.func5.symm.trans hfn)).symm
      exact ⟨by kernel_rfl, fun j t ht => by
        rw [Tryd.params5] at ht
        have hm : t ∈ [22] := by have := Array.mem_of_getElem? ht; simp at this; simp; omega
        have hall : ([22].all fun u => !Tryd.prog.wantsStandIn u) = true := by kernel_rfl
        exact (show Tryd.prog.wantsStandIn t = false by simpa using List.all_eq_true.1 hall t hm)⟩)
    (by kernel_rfl)
end Go.Proofs.YtdffacghdnaniaaDoor.BoundsWithin
