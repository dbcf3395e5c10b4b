/-
  BoundsGrow holds: for every l the law returns true and turns nothing that was there.
-/
import Derived.Test.YtdffacghdnaniaaBoundsLaw
import Derived.Test.YtdffacghdnaniaaLawFrame
namespace Go.Proofs.Ytdffacghdnaniaa.BoundsGrow
open Go.RowKit Words BoundsMath

theorem kept_5000 : Kept 0 5000 1 := by
  refine ⟨by omega, ?_, fun k hk => ?_⟩
  · unfold keeps; rw [if_neg (by omega)]; decide
  · obtain rfl : k = 0 := by omega
    unfold keeps; rw [if_pos rfl]; decide
/-- What Rounded, Length and Align answer, each at what is kept. -/
theorem rounded_nat (b t e : Nat) (hb : b ≤ t) (ht : t ≤ 281474976710656) (hk : Kept b t e) (W : World) :
    Calls Try.prog 5 #[.agg #[.int .u64 (b : Int), .int .u64 (t : Int)]] W (Makes (.tuple #[.agg #[.int .u64 ((dn b (e - 1) : Nat) : Int), .int .u64 ((up t (e - 1) : Nat) : Int)], .bool true]) W) :=
  rounded_of _ _ _ _ _ _ (fun W => extended_any b t e hb ht hk W) W
theorem length_nat (n e : Nat) (hn : n ≤ 281474976710656) (hk : Kept 0 n e) (W : World) :
    Calls Try.prog 6 #[.int .u64 (n : Int)] W (Makes (.tuple #[.int .u64 ((up n (e - 1) : Nat) : Int), .bool true]) W) :=
  length_of _ _ _ _ _ (fun W => extended_any 0 n e (Nat.zero_le _) hn hk W) W
theorem align_nat (n e : Nat) (hn : n ≤ 281474976710656) (hk : Kept 0 n e) (W : World) :
    Calls Try.prog 7 #[.int .u64 (n : Int)] W (Makes (.tuple #[.int .i64 ((e - 1 : Nat) : Int), .bool true]) W) :=
  align_of _ _ _ e hk.le _ (fun W => extended_any 0 n e (Nat.zero_le _) hn hk W) W

/-- The calls, and what comes of them. -/
structure Met (A B C D P Q N1 N CN DN S1 S2 SB ST L D1 U1 D2 U2 M1 M2 X1 X2 : Int) : Prop where
  span : ∀ W, Calls Try.prog 4 #[.int .u64 A, .int .u64 B] W (Makes (.agg #[.int .u64 P, .int .u64 Q]) W)
  round1 : ∀ W, Calls Try.prog 5 #[.agg #[.int .u64 SB, .int .u64 ST]] W (Makes (.tuple #[.agg #[.int .u64 D1, .int .u64 U1], .bool true]) W)
  round2 : ∀ W, Calls Try.prog 5 #[.agg #[.int .u64 P, .int .u64 Q]] W (Makes (.tuple #[.agg #[.int .u64 D2, .int .u64 U2], .bool true]) W)
  len1 : ∀ W, Calls Try.prog 6 #[.int .u64 L] W (Makes (.tuple #[.int .u64 M1, .bool true]) W)
  len2 : ∀ W, Calls Try.prog 6 #[.int .u64 N1] W (Makes (.tuple #[.int .u64 M2, .bool true]) W)
  len3 : ∀ W, Calls Try.prog 6 #[.int .u64 5000] W (Makes (.tuple #[.int .u64 5000, .bool true]) W)
  ali1 : ∀ W, Calls Try.prog 7 #[.int .u64 L] W (Makes (.tuple #[.int .i64 X1, .bool true]) W)
  ali2 : ∀ W, Calls Try.prog 7 #[.int .u64 N1] W (Makes (.tuple #[.int .i64 X2, .bool true]) W)
  n1 : IntKind.u64.wrap (Q - P) = N1
  n : IntKind.u64.wrap (N1 + 1) = N
  n0 : ¬ N = 0
  cn : C.tmod N = CN
  dn : D.tmod N = DN
  s1 : IntKind.u64.wrap (P + CN) = S1
  s2 : IntKind.u64.wrap (P + DN) = S2
  l : IntKind.u64.wrap (ST - SB) = L
  way : (S2 < S1 ∧ SB = S2 ∧ ST = S1) ∨ (¬ S2 < S1 ∧ SB = S1 ∧ ST = S2)
  base : ¬ D1 < D2
  top : ¬ U2 < U1
  len : M1 ≤ M2
  ali : X1 ≤ X2

theorem met (a b c d : Nat) : ∃ P Q N1 N CN DN S1 S2 SB ST L D1 U1 D2 U2 M1 M2 X1 X2, Met a b c d P Q N1 N CN DN S1 S2 SB ST L D1 U1 D2 U2 M1 M2 X1 X2 := by
  obtain ⟨p, hp⟩ : ∃ p, min (a % 281474976710657) (b % 281474976710657) = p := ⟨_, rfl⟩
  obtain ⟨q, hq⟩ : ∃ q, max (a % 281474976710657) (b % 281474976710657) = q := ⟨_, rfl⟩
  have hpq : p ≤ q := by omega
  have hq48 : q ≤ 281474976710656 := by omega
  obtain ⟨cn, hcn⟩ : ∃ m, c % (q - p + 1) = m := ⟨_, rfl⟩
  obtain ⟨dm, hdn⟩ : ∃ m, d % (q - p + 1) = m := ⟨_, rfl⟩
  have hcl : cn < q - p + 1 := by rw [← hcn]; exact Nat.mod_lt _ (by omega)
  have hdl : dm < q - p + 1 := by rw [← hdn]; exact Nat.mod_lt _ (by omega)
  obtain ⟨sb, st, hw, h1, h2, h3⟩ : ∃ sb st : Nat, ((p + dm < p + cn ∧ sb = p + dm ∧ st = p + cn) ∨ (¬ p + dm < p + cn ∧ sb = p + cn ∧ st = p + dm)) ∧ p ≤ sb ∧ sb ≤ st ∧ st ≤ q := by
    by_cases h : p + dm < p + cn
    · exact ⟨p + dm, p + cn, .inl ⟨h, rfl, rfl⟩, by omega, by omega, by omega⟩
    · exact ⟨p + cn, p + dm, .inr ⟨h, rfl, rfl⟩, by omega, by omega, by omega⟩
  have pw : (2 : Nat) ^ 48 = 281474976710656 := by decide
  obtain ⟨e1, k1⟩ := ex_kept (b := sb) (t := st) (by omega)
  obtain ⟨e2, k2⟩ := ex_kept (b := p) (t := q) (by omega)
  obtain ⟨f1, j1⟩ := ex_kept (b := 0) (t := st - sb) (by omega)
  obtain ⟨f2, j2⟩ := ex_kept (b := 0) (t := q - p) (by omega)
  have w1 := k1.within k2 h1 h3
  have w2 := j1.within j2 (Nat.le_refl _) (by omega)
  have w3 := j1.mono j2 (Nat.le_refl _) (by omega : st - sb ≤ q - p)
  have hn1 : IntKind.u64.wrap ((q : Int) - (p : Int)) = ((q - p : Nat) : Int) := by rw [IntKind.wrap_u64]; omega
  have hl : IntKind.u64.wrap ((st : Int) - (sb : Int)) = ((st - sb : Nat) : Int) := by rw [IntKind.wrap_u64]; omega
  have h5 : up 5000 (1 - 1) = 5000 := by decide
  refine ⟨p, q, ((q - p : Nat) : Int), ((q - p + 1 : Nat) : Int), cn, dm, ((p + cn : Nat) : Int), ((p + dm : Nat) : Int), sb, st, ((st - sb : Nat) : Int), _, _, _, _, _, _, _, _,
    ⟨fun W => ?_, fun W => rounded_nat sb st e1 h2 (by omega) k1 W, fun W => rounded_nat p q e2 hpq hq48 k2 W, fun W => length_nat (st - sb) f1 (by omega) j1 W, fun W => length_nat (q - p) f2 (by omega) j2 W, fun W => ?_,
      fun W => align_nat (st - sb) f1 (by omega) j1 W, fun W => align_nat (q - p) f2 (by omega) j2 W, hn1, ?_, by omega, ?_, ?_, ?_, ?_, hl, by omega, by omega, by omega, by omega, by omega⟩⟩
  · have := lspan_any a b W
    rw [hp, hq] at this
    exact this
  · have := length_nat 5000 1 (by omega) kept_5000 W
    rw [h5] at this
    exact this
  · rw [IntKind.wrap_u64]; omega
  · rw [← hcn, Int.tmod_eq_emod_of_nonneg (by omega)]; omega
  · rw [← hdn, Int.tmod_eq_emod_of_nonneg (by omega)]; omega
  · rw [IntKind.wrap_u64]; omega
  · rw [IntKind.wrap_u64]; omega

set_option maxHeartbeats 4000000 in
theorem walk (a b c d : BitVec 64) (w : World) :
    Calls Try.prog 3 #[.agg #[.int .u64 (a.toNat : Int), .int .u64 (b.toNat : Int), .int .u64 (c.toNat : Int), .int .u64 (d.toNat : Int)]] w
      fun e w' => e = .returned (.bool true) ∧ Below w.heap.size w w' := by
  obtain ⟨P, Q, N1, N, CN, DN, S1, S2, SB, ST, L, D1, U1, D2, U2, M1, M2, X1, X2, hm⟩ := met a.toNat b.toNat c.toNat d.toNat
  generalize (a.toNat : Int) = A at *
  generalize (b.toNat : Int) = B at *
  generalize (c.toNat : Int) = C at *
  generalize (d.toNat : Int) = D at *
  have CM := hide hm
  have g1 := hm.n1
  have g2 := hm.n
  have g3 := hm.n0
  have g4 := hm.cn
  have g5 := hm.dn
  have g6 := hm.s1
  have g7 := hm.s2
  have g8 := hm.l
  have g9 := hm.base
  have g10 := hm.top
  have g11 := hm.len
  have g12 := hm.ali
  have hw := hm.way
  clear hm
  have SS := cell_same
  have LB := ltB_add
  have LS := ltB_self
  have LA := alloc_reads
  have LH := alloc_holds
  rcases hw with ⟨hlt, rfl, rfl⟩ | ⟨hlt, rfl, rfl⟩
  · go_enter Try.func3, Try.ntmps3
    go_wp2_with (first | (go_at_call 4; (with_reducible refine (CM.out.span _).mono ?_); rintro e w1 ⟨rfl, hb1⟩; have hr1 := below_reads hb1; have hh1 := below_holds hb1; obtain ⟨m1, hs1⟩ := below_grew hb1))
    go_region
    go_wp2_with (first | (go_at_call 5; (with_reducible first | refine (CM.out.round1 _).mono ?_ | refine (CM.out.round2 _).mono ?_); rintro e w2 ⟨rfl, hb2⟩; have hr2 := below_reads hb2; have hh2 := below_holds hb2; obtain ⟨m2, hs2⟩ := below_grew hb2) | (go_at_call 6; (with_reducible first | refine (CM.out.len1 _).mono ?_ | refine (CM.out.len2 _).mono ?_ | refine (CM.out.len3 _).mono ?_); rintro e w3 ⟨rfl, hb3⟩; have hr3 := below_reads hb3; have hh3 := below_holds hb3; obtain ⟨m3, hs3⟩ := below_grew hb3) | (go_at_call 7; (with_reducible first | refine (CM.out.ali1 _).mono ?_ | refine (CM.out.ali2 _).mono ?_); rintro e w4 ⟨rfl, hb4⟩; have hr4 := below_reads hb4; have hh4 := below_holds hb4; obtain ⟨m4, hs4⟩ := below_grew hb4))
    go_ret
    refine ⟨rfl, ?_⟩
    repeat (first | assumption | exact Below.refl _ _ | refine Below.setCell ?_ (by simp) _ | refine below_drewN ?_ _ | refine Below.drew ?_ | refine below_alloc ?_ (by simp) _ | refine below_behind ?_ (by simp) (by assumption))
  · go_enter Try.func3, Try.ntmps3
    go_wp2_with (first | (go_at_call 4; (with_reducible refine (CM.out.span _).mono ?_); rintro e w1 ⟨rfl, hb1⟩; have hr1 := below_reads hb1; have hh1 := below_holds hb1; obtain ⟨m1, hs1⟩ := below_grew hb1))
    go_region
    go_wp2_with (first | (go_at_call 5; (with_reducible first | refine (CM.out.round1 _).mono ?_ | refine (CM.out.round2 _).mono ?_); rintro e w2 ⟨rfl, hb2⟩; have hr2 := below_reads hb2; have hh2 := below_holds hb2; obtain ⟨m2, hs2⟩ := below_grew hb2) | (go_at_call 6; (with_reducible first | refine (CM.out.len1 _).mono ?_ | refine (CM.out.len2 _).mono ?_ | refine (CM.out.len3 _).mono ?_); rintro e w3 ⟨rfl, hb3⟩; have hr3 := below_reads hb3; have hh3 := below_holds hb3; obtain ⟨m3, hs3⟩ := below_grew hb3) | (go_at_call 7; (with_reducible first | refine (CM.out.ali1 _).mono ?_ | refine (CM.out.ali2 _).mono ?_); rintro e w4 ⟨rfl, hb4⟩; have hr4 := below_reads hb4; have hh4 := below_holds hb4; obtain ⟨m4, hs4⟩ := below_grew hb4))
    go_ret
    refine ⟨rfl, ?_⟩
    repeat (first | assumption | exact Below.refl _ _ | refine Below.setCell ?_ (by simp) _ | refine below_drewN ?_ _ | refine Below.drew ?_ | refine below_alloc ?_ (by simp) _ | refine below_behind ?_ (by simp) (by assumption))
open Go.ChangeShapes Go.WideShapes Go.ChangeAt
theorem walks : Frame.Walks 3 Try.f3 := by
  intro H enc W base args ds ps hval hA
  rw [Try.params3] at hA hval
  obtain ⟨v0, d0, hargs, rfl, h0⟩ := trodAll_one hA
  obtain rfl : args = #[v0] := by cases args; simp_all
  obtain ⟨zs0, rfl, hl0, hz0⟩ := Frame.open_arr Try.underlying23 Try.underlying22 (by kernel_rfl) (by kernel_rfl) (hval 0 23 v0 rfl rfl) h0
  obtain ⟨z0_0, z0_1, z0_2, z0_3, rfl⟩ := Frame.arr4 hl0
  obtain ⟨Z0_0, rfl⟩ := Frame.wf_u64 (hz0 z0_0 (by simp))
  obtain ⟨Z0_1, rfl⟩ := Frame.wf_u64 (hz0 z0_1 (by simp))
  obtain ⟨Z0_2, rfl⟩ := Frame.wf_u64 (hz0 z0_2 (by simp))
  obtain ⟨Z0_3, rfl⟩ := Frame.wf_u64 (hz0 z0_3 (by simp))
  exact walk Z0_0 Z0_1 Z0_2 Z0_3 W
set_option maxRecDepth 100000 in
theorem proved : Rows.BoundsGrowSaid :=
  OpenClaim.holds_of_wide 3 Try.f3 rfl rfl rfl rfl rfl rfl rfl ⟨rfl, rfl, rfl, rfl, rfl⟩ rfl rfl rfl rfl rfl (by kernel_rfl) Try.func3 (by kernel_rfl)
    (of_decide_eq_true (by kernel_rfl)) (by unfold Func.isWrapper; first | (rw [if_pos (by decide +kernel)]; kernel_rfl) | (rw [if_neg (by decide +kernel)]; exact ⟨rfl, rfl⟩))
    (fun os started H enc _ => Frame.lift os started H enc _ _ Rows.boundsGrowSpec 4 (by kernel_rfl) Try.func3 Try.underlying4 (by kernel_rfl) rfl (by kernel_rfl)
      (fun ds h => by match ds, h with | [_], _ => exact ⟨rfl, rfl, rfl⟩)
      (ChangeSpec.witness6 (enc := enc) (C := Try.checked) false ⟨#[], #[.agg #[.int .u64 0, .int .u64 0, .int .u64 0, .int .u64 0]], []⟩ 8 (by kernel_rfl) (by kernel_rfl) (by kernel_rfl) (by kernel_rfl)) walks)
end Go.Proofs.Ytdffacghdnaniaa.BoundsGrow
