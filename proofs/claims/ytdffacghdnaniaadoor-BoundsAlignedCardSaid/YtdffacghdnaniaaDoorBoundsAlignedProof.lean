/-
  BoundsAligned holds: for every a and n the law returns true and turns nothing that was there, where the table of places holds what the program's text lays.
-/
import Derived.Test.YtdffacghdnaniaaDoorTabLaid03
import Derived.Test.YtdffacghdnaniaaDoorNear03
import Derived.Test.YtdffacghdnaniaaDoorBoundsMath2
namespace Go.Proofs.YtdffacghdnaniaaDoor.BoundsAligned
open Go.RowKit Words FieldMath BoundsMath

theorem length_nat (n e : Nat) (hn : n ≤ 281474976710656) (hk : Kept 0 n e) (W : World) :
    Calls Tryd.prog 13 #[.int .u64 (n : Int)] W (Makes (.tuple #[.int .u64 ((up n (e - 1) : Nat) : Int), .bool true]) W) :=
  length_of _ _ _ _ _ (fun W => extended_any 0 n e (Nat.zero_le _) hn hk W) W
theorem align_nat (n e : Nat) (hn : n ≤ 281474976710656) (hk : Kept 0 n e) (W : World) :
    Calls Tryd.prog 14 #[.int .u64 (n : Int)] W (Makes (.tuple #[.int .i64 ((e - 1 : Nat) : Int), .bool true]) W) :=
  align_of _ _ _ e hk.le _ (fun W => extended_any 0 n e (Nat.zero_le _) hn hk W) W
theorem kept_5000 : Kept 0 5000 1 := by
  refine ⟨by omega, ?_, fun k hk => ?_⟩
  · unfold keeps; rw [if_neg (by omega)]; decide
  · obtain rfl : k = 0 := by omega
    unfold keeps; rw [if_pos rfl]; decide

/-- The calls, and what comes of them. -/
structure Met (A N0 N M X MQ D D1 AD AQ BS TP FB FT E : Int) : Prop where
  len : ∀ W, Calls Tryd.prog 13 #[.int .u64 N] W (Makes (.tuple #[.int .u64 M, .bool true]) W)
  ali : ∀ W, Calls Tryd.prog 14 #[.int .u64 N] W (Makes (.tuple #[.int .i64 X, .bool true]) W)
  ali2 : ∀ W, Calls Tryd.prog 14 #[.int .u64 M] W (Makes (.tuple #[.int .i64 X, .bool true]) W)
  enc : ∀ W, Tab W → Calls Tryd.prog 9 #[.agg #[.int .u64 BS, .int .u64 TP]] W (Makes (.tuple #[.agg #[.int .u64 FB, .int .u64 FT, .int .u64 E], .bool true]) W)
  len5 : ∀ W, Calls Tryd.prog 13 #[.int .u64 5000] W (Makes (.tuple #[.int .u64 5000, .bool true]) W)
  n : N0 % 281474976710657 = N
  nt : N0.tmod 281474976710657 = N
  x0 : 0 ≤ X
  x64 : X ≤ 64
  xw : IntKind.u64.wrap X = X
  up : ¬ M < N
  mq : M / 2 ^ X.toNat = MQ
  ml : IntKind.u64.wrap (MQ * 2 ^ X.toNat) = M
  top : ¬ 281474976710656 < M
  d : IntKind.u64.wrap (281474976710656 - M) = D
  d1 : IntKind.u64.wrap (D + 1) = D1
  d0 : ¬ D1 = 0
  ad : A.tmod D1 = AD
  ad2 : A % D1 = AD
  aq : AD / 2 ^ X.toNat = AQ
  bs : IntKind.u64.wrap (AQ * 2 ^ X.toNat) = BS
  tp : IntKind.u64.wrap (BS + M) = TP

theorem met (a n : Nat) (ha : a < 18446744073709551616) : ∃ N M X MQ D D1 AD AQ BS TP FB FT E, Met a n N M X MQ D D1 AD AQ BS TP FB FT E := by
  have pw : (2 : Nat) ^ 48 = 281474976710656 := by decide
  obtain ⟨N, hN⟩ : ∃ N, n % 281474976710657 = N := ⟨_, rfl⟩
  have hn : N ≤ 281474976710656 := by omega
  obtain ⟨e, hk⟩ := ex_kept (b := 0) (t := N) (by omega)
  have he := hk.le
  have hu := up_le N (e - 1)
  have hu2 := up_top (t := N) (x := e - 1) (by omega) (by omega)
  have hk2 := hk.len
  obtain ⟨m, hm⟩ : ∃ m, up N (e - 1) = m := ⟨_, rfl⟩
  have hmq : m = cq N (e - 1) * 2 ^ (e - 1) := hm.symm
  have hml : m / 2 ^ (e - 1) * 2 ^ (e - 1) = m := by rw [hmq, Nat.mul_div_cancel _ (pow_pos _)]
  have l1 := length_nat N e hn hk
  rw [hm] at l1 hu hu2 hk2
  obtain ⟨ad, had⟩ : ∃ r, a % (281474976710656 - m + 1) = r := ⟨_, rfl⟩
  have hadl : ad < 281474976710656 - m + 1 := by rw [← had]; exact Nat.mod_lt _ (by omega)
  obtain ⟨q, hq⟩ : ∃ q, ad / 2 ^ (e - 1) = q := ⟨_, rfl⟩
  have hb : q * 2 ^ (e - 1) ≤ ad := by rw [← hq]; exact Nat.div_mul_le_self _ _
  have hs := hk2.shift q
  have c1 : dn (q * 2 ^ (e - 1)) (e - 1) = q * 2 ^ (e - 1) := dn_mul _ _
  have c2 : up (q * 2 ^ (e - 1) + m) (e - 1) = q * 2 ^ (e - 1) + m := by
    rw [hmq, ← Nat.add_mul, up_mul]
  have en := fun W hW => encode_any (q * 2 ^ (e - 1)) (q * 2 ^ (e - 1) + m) e (Nat.le_add_right _ _) (by omega) hs W hW
  rw [decide_eq_true ⟨c1, c2⟩] at en
  have h5 : up 5000 (1 - 1) = 5000 := by decide
  have i1 : ((m : Nat) : Int) / 2 ^ ((e - 1 : Nat) : Int).toNat = ((m / 2 ^ (e - 1) : Nat) : Int) := by simp
  have i2 : ((m / 2 ^ (e - 1) : Nat) : Int) * 2 ^ ((e - 1 : Nat) : Int).toNat = ((m / 2 ^ (e - 1) * 2 ^ (e - 1) : Nat) : Int) := by simp
  have i3 : ((ad : Nat) : Int) / 2 ^ ((e - 1 : Nat) : Int).toNat = ((ad / 2 ^ (e - 1) : Nat) : Int) := by simp
  have i4 : ((q : Nat) : Int) * 2 ^ ((e - 1 : Nat) : Int).toNat = ((q * 2 ^ (e - 1) : Nat) : Int) := by simp
  refine ⟨N, m, ((e - 1 : Nat) : Int), ((m / 2 ^ (e - 1) : Nat) : Int), ((281474976710656 - m : Nat) : Int), ((281474976710656 - m + 1 : Nat) : Int), (ad : Int), (q : Int), ((q * 2 ^ (e - 1) : Nat) : Int), ((q * 2 ^ (e - 1) + m : Nat) : Int), _, _, _,
    ⟨l1, align_nat N e hn hk, align_nat m e (by omega) hk2, en, fun W => ?_, by rw [← hN]; omega, ?_, by omega, by omega, ?_, by omega, i1, ?_, by omega, ?_, ?_, by omega, ?_, by rw [← had]; omega, by rw [i3, hq], ?_, ?_⟩⟩
  · have := length_nat 5000 1 (by omega) kept_5000 W
    rw [h5] at this
    exact this
  · rw [Int.tmod_eq_emod_of_nonneg (by omega), ← hN]; omega
  · rw [IntKind.wrap_u64]; omega
  · rw [i2, hml, IntKind.wrap_u64]; omega
  · rw [IntKind.wrap_u64]; omega
  · rw [IntKind.wrap_u64]; omega
  · rw [Int.tmod_eq_emod_of_nonneg (by omega), ← had]; omega
  · rw [i4, IntKind.wrap_u64]; omega
  · rw [IntKind.wrap_u64]; omega

set_option maxHeartbeats 2000000 in
theorem walk (x v : BitVec 64) (w : World) (hT : Tab w) :
    Calls Tryd.prog 7 #[.int .u64 (x.toNat : Int), .int .u64 (v.toNat : Int)] w fun e w' => e = .returned (.bool true) ∧ Below w.heap.size w w' := by
  obtain ⟨N, M, X, MQ, D, D1, AD, AQ, BS, TP, FB, FT, E, hm⟩ := met x.toNat v.toNat x.isLt
  generalize (x.toNat : Int) = A at *
  generalize (v.toNat : Int) = N0 at *
  have CM := hide hm
  have g1 := hm.n
  have g2 := hm.x0
  have g3 := hm.x64
  have g4 := hm.xw
  have g5 := hm.up
  have g6 := hm.mq
  have g7 := hm.ml
  have g8 := hm.top
  have g9 := hm.d
  have g10 := hm.d1
  have g11 := hm.d0
  have g12 := hm.ad
  have g13 := hm.ad2
  have g14 := hm.aq
  have g15 := hm.bs
  have g16 := hm.tp
  have g17 := hm.nt
  clear hm
  have SS := cell_same
  have LB := ltB_add
  have LS := ltB_self
  have LA := alloc_reads
  have LH := alloc_holds
  go_enter Tryd.func7, Tryd.ntmps7
  go_wp2_with (first | (go_at_call 13; (with_reducible first | refine (CM.out.len _).mono ?_ | refine (CM.out.len5 _).mono ?_); rintro e w1 ⟨rfl, hb1⟩; have hr1 := below_reads hb1; have hh1 := below_holds hb1; obtain ⟨m1, hs1⟩ := below_grew hb1) | (go_at_call 14; (with_reducible first | refine (CM.out.ali _).mono ?_ | refine (CM.out.ali2 _).mono ?_); rintro e w1 ⟨rfl, hb1⟩; have hr1 := below_reads hb1; have hh1 := below_holds hb1; obtain ⟨m1, hs1⟩ := below_grew hb1) | (go_at_call 9; (with_reducible refine (CM.out.enc _ ?_).mono ?_); (refine hT.behind ?_; repeat (first | with_reducible assumption | with_reducible exact Below.refl _ _ | with_reducible refine Below.drew ?_ | with_reducible refine below_drewN ?_ _ | with_reducible refine bw_alloc ?_ _ | (with_reducible refine bw_set ?_ ?_ _; focus (dsimp only; omega)) | (with_reducible apply bw_behind; with_reducible assumption))); rintro e w1 ⟨rfl, hb1⟩; have hr1 := below_reads hb1; have hh1 := below_holds hb1; obtain ⟨m1, hs1⟩ := below_grew hb1))
  go_ret
  refine ⟨rfl, ?_⟩
  repeat (first | with_reducible assumption | with_reducible exact Below.refl _ _ | with_reducible refine Below.drew ?_ | with_reducible refine below_drewN ?_ _ | with_reducible refine bw_alloc ?_ _ | (with_reducible refine bw_set ?_ ?_ _; focus (dsimp only; omega)) | (with_reducible apply bw_behind; with_reducible assumption))

open Go.ChangeShapes Go.WideShapes Go.ChangeAt
theorem walks : Frame.WalksLaid [("mintmark/bounds.places", Rows.laid_mintmark_bounds_places)] 7 Tryd.f7 := by
  intro H enc W base args ds ps hL hval hA
  rw [Tryd.params7] at hA hval
  obtain ⟨v0, v1, d0, d1, p0, p1, hargs, rfl, rfl, h0, h1⟩ := trodAll_two hA
  obtain rfl : args = #[v0, v1] := by cases args; simp_all
  obtain ⟨x0, rfl, rfl, rfl, w0⟩ := open_int Tryd.underlying22 (hval 0 22 v0 rfl rfl) h0
  obtain ⟨x1, rfl, rfl, rfl, w1⟩ := open_int Tryd.underlying22 (hval 1 22 v1 rfl rfl) h1
  obtain ⟨X0, rfl⟩ := Frame.wf_u64 w0
  obtain ⟨X1, rfl⟩ := Frame.wf_u64 w1
  exact walk X0 X1 W (tab_of_laid hL)
set_option maxRecDepth 100000 in
theorem said : Rows.BoundsAlignedSaid :=
  OpenClaim.holds_of_wide 7 Tryd.f7 rfl rfl rfl rfl rfl rfl rfl ⟨rfl, rfl, rfl, rfl, rfl⟩ rfl rfl rfl rfl rfl (by kernel_rfl) Tryd.func7 (by kernel_rfl)
    (of_decide_eq_true (by kernel_rfl)) (by unfold Func.isWrapper; first | (rw [if_pos (by decide +kernel)]; kernel_rfl) | (rw [if_neg (by decide +kernel)]; exact ⟨rfl, rfl⟩))
    (fun os started H enc _ => Frame.liftLaid [("mintmark/bounds.places", Rows.laid_mintmark_bounds_places)] os started H enc _ _ Rows.boundsAlignedSpec 4 (by kernel_rfl) Tryd.func7 Tryd.underlying4 (by kernel_rfl) rfl (by kernel_rfl)
      (fun ds h => by match ds, h with | [_, _], _ => exact ⟨rfl, rfl, rfl⟩)
      (ChangeSpec.witness_shaped (enc := enc) (C := Tryd.checked) (os := os) (X := fun w _ => laidMetH Tryd.prog [("mintmark/bounds.places", Rows.laid_mintmark_bounds_places)] w) false (World.doorLaid Tryd.prog 400 os) #[.int .u64 0, .int .u64 0] 8 rfl (World.shaped_of_RefB (by kernel_rfl) (by kernel_rfl)) (by kernel_rfl) (by kernel_rfl) (by kernel_rfl) (door_met os _)) walks)
set_option maxRecDepth 100000 in
theorem proved : Rows.BoundsAlignedCardSaid :=
  Claim7.holds_tied_plain_at .later [] [.data] true _ false said (fun _ h => by cases h) (by kernel_rfl) (fun _ h => by cases h) boundsAligned_row_tie rfl ⟨rfl, rfl⟩ (by kernel_rfl) rfl
    (fun f fn hf hfn => by
      obtain rfl : f = 7 := Option.some.inj ((show Tryd.prog.funcNamed "mintmark/mintmarklaw03.BoundsAligned" = some 7 by kernel_rfl).symm.trans hf) |>.symm
      obtain rfl : fn = Tryd.f7 := (Option.some.inj (Tryd.func7.symm.trans hfn)).symm
      exact ⟨by kernel_rfl, fun j t ht => by
        rw [Tryd.params7] at ht
        have hm : t ∈ [22] := by have := Array.mem_of_getElem? ht; simp at this; simp; omega
        have hall : ([22].all fun u => !Tryd.prog.wantsStandIn u) = true := by kernel_rfl
        exact (show Tryd.prog.wantsStandIn t = false by simpa using List.all_eq_true.1 hall t hm)⟩)
    (by kernel_rfl)
end Go.Proofs.YtdffacghdnaniaaDoor.BoundsAligned
