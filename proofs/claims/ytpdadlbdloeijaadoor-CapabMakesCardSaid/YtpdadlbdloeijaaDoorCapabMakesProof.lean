/-
  CapabMakes holds: for every v and addr the law returns true and turns nothing that was there, where the table of places holds what the program's text lays.
-/
import Derived.Test.YtpdadlbdloeijaaDoorTabLaid03
import Derived.Test.YtpdadlbdloeijaaDoorCapRoot
import Derived.Test.YtpdadlbdloeijaaDoorCapRef3
namespace Go.Proofs.YtpdadlbdloeijaaDoor.CapabMakes
open Go.RowKit Words FieldMath BoundsMath

theorem eq_rcap (q r : Bool) (M A N B : Int) : ∀ W, (binOp .eql 36 (.agg #[.bool q, .int .u64 M, .int .u64 A]) (.agg #[.bool r, .int .u64 N, .int .u64 B])).run Tryd.prog W = .ok (.bool (decide (q = r ∧ M = N ∧ A = B))) W := by
  intro W
  by_cases h1 : q = r <;> by_cases h2 : M = N <;> by_cases h3 : A = B <;> simp [go_sem, h1, h2, h3]
structure Met (B T P K A M1 A1 M2 A2 : Int) (O1 O2 : Bool) : Prop where
  mk1 : ∀ W, Tab W → Calls Tryd.prog 21 #[.agg #[.int .u64 B, .int .u64 T, .int .u64 P, .int .u64 K], .int .u64 A] W (Makes (.tuple #[.agg #[.bool false, .int .u64 M1, .int .u64 A1], .bool O1]) W)
  mk2 : ∀ W, Calls Tryd.prog 22 #[.agg #[.int .u64 B, .int .u64 T, .int .u64 P, .int .u64 K], .int .u64 A] W (Makes (.tuple #[.agg #[.bool false, .int .u64 M1, .int .u64 A1], .bool O1]) W)
  rt1 : ∀ W, Tab W → Calls Tryd.prog 23 #[.agg #[.int .u64 B, .int .u64 T], .int .u64 P] W (Makes (.tuple #[.agg #[.bool O2, .int .u64 M2, .int .u64 A2], .bool O2]) W)
  rt2 : ∀ W, Calls Tryd.prog 24 #[.agg #[.int .u64 B, .int .u64 T], .int .u64 P] W (Makes (.tuple #[.agg #[.bool O2, .int .u64 M2, .int .u64 A2], .bool O2]) W)

set_option maxHeartbeats 4000000 in
theorem walk_let (B T P K A M1 A1 M2 A2 : Int) (O1 O2 : Bool) (hm : Met B T P K A M1 A1 M2 A2 O1 O2) (w : World) (hT : Tab w) :
    Calls Tryd.prog 4 #[.agg #[.int .u64 B, .int .u64 T, .int .u64 P, .int .u64 K], .int .u64 A] w fun e w' => e = .returned (.bool true) ∧ Below w.heap.size w w' := by
  have CM := hide hm
  clear hm
  have CV := hide (fun W => view_any B T P K W)
  have CO := hide one_any
  have E1 := eq_rcap false false M1 A1 M1 A1
  rw [decide_eq_true ⟨rfl, rfl, rfl⟩] at E1
  have E2 := eq_rcap O2 O2 M2 A2 M2 A2
  rw [decide_eq_true ⟨rfl, rfl, rfl⟩] at E2
  have SS := cell_same
  have LB' := ltB_add
  have LS := ltB_self
  have LA' := alloc_reads
  have LH := alloc_holds
  go_enter Tryd.func4, Tryd.ntmps4
  go_wp2_with (first | (go_at_call 21; (with_reducible refine (CM.out.mk1 _ ?_).mono ?_); (refine hT.behind ?_; repeat (first | with_reducible assumption | with_reducible exact Below.refl _ _ | with_reducible refine Below.drew ?_ | with_reducible refine below_drewN ?_ _ | with_reducible refine bw_alloc ?_ _ | (with_reducible refine bw_set ?_ ?_ _; focus (dsimp only; omega)) | (with_reducible apply bw_behind; with_reducible assumption))); rintro e wa ⟨rfl, hba⟩; have hra := below_reads hba; have hha := below_holds hba; obtain ⟨ma, hsa⟩ := below_grew hba) | (go_at_call 22; (with_reducible refine (CM.out.mk2 _).mono ?_); rintro e wb ⟨rfl, hbb⟩; have hrb := below_reads hbb; have hhb := below_holds hbb; obtain ⟨mb, hsb⟩ := below_grew hbb) | (go_at_call 23; (with_reducible refine (CM.out.rt1 _ ?_).mono ?_); (refine hT.behind ?_; repeat (first | with_reducible assumption | with_reducible exact Below.refl _ _ | with_reducible refine Below.drew ?_ | with_reducible refine below_drewN ?_ _ | with_reducible refine bw_alloc ?_ _ | (with_reducible refine bw_set ?_ ?_ _; focus (dsimp only; omega)) | (with_reducible apply bw_behind; with_reducible assumption))); rintro e wc ⟨rfl, hbc⟩; have hrc := below_reads hbc; have hhc := below_holds hbc; obtain ⟨mc, hsc⟩ := below_grew hbc) | (go_at_call 24; (with_reducible refine (CM.out.rt2 _).mono ?_); rintro e wd ⟨rfl, hbd⟩; have hrd := below_reads hbd; have hhd := below_holds hbd; obtain ⟨md, hsd⟩ := below_grew hbd) | (go_at_call 12; (with_reducible refine (CV.out _).mono ?_); rintro e we ⟨rfl, hbe⟩; have hre := below_reads hbe; have hhe := below_holds hbe; obtain ⟨me, hse⟩ := below_grew hbe) | (go_at_call 20; (with_reducible refine (CO.out _ ?_).mono ?_); (refine hT.behind ?_; repeat (first | with_reducible assumption | with_reducible exact Below.refl _ _ | with_reducible refine Below.drew ?_ | with_reducible refine below_drewN ?_ _ | with_reducible refine bw_alloc ?_ _ | (with_reducible refine bw_set ?_ ?_ _; focus (dsimp only; omega)) | (with_reducible apply bw_behind; with_reducible assumption))); rintro e wf ⟨rfl, hbf⟩; have hrf := below_reads hbf; have hhf := below_holds hbf; obtain ⟨mf, hsf⟩ := below_grew hbf))
  go_ret
  refine ⟨rfl, ?_⟩
  repeat (first | with_reducible assumption | with_reducible exact Below.refl _ _ | with_reducible refine Below.drew ?_ | with_reducible refine below_drewN ?_ _ | with_reducible refine bw_alloc ?_ _ | (with_reducible refine bw_set ?_ ?_ _; focus (dsimp only; omega)) | (with_reducible apply bw_behind; with_reducible assumption))

theorem walk (b t p k a : BitVec 64) (w : World) (hT : Tab w) :
    Calls Tryd.prog 4 #[.agg #[.int .u64 (b.toNat : Int), .int .u64 (t.toNat : Int), .int .u64 (p.toNat : Int), .int .u64 (k.toNat : Int)], .int .u64 (a.toNat : Int)] w fun e w' => e = .returned (.bool true) ∧ Below w.heap.size w w' := by
  obtain ⟨fb, ft, e, ex, h⟩ := enc_ex b.toNat t.toNat
  have h1 := fun W hW => make_any b t p.toNat k.toNat a.toNat fb ft e ex (toNat_lt p) (toNat_lt k) h W hW
  have h2 := fun W => rmake_any b.toNat t.toNat p.toNat k.toNat a.toNat fb ft e ex h W
  have h3 := fun W hW => root_any b t p.toNat fb ft e ex (toNat_lt p) h W hW
  have h4 := fun W => rroot_any b.toNat t.toNat p.toNat fb ft e ex h W
  exact walk_let _ _ _ _ _ _ _ _ _ _ _ ⟨h1, h2, h3, h4⟩ w hT
open Go.ChangeShapes Go.WideShapes Go.ChangeAt
set_option maxRecDepth 100000 in
theorem walks : Frame.WalksLaid [("mintmark/bounds.places", Rows.laid_mintmark_bounds_places)] 4 Tryd.f4 := by
  intro H enc W base args ds ps hL hval hA
  rw [Tryd.params4] at hA hval
  obtain ⟨v0, v1, d0, d1, p0, p1, hargs, rfl, rfl, h0, h1⟩ := trodAll_two hA
  obtain rfl : args = #[v0, v1] := by cases args; simp_all
  obtain ⟨cs0, rfl, hf0⟩ := Frame.open_struct (F := 4) (ks := [.inl .u64, .inl .u64, .inl .u64, .inl .u64]) Tryd.underlying28 (by kernel_rfl) (hval 0 28 v0 rfl rfl) h0
  match cs0, hf0 with
  | [_, _, _, _], ⟨⟨z0_0, rfl, wz0_0⟩, ⟨z0_1, rfl, wz0_1⟩, ⟨z0_2, rfl, wz0_2⟩, ⟨z0_3, rfl, wz0_3⟩, _⟩ =>
  obtain ⟨Z0_0, rfl⟩ := Frame.wf_u64 wz0_0
  obtain ⟨Z0_1, rfl⟩ := Frame.wf_u64 wz0_1
  obtain ⟨Z0_2, rfl⟩ := Frame.wf_u64 wz0_2
  obtain ⟨Z0_3, rfl⟩ := Frame.wf_u64 wz0_3
  obtain ⟨x1, rfl, rfl, rfl, w1⟩ := open_int Tryd.underlying22 (hval 1 22 v1 rfl rfl) h1
  obtain ⟨X1, rfl⟩ := Frame.wf_u64 w1
  exact walk Z0_0 Z0_1 Z0_2 Z0_3 X1 W (tab_of_laid hL)
set_option maxRecDepth 100000 in
theorem said : Rows.CapabMakesSaid :=
  OpenClaim.holds_of_wide 4 Tryd.f4 rfl rfl rfl rfl rfl rfl rfl ⟨rfl, rfl, rfl, rfl, rfl⟩ rfl rfl rfl rfl rfl (by kernel_rfl) Tryd.func4 (by kernel_rfl)
    (of_decide_eq_true (by kernel_rfl)) (by unfold Func.isWrapper; first | (rw [if_pos (by decide +kernel)]; kernel_rfl) | (rw [if_neg (by decide +kernel)]; exact ⟨rfl, rfl⟩))
    (fun os started H enc _ => Frame.liftLaid [("mintmark/bounds.places", Rows.laid_mintmark_bounds_places)] os started H enc _ _ Rows.capabMakesSpec 4 (by kernel_rfl) Tryd.func4 Tryd.underlying4 (by kernel_rfl) rfl (by kernel_rfl)
      (fun ds h => by match ds, h with | [_, _], _ => exact ⟨rfl, rfl, rfl⟩)
      (ChangeSpec.witness_shaped (enc := enc) (C := Tryd.checked) (os := os) (X := fun w _ => laidMetH Tryd.prog [("mintmark/bounds.places", Rows.laid_mintmark_bounds_places)] w) false (World.doorLaid Tryd.prog 400 os) #[.agg #[.int .u64 0, .int .u64 0, .int .u64 0, .int .u64 0], .int .u64 0] 8 rfl (World.shaped_of_RefB (by kernel_rfl) (by kernel_rfl)) (by kernel_rfl) (by kernel_rfl) (by kernel_rfl) (door_met os _)) walks)
set_option maxRecDepth 100000 in
theorem proved : Rows.CapabMakesCardSaid :=
  Claim7.holds_tied_plain_at .later [] [.data] true _ false said (fun _ h => by cases h) (by kernel_rfl) (fun _ h => by cases h) capabMakes_row_tie rfl ⟨rfl, rfl⟩ (by kernel_rfl) rfl
    (fun f fn hf hfn => by
      obtain rfl : f = 4 := Option.some.inj ((show Tryd.prog.funcNamed "mintmark/mintmarklaw05.CapabMakes" = some 4 by kernel_rfl).symm.trans hf) |>.symm
      obtain rfl : fn = Tryd.f4 := (Option.some.inj (Tryd.func4.symm.trans hfn)).symm
      exact ⟨by kernel_rfl, fun j t ht => by
        rw [Tryd.params4] at ht
        have hm : t ∈ [28, 22] := by have := Array.mem_of_getElem? ht; simp at this; simp; first | omega | grind
        have hall : ([28, 22].all fun u => !Tryd.prog.wantsStandIn u) = true := by kernel_rfl
        exact (show Tryd.prog.wantsStandIn t = false by simpa using List.all_eq_true.1 hall t hm)⟩)
    (by kernel_rfl)
end Go.Proofs.YtpdadlbdloeijaaDoor.CapabMakes
