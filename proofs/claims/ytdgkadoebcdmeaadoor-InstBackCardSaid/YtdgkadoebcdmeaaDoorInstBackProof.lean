/-
  InstBack holds: for every i and w the law returns true and turns nothing that was there, where the tables of names and words hold what the program's text lays.
-/
import Derived.Test.YtdgkadoebcdmeaaDoorInstBackWays
namespace Go.Proofs.YtdgkadoebcdmeaaDoor.InstBack
open Go.RowKit Words FieldMath InstMath

theorem back (x : BitVec 64) (hx : x.toNat < 4294967296) (j : Nat) (hj : IsDec x (some j)) : ∀ W, Tab2 W → Calls Tryd.prog 7 #[instV j (opsI j x 0) (opsI j x 1) (opsI j x 2) (opsI j x 3)] W (Makes (.tuple #[.int .u32 (x.toNat : Int), .bool true]) W) := fun W hW => by
  have := enc_yes j hj.1 hj.2.1 (opsI j x 0) (opsI j x 1) (opsI j x 2) (opsI j x 3) (rng_ops x 0) (rng_ops x 1) (rng_ops x 2) (rng_ops x 3) W hW.2
  rwa [four_ops hj.1 hj.2.1, enc_read hj.1 hj.2.1 hx hj.2.2, encV_some] at this
theorem walk (K a b c m X : Int) (w : World) (hT : Tab2 w) (rK : rng K) (ra : rng a) (rb : rng b) (rc : rng c) (rm : rng m) (hX : 0 ≤ X ∧ X < 4294967296) :
    Calls Tryd.prog 4 #[.agg #[.int .i64 K, .int .i64 a, .int .i64 b, .int .i64 c, .int .i64 m], .int .u32 X] w (Makes (.bool true) w) := by
  obtain ⟨x, rfl, hx⟩ := as_word hX
  obtain ⟨dx, hdx⟩ := dec_ex x
  have q5 := fun W (hW : Tab2 W) => dec_any x hx dx hdx W hW.2
  have q9 := fun W (hW : Tab2 W) => one_any W hW.2
  by_cases hK : 1 ≤ K ∧ K ≤ 69
  · obtain ⟨k, rfl⟩ : ∃ k : Nat, K = (k : Int) := ⟨K.toNat, by omega⟩
    have k1 : 1 ≤ k := by omega
    have k2 : k ≤ 69 := by omega
    have q1 := fun W (hW : Tab2 W) => enc_yes k k1 k2 a b c m ra rb rc rm W hW.2
    have q4 := fun W (_ : Tab2 W) => shape_makes k ⟨k1, k2⟩ W
    have q7 := name_makes k ⟨k1, k2⟩
    have q8 := find_makes k (by omega)
    have hk : ((k : Int) == 0) = false := by simp; omega
    have hs : ((shp k : Int) == 0) = false := by
      have : shp k ≠ 0 := each_shape (P := fun s => s ≠ 0) (by decide) (shape_of k1 k2)
      simp; omega
    cases hR : encK k (four a b c m) with
    | none =>
      rw [hR] at q1
      cases dx with
      | none => exact walk_yf _ _ _ _ _ _ _ _ _ _ _ _ _ _ q1 q4 q5 q7 q8 q9 hk hs w hT
      | some j =>
        have q6 := back x hx j hdx
        exact walk_yt _ _ _ _ _ _ _ _ _ _ _ _ _ _ q1 q4 q5 q6 q7 q8 q9 hk hs w hT
    | some y =>
      rw [hR, encV_some] at q1
      have hy := enc_match k1 k2 hR
      have q2 := fun W (hW : Tab2 W) => dec_any y hy.1 (some k) ⟨k1, k2, hy.2⟩ W hW.2
      have q3 := back y hy.1 k ⟨k1, k2, hy.2⟩
      have hr := read_enc k1 k2 hR (fun o => by unfold four; split <;> assumption)
      rw [decV_some] at q2
      rw [hr 0, hr 1, hr 2, hr 3] at q2 q3
      by_cases s1 : shp k = 82
      · rw [s1] at q2 q3 q4
        rw [show has 82 0 = true by decide, show has 82 1 = true by decide, show has 82 2 = true by decide, show has 82 3 = false by decide] at q2 q3
        cases dx with
        | none => exact walk_Rf _ _ _ _ _ _ _ _ _ _ _ _ _ q1 q2 q3 q4 q5 q7 q8 q9 hk w hT
        | some j =>
          have q6 := back x hx j hdx
          exact walk_Rt _ _ _ _ _ _ _ _ _ _ _ _ _ q1 q2 q3 q4 q5 q6 q7 q8 q9 hk w hT
      · by_cases s2 : shp k = 73
        · rw [s2] at q2 q3 q4
          rw [show has 73 0 = true by decide, show has 73 1 = true by decide, show has 73 2 = false by decide, show has 73 3 = true by decide] at q2 q3
          cases dx with
          | none => exact walk_If _ _ _ _ _ _ _ _ _ _ _ _ _ q1 q2 q3 q4 q5 q7 q8 q9 hk w hT
          | some j =>
            have q6 := back x hx j hdx
            exact walk_It _ _ _ _ _ _ _ _ _ _ _ _ _ q1 q2 q3 q4 q5 q6 q7 q8 q9 hk w hT
        · by_cases s3 : shp k = 66
          · rw [s3] at q2 q3 q4
            rw [show has 66 0 = false by decide, show has 66 1 = true by decide, show has 66 2 = true by decide, show has 66 3 = true by decide] at q2 q3
            cases dx with
            | none => exact walk_Bf _ _ _ _ _ _ _ _ _ _ _ _ _ q1 q2 q3 q4 q5 q7 q8 q9 hk w hT
            | some j =>
              have q6 := back x hx j hdx
              exact walk_Bt _ _ _ _ _ _ _ _ _ _ _ _ _ q1 q2 q3 q4 q5 q6 q7 q8 q9 hk w hT
          · have n1 : ((shp k : Int) == 82) = false := by simp; omega
            have n2 : ((shp k : Int) == 73) = false := by simp; omega
            have n3 : ((shp k : Int) == 66) = false := by simp; omega
            cases dx with
            | none => exact walk_Xf _ _ _ _ _ _ _ _ _ _ _ _ _ _ _ _ _ _ q1 q2 q3 q4 q5 q7 q8 q9 hk hs n1 n2 n3 w hT
            | some j =>
              have q6 := back x hx j hdx
              exact walk_Xt _ _ _ _ _ _ _ _ _ _ _ _ _ _ _ _ _ _ q1 q2 q3 q4 q5 q6 q7 q8 q9 hk hs n1 n2 n3 w hT
  · have q1 := fun W (_ : Tab2 W) => enc_no K a b c m hK W
    have q4 := fun W (_ : Tab2 W) => shape_makes0 K hK W
    have q7 := fun W (_ : Tab2 W) => name_makes0 K hK W
    have q8 := find_makes 0 (by omega)
    cases dx with
    | none => exact walk_nf _ _ _ _ _ _ _ _ _ _ _ _ _ q1 q4 q5 q7 q8 q9 w hT
    | some j =>
      have q6 := back x hx j hdx
      exact walk_nt _ _ _ _ _ _ _ _ _ _ _ _ _ q1 q4 q5 q6 q7 q8 q9 w hT
open Go.ChangeShapes Go.WideShapes Go.ChangeAt
set_option maxRecDepth 100000 in
theorem walks : Frame.WalksLaid [("mintmark/inst.names", Rows.laid_mintmark_inst_names), ("mintmark/inst.words", Rows.laid_mintmark_inst_words)] 4 Tryd.f4 := by
  intro H enc W base args ds ps hL hval hA
  rw [Tryd.params4] at hA hval
  obtain ⟨v0, v1, d0, d1, p0, p1, hargs, rfl, rfl, h0, h1⟩ := trodAll_two hA
  obtain rfl : args = #[v0, v1] := by cases args; simp_all
  obtain ⟨cs0, rfl, hf0⟩ := Frame.open_struct (F := 4) (ks := [.inl .i64, .inl .i64, .inl .i64, .inl .i64, .inl .i64]) Tryd.underlying23 (by kernel_rfl) (hval 0 23 v0 rfl rfl) h0
  obtain ⟨z0_0, z0_1, z0_2, z0_3, z0_4, rfl, wz0_0, wz0_1, wz0_2, wz0_3, wz0_4⟩ := open5 hf0
  obtain ⟨x1, rfl, rfl, rfl, w1⟩ := open_int Tryd.underlying24 (hval 1 24 v1 rfl rfl) h1
  exact walk z0_0 z0_1 z0_2 z0_3 z0_4 x1 W (tabs_of_laid2 hL) wz0_0 wz0_1 wz0_2 wz0_3 wz0_4 (wf_u32 w1)
set_option maxRecDepth 100000 in
theorem said : Rows.InstBackSaid :=
  OpenClaim.holds_of_wide 4 Tryd.f4 rfl rfl rfl rfl rfl rfl rfl ⟨rfl, rfl, rfl, rfl, rfl⟩ rfl rfl rfl rfl rfl (by kernel_rfl) Tryd.func4 (by kernel_rfl)
    (of_decide_eq_true (by kernel_rfl)) (by unfold Func.isWrapper; first | (rw [if_pos (by decide +kernel)]; kernel_rfl) | (rw [if_neg (by decide +kernel)]; exact ⟨rfl, rfl⟩))
    (fun os started H enc _ => Frame.liftLaid [("mintmark/inst.names", Rows.laid_mintmark_inst_names), ("mintmark/inst.words", Rows.laid_mintmark_inst_words)] os started H enc _ _ Rows.instBackSpec 4 (by kernel_rfl) Tryd.func4 Tryd.underlying4 (by kernel_rfl) rfl (by kernel_rfl)
      (fun ds h => by match ds, h with | [_, _], _ => exact ⟨rfl, rfl, rfl⟩)
      (ChangeSpec.witness_shaped (enc := enc) (C := Tryd.checked) (os := os) (X := fun w _ => laidMetH Tryd.prog [("mintmark/inst.names", Rows.laid_mintmark_inst_names), ("mintmark/inst.words", Rows.laid_mintmark_inst_words)] w) false (World.doorLaid Tryd.prog 400 os) #[.agg #[.int .i64 0, .int .i64 0, .int .i64 0, .int .i64 0, .int .i64 0], .int .u32 0] 8 rfl (World.shaped_of_RefB (by kernel_rfl) (by kernel_rfl)) (by kernel_rfl) (by kernel_rfl) (by kernel_rfl) (door_met2 os _)) walks)
set_option maxRecDepth 100000 in
theorem proved : Rows.InstBackCardSaid :=
  Claim7.holds_tied_plain_at .later [] [.data, .data] true _ false said (fun _ h => by cases h) (by kernel_rfl) (fun _ h => by cases h) instBack_row_tie rfl ⟨rfl, rfl⟩ (by kernel_rfl) rfl
    (fun f fn hf hfn => by
      obtain rfl : f = 4 := Option.some.inj ((show Tryd.prog.funcNamed "mintmark/mintmarklaw13.InstBack" = some 4 by kernel_rfl).symm.trans hf) |>.symm
      obtain rfl : fn = Tryd.f4 := (Option.some.inj (Tryd.func4.symm.trans hfn)).symm
      exact ⟨by kernel_rfl, fun j t ht => by
        rw [Tryd.params4] at ht
        have hm : t ∈ [23, 24] := by have := Array.mem_of_getElem? ht; simp at this; simp; first | omega | grind
        have hall : ([23, 24].all fun u => !Tryd.prog.wantsStandIn u) = true := by kernel_rfl
        exact (show Tryd.prog.wantsStandIn t = false by simpa using List.all_eq_true.1 hall t hm)⟩)
    (by kernel_rfl)
end Go.Proofs.YtdgkadoebcdmeaaDoor.InstBack
