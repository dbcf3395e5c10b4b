/-
  InstFields holds: for every i and j the law returns true and turns nothing that was there, where the tables of words hold what the program's text lays.
-/
import Derived.Test.YtdgkadoebcdmeaaDoorInstFieldsWays
namespace Go.Proofs.YtdgkadoebcdmeaaDoor.InstFields
open Go.RowKit Words FieldMath InstMath

theorem encV_form (R : Option (BitVec 64)) : ∃ (Y : Int) (B : Bool), encV R = .tuple #[.int .u32 Y, .bool B] := by
  cases R with
  | none => exact ⟨_, _, rfl⟩
  | some y => exact ⟨_, _, rfl⟩
theorem xor_i64 {a b : Int} (a0 : 0 ≤ a) (a1 : a < 32) (b0 : 0 ≤ b) (b1 : b < 32) : bits .xor .i64 a b = ((a.toNat ^^^ b.toNat : Nat) : Int) := by
  have h : bits .xor .i64 a b = IntKind.i64.wrap ((BitVec.ofInt 64 a ^^^ BitVec.ofInt 64 b).toNat : Int) := rfl
  have e1 := ofInt_small a0 (by omega)
  have e2 := ofInt_small b0 (by omega)
  have hl : a.toNat ^^^ b.toNat < 2 ^ 5 := Nat.xor_lt_two_pow (by omega) (by omega)
  rw [h, BitVec.toNat_xor, e1, e2, IntKind.wrap_i64]
  omega
theorem mask5 : ∀ n, n < 32 → (n * 128) &&& 3968 = n * 128 := by decide
theorem put7 {n : Nat} (h : n < 32) : bits .and .u32 (IntKind.u32.wrap (IntKind.u32.wrap (n : Int) * 128)) 3968 = ((n * 2 ^ 7 : Nat) : Int) := by
  have e : IntKind.u32.wrap (IntKind.u32.wrap (n : Int) * 128) = ((n * 128 : Nat) : Int) := by
    rw [IntKind.wrap_u32', IntKind.wrap_u32']; omega
  rw [e, show (3968 : Int) = ((3968 : Nat) : Int) from rfl, u32_and_nat _ _ (by omega) (by omega), mask5 n h]
theorem put15 {n : Nat} (h : n < 32) : IntKind.u32.wrap (IntKind.u32.wrap (n : Int) * 32768) = ((n * 2 ^ 15 : Nat) : Int) := by
  rw [IntKind.wrap_u32', IntKind.wrap_u32']; omega
theorem rd_same {k : Nat} (h1 : 1 ≤ k) (h2 : k ≤ 69) {a b c m a2 : Int} {x y : BitVec 64} (hx : encK k (four a b c m) = some x) (hy : encK k (four a2 b c m) = some y) (hs : nowhere (shp k) 0 = true) : ((x.toNat : Int) != (y.toNat : Int)) = false := by
  rw [enc_other h1 h2 hx hy (o := 0) (fun o' h => by unfold four; split <;> first | rfl | exact absurd rfl h) hs]
  simp
theorem rs_same {k : Nat} (h1 : 1 ≤ k) (h2 : k ≤ 69) {a b c m b2 : Int} {x z : BitVec 64} (hx : encK k (four a b c m) = some x) (hz : encK k (four a b2 c m) = some z) (hs : nowhere (shp k) 1 = true) : ((x.toNat : Int) != (z.toNat : Int)) = false := by
  rw [enc_other h1 h2 hx hz (o := 1) (fun o' h => by unfold four; split <;> first | rfl | exact absurd rfl h) hs]
  simp
theorem rd_turn {k : Nat} (h1 : 1 ≤ k) (h2 : k ≤ 69) {a b c m a2 : Int} {x y : BitVec 64} (hx : encK k (four a b c m) = some x) (hy : encK k (four a2 b c m) = some y) (hs : spot (shp k) 0 7 = true) :
    (bits .xor .u32 (x.toNat : Int) (y.toNat : Int) != bits .and .u32 (IntKind.u32.wrap (IntKind.u32.wrap (bits .xor .i64 a a2) * 128)) 3968) = false := by
  obtain ⟨p1, p2, p3, p4, p5⟩ := xor_spot h1 h2 hx hy (o := 0) (a := 7) (fun o' h => by unfold four; split <;> first | rfl | exact absurd rfl h) hs (by decide) (by decide)
  have hl : a.toNat ^^^ a2.toNat < 2 ^ 5 := Nat.xor_lt_two_pow (by have : a < 32 := p2; omega) (by have : a2 < 32 := p4; omega)
  have e1 := xor_i64 (a := a) (b := a2) p1 p2 p3 p4
  rw [e1, put7 hl, u32_xor_nat _ _ (enc_match h1 h2 hx).1 (enc_match h1 h2 hy).1, p5]
  simp [four]
theorem rs_turn {k : Nat} (h1 : 1 ≤ k) (h2 : k ≤ 69) {a b c m b2 : Int} {x z : BitVec 64} (hx : encK k (four a b c m) = some x) (hz : encK k (four a b2 c m) = some z) (hs : spot (shp k) 1 15 = true) :
    bits .xor .u32 (x.toNat : Int) (z.toNat : Int) = IntKind.u32.wrap (IntKind.u32.wrap (bits .xor .i64 b b2) * 32768) := by
  obtain ⟨p1, p2, p3, p4, p5⟩ := xor_spot h1 h2 hx hz (o := 1) (a := 15) (fun o' h => by unfold four; split <;> first | rfl | exact absurd rfl h) hs (by decide) (by decide)
  have hl : b.toNat ^^^ b2.toNat < 2 ^ 5 := Nat.xor_lt_two_pow (by have : b < 32 := p2; omega) (by have : b2 < 32 := p4; omega)
  have e1 := xor_i64 (a := b) (b := b2) p1 p2 p3 p4
  rw [e1, put15 hl, u32_xor_nat _ _ (enc_match h1 h2 hx).1 (enc_match h1 h2 hz).1, p5]
  rfl
theorem walk (K a b c m K2 a2 b2 c2 m2 : Int) (w : World) (hT : TabW w) (rK : rng K) (ra : rng a) (rb : rng b) (rc : rng c) (rm : rng m) (_ : rng K2) (ra2 : rng a2) (rb2 : rng b2) (_ : rng c2) (_ : rng m2) :
    Calls Tryd.prog 6 #[.agg #[.int .i64 K, .int .i64 a, .int .i64 b, .int .i64 c, .int .i64 m], .agg #[.int .i64 K2, .int .i64 a2, .int .i64 b2, .int .i64 c2, .int .i64 m2]] w (Makes (.bool true) w) := by
  have q9 := fun W (hW : TabW W) => one_any W hW
  by_cases hK : 1 ≤ K ∧ K ≤ 69
  · obtain ⟨k, rfl⟩ : ∃ k : Nat, K = (k : Int) := ⟨K.toNat, by omega⟩
    have k1 : 1 ≤ k := by omega
    have k2 : k ≤ 69 := by omega
    have q1 := fun W (hW : TabW W) => enc_yes k k1 k2 a b c m ra rb rc rm W hW
    have q2 := fun W (hW : TabW W) => enc_yes k k1 k2 a2 b c m ra2 rb rc rm W hW
    have q3 := fun W (hW : TabW W) => enc_yes k k1 k2 a b2 c m ra rb2 rc rm W hW
    have q4 := fun W (_ : TabW W) => shape_makes k ⟨k1, k2⟩ W
    cases hx : encK k (four a b c m) with
    | none =>
      rw [hx] at q1
      obtain ⟨Y, OB, e2⟩ := encV_form (encK k (four a2 b c m))
      obtain ⟨Z, OC, e3⟩ := encV_form (encK k (four a b2 c m))
      rw [e2] at q2
      rw [e3] at q3
      exact walk_a OB OC _ _ _ _ _ _ _ _ _ _ _ _ _ q1 q2 q3 q9 w hT
    | some x =>
      rw [hx, encV_some] at q1
      cases hy : encK k (four a2 b c m) with
      | none =>
        rw [hy] at q2
        obtain ⟨Z, OC, e3⟩ := encV_form (encK k (four a b2 c m))
        rw [e3] at q3
        exact walk_b OC _ _ _ _ _ _ _ _ _ _ _ _ _ q1 q2 q3 q9 w hT
      | some y =>
        rw [hy, encV_some] at q2
        cases hz : encK k (four a b2 c m) with
        | none =>
          rw [hz] at q3
          exact walk_c _ _ _ _ _ _ _ _ _ _ _ _ _ q1 q2 q3 q9 w hT
        | some z =>
          rw [hz, encV_some] at q3
          have hrd := rd_same k1 k2 hx hy
          have hrs := rs_same k1 k2 hx hz
          have hrd2 := rd_turn k1 k2 hx hy
          have hrs2 := rs_turn k1 k2 hx hz
          have hs := shape_of k1 k2
          by_cases s1 : shp k = 83
          · rw [s1] at q4 hrd hrs2
            exact walk_S _ _ _ _ _ _ _ _ _ _ _ _ _ _ _ _ q1 q2 q3 q9 q4 (hrd (by decide +kernel)) rfl rfl rfl (hrs2 (by decide +kernel)) w hT
          · by_cases s2 : shp k = 66
            · rw [s2] at q4 hrd hrs2
              exact walk_B _ _ _ _ _ _ _ _ _ _ _ _ _ _ _ _ q1 q2 q3 q9 q4 (hrd (by decide +kernel)) rfl rfl rfl (hrs2 (by decide +kernel)) w hT
            · by_cases s3 : shp k = 78
              · rw [s3] at q4 hrd hrs
                exact walk_N _ _ _ _ _ _ _ _ _ _ _ _ _ q1 q2 q3 q9 q4 (hrd (by decide +kernel)) (hrs (by decide +kernel)) w hT
              · by_cases s4 : shp k = 85
                · rw [s4] at q4 hrd2 hrs
                  exact walk_U _ _ _ _ _ _ _ _ _ _ _ _ _ _ _ _ _ _ q1 q2 q3 q9 q4 rfl rfl rfl rfl rfl (hrd2 (by decide +kernel)) (hrs (by decide +kernel)) w hT
                · by_cases s5 : shp k = 74
                  · rw [s5] at q4 hrd2 hrs
                    exact walk_J _ _ _ _ _ _ _ _ _ _ _ _ _ _ _ _ _ _ q1 q2 q3 q9 q4 rfl rfl rfl rfl rfl (hrd2 (by decide +kernel)) (hrs (by decide +kernel)) w hT
                  · have n1 : ((shp k : Int) == 83) = false := by simp; omega
                    have n2 : ((shp k : Int) == 66) = false := by simp; omega
                    have n3 : ((shp k : Int) == 78) = false := by simp; omega
                    have n4 : ((shp k : Int) == 85) = false := by simp; omega
                    have n5 : ((shp k : Int) == 74) = false := by simp; omega
                    have n6 : ((shp k : Int) != 83) = true := by simp; omega
                    have n7 : ((shp k : Int) != 66) = true := by simp; omega
                    have hp : spot (shp k) 0 7 = true ∧ spot (shp k) 1 15 = true := by
                      have all : ∀ s, s ∈ [82, 71, 73, 67, 72] → spot s 0 7 = true ∧ spot s 1 15 = true := by decide +kernel
                      refine all _ ?_
                      simp only [IsShape, List.mem_cons, List.not_mem_nil, or_false] at hs ⊢
                      omega
                    exact walk_P _ _ _ _ _ _ _ _ _ _ _ _ _ _ _ _ _ _ _ _ _ _ q1 q2 q3 q9 q4 n1 n2 n3 n4 n5 n6 n7 rfl rfl rfl rfl rfl (hrd2 hp.1) rfl rfl rfl (hrs2 hp.2) w hT
  · have q1 := fun W (_ : TabW W) => enc_no K a b c m hK W
    have q2 := fun W (_ : TabW W) => enc_no K a2 b c m hK W
    have q3 := fun W (_ : TabW W) => enc_no K a b2 c m hK W
    exact walk_a false false _ _ _ _ _ _ _ _ _ _ _ _ _ q1 q2 q3 q9 w hT
open Go.ChangeShapes Go.WideShapes Go.ChangeAt
set_option maxRecDepth 100000 in
theorem walks : Frame.WalksLaid [("mintmark/inst.words", Rows.laid_mintmark_inst_words)] 6 Tryd.f6 := by
  intro H enc W base args ds ps hL hval hA
  rw [Tryd.params6] at hA hval
  obtain ⟨v0, v1, d0, d1, p0, p1, hargs, rfl, rfl, h0, h1⟩ := trodAll_two hA
  obtain rfl : args = #[v0, v1] := by cases args; simp_all
  obtain ⟨cs0, rfl, hf0⟩ := Frame.open_struct (F := 4) (ks := [.inl .i64, .inl .i64, .inl .i64, .inl .i64, .inl .i64]) Tryd.underlying23 (by kernel_rfl) (hval 0 23 v0 rfl rfl) h0
  obtain ⟨z0_0, z0_1, z0_2, z0_3, z0_4, rfl, wz0_0, wz0_1, wz0_2, wz0_3, wz0_4⟩ := open5 hf0
  obtain ⟨cs1, rfl, hf1⟩ := Frame.open_struct (F := 4) (ks := [.inl .i64, .inl .i64, .inl .i64, .inl .i64, .inl .i64]) Tryd.underlying23 (by kernel_rfl) (hval 1 23 v1 rfl rfl) h1
  obtain ⟨z1_0, z1_1, z1_2, z1_3, z1_4, rfl, wz1_0, wz1_1, wz1_2, wz1_3, wz1_4⟩ := open5 hf1
  exact walk z0_0 z0_1 z0_2 z0_3 z0_4 z1_0 z1_1 z1_2 z1_3 z1_4 W (tabW_of_laid hL) wz0_0 wz0_1 wz0_2 wz0_3 wz0_4 wz1_0 wz1_1 wz1_2 wz1_3 wz1_4
set_option maxRecDepth 100000 in
theorem said : Rows.InstFieldsSaid :=
  OpenClaim.holds_of_wide 6 Tryd.f6 rfl rfl rfl rfl rfl rfl rfl ⟨rfl, rfl, rfl, rfl, rfl⟩ rfl rfl rfl rfl rfl (by kernel_rfl) Tryd.func6 (by kernel_rfl)
    (of_decide_eq_true (by kernel_rfl)) (by unfold Func.isWrapper; first | (rw [if_pos (by decide +kernel)]; kernel_rfl) | (rw [if_neg (by decide +kernel)]; exact ⟨rfl, rfl⟩))
    (fun os started H enc _ => Frame.liftLaid [("mintmark/inst.words", Rows.laid_mintmark_inst_words)] os started H enc _ _ Rows.instFieldsSpec 4 (by kernel_rfl) Tryd.func6 Tryd.underlying4 (by kernel_rfl) rfl (by kernel_rfl)
      (fun ds h => by match ds, h with | [_, _], _ => exact ⟨rfl, rfl, rfl⟩)
      (ChangeSpec.witness_shaped (enc := enc) (C := Tryd.checked) (os := os) (X := fun w _ => laidMetH Tryd.prog [("mintmark/inst.words", Rows.laid_mintmark_inst_words)] w) false (World.doorLaid Tryd.prog 400 os) #[.agg #[.int .i64 0, .int .i64 0, .int .i64 0, .int .i64 0, .int .i64 0], .agg #[.int .i64 0, .int .i64 0, .int .i64 0, .int .i64 0, .int .i64 0]] 8 rfl (World.shaped_of_RefB (by kernel_rfl) (by kernel_rfl)) (by kernel_rfl) (by kernel_rfl) (by kernel_rfl) (door_met1 os _)) walks)
set_option maxRecDepth 100000 in
theorem proved : Rows.InstFieldsCardSaid :=
  Claim7.holds_tied_plain_at .later [] [.data] true _ false said (fun _ h => by cases h) (by kernel_rfl) (fun _ h => by cases h) instFields_row_tie rfl ⟨rfl, rfl⟩ (by kernel_rfl) rfl
    (fun f fn hf hfn => by
      obtain rfl : f = 6 := Option.some.inj ((show Tryd.prog.funcNamed "mintmark/mintmarklaw13.InstFields" = some 6 by kernel_rfl).symm.trans hf) |>.symm
      obtain rfl : fn = Tryd.f6 := (Option.some.inj (Tryd.func6.symm.trans hfn)).symm
      exact ⟨by kernel_rfl, fun j t ht => by
        rw [Tryd.params6] at ht
        have hm : t ∈ [23] := by have := Array.mem_of_getElem? ht; simp at this; simp; first | omega | grind
        have hall : ([23].all fun u => !Tryd.prog.wantsStandIn u) = true := by kernel_rfl
        exact (show Tryd.prog.wantsStandIn t = false by simpa using List.all_eq_true.1 hall t hm)⟩)
    (by kernel_rfl)
end Go.Proofs.YtdgkadoebcdmeaaDoor.InstFields
