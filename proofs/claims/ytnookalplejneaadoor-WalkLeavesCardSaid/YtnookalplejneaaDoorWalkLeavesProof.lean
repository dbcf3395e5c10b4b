/-
  WalkLeaves holds: for every at, other and e the law returns true and turns nothing that was there, where the table of places holds what the program's text lays.
-/
import Derived.Test.YtnookalplejneaaDoorWalkLeavesA
import Derived.Test.YtnookalplejneaaDoorWalkLeavesB
import Derived.Test.YtnookalplejneaaDoorWalkLeavesC
namespace Go.Proofs.YtnookalplejneaaDoor.WalkLeaves
open Go.RowKit Words FieldMath PteMath

theorem low_ex (x : Int) (m k : Nat) (hm : m + 1 = 2 ^ k) (hk : k < 63) : ∃ i : Nat, i < 2 ^ k ∧ bits .and .i64 x (m : Int) = (i : Int) := by
  have h := iand_low x m k hm hk
  have hp := Nat.two_pow_pos k
  have h1 : 0 ≤ x % ((2 ^ k : Nat) : Int) := Int.emod_nonneg _ (by omega)
  have h2 : x % ((2 ^ k : Nat) : Int) < ((2 ^ k : Nat) : Int) := Int.emod_lt_of_pos _ (by omega)
  exact ⟨(x % ((2 ^ k : Nat) : Int)).toNat, by omega, by rw [h]; omega⟩
theorem lays_three (b0 b1 b2 b3 b4 b5 b6 b7 b8 b9 b10 b11 : Bool) (i j k : Nat) (hi : i < 512) (hj : j < 512) (hk : k < 512) : laidM (([⟨0, (i : Int), true, false, false, false, false, false, false, false, false, false, false, false, 1#64⟩, ⟨1, (j : Int), true, false, false, false, false, false, false, false, false, false, false, false, 2#64⟩, ⟨2, (k : Int), b0, b1, b2, b3, b4, b5, b6, b7, b8, b9, b10, b11, 7#64⟩] : List LayD).take 60) = putM (putM (putM (fun _ _ => 0#64) 0 i (tabW 1#64)) 1 j (tabW 2#64)) 2 k (wk (bs b0 b1 b2 b3 b4 b5 b6 b7 b8 b9 b10 b11) 7#64 12) := by
  show putM (putM (putM (fun _ _ => 0#64) 0 ((i : Int) % 512).toNat (tabW 1#64)) 1 ((j : Int) % 512).toNat (tabW 2#64)) 2 ((k : Int) % 512).toNat (wk (bs b0 b1 b2 b3 b4 b5 b6 b7 b8 b9 b10 b11) 7#64 12) = _
  rw [show ((i : Int) % 512).toNat = i by omega, show ((j : Int) % 512).toNat = j by omega, show ((k : Int) % 512).toNat = k by omega]
theorem lays_one (b0 b1 b2 b3 b4 b5 b6 b7 b8 b9 b10 b11 : Bool) (i : Nat) (hi : i < 512) : laidM (([⟨0, (i : Int), b0, b1, b2, b3, b4, b5, b6, b7, b8, b9, b10, b11, 7#64⟩] : List LayD).take 60) = putM (fun _ _ => 0#64) 0 i (wk (bs b0 b1 b2 b3 b4 b5 b6 b7 b8 b9 b10 b11) 7#64 12) := by
  show putM (fun _ _ => 0#64) 0 ((i : Int) % 512).toNat (wk (bs b0 b1 b2 b3 b4 b5 b6 b7 b8 b9 b10 b11) 7#64 12) = _
  rw [show ((i : Int) % 512).toNat = i by omega]
theorem walk_in_three (i j k a b c : Nat) (V : BitVec 64) (ha : a < 256) (hb : b < 512) (hc : c < 512) : walkM (putM (putM (putM (fun _ _ => 0#64) 0 i (tabW 1#64)) 1 j (tabW 2#64)) 2 k V) 8 0 (placeN a b c) = if (a = i ∧ b = j ∧ c = k) ∧ goodQ V true 8 = true then some (V, 2 * 4096 + 8 * k) else none := by
  obtain ⟨h0, h1, h2, h3⟩ := place_idx a b c ha hb hc
  rw [walk_three _ _ _ h0 (by omega), h1, h2, h3]
  rw [putM_else _ 2 k 0 a _ (by omega), putM_else _ 1 j 0 a _ (by omega)]
  by_cases e1 : a = i
  · subst e1
    rw [putM_same, if_pos good_1, frame_1, putM_else _ 2 k 1 b _ (by omega)]
    by_cases e2 : b = j
    · subst e2
      rw [putM_same, if_pos good_2, frame_2]
      by_cases e3 : c = k
      · subst e3
        rw [putM_same]
        by_cases e4 : goodQ V true 8 = true
        · rw [if_pos e4, if_pos ⟨⟨rfl, rfl, rfl⟩, e4⟩]
        · rw [if_neg e4, if_neg (fun h => e4 h.2)]
      · rw [putM_else _ 2 k 2 c _ (by omega), putM_else _ 1 b 2 c _ (by omega), putM_else _ 0 a 2 c _ (by omega), good_zero, if_neg (by simp), if_neg (fun h => e3 h.1.2.2)]
    · rw [putM_else _ 1 j 1 b _ (by omega), putM_else _ 0 a 1 b _ (by omega), good_zero, if_neg (by simp), if_neg (fun h => e2 h.1.2.1)]
  · rw [putM_else _ 0 i 0 a _ (by omega), good_zero, if_neg (by simp), if_neg (fun h => e1 h.1.1)]
theorem walk_in_one (i b c : Nat) (V : BitVec 64) (hV : (getB V 10 44).toNat = 7) (ha : i < 256) (hb : b < 512) (hc : c < 512) : walkM (putM (fun _ _ => 0#64) 0 i V) 8 0 (placeN i b c) = none := by
  obtain ⟨h0, h1, h2, h3⟩ := place_idx i b c ha hb hc
  rw [walk_three _ _ _ h0 (by omega), h1, h2, h3, putM_same, hV, putM_else _ 0 i 7 b _ (by omega), good_zero]
  by_cases g : goodQ V false 8 = true
  · rw [if_pos g, if_neg (by simp)]
  · rw [if_neg g]
theorem three (x y z i j k : Int) : (((x != i) = true ∨ ((x != i) = false ∧ (y != j) = true) ∨ ((x != i) = false ∧ (y != j) = false ∧ (z != k) = true)) ∧ ¬ (x = i ∧ y = j ∧ z = k)) ∨ (x = i ∧ y = j ∧ z = k) := by
  by_cases h1 : x = i
  · by_cases h2 : y = j
    · by_cases h3 : z = k
      · exact .inr ⟨h1, h2, h3⟩
      · exact .inl ⟨.inr (.inr ⟨by simp [h1], by simp [h2], by simp [h3]⟩), fun h => h3 h.2.2⟩
    · exact .inl ⟨.inr (.inl ⟨by simp [h1], by simp [h2]⟩), fun h => h2 h.2.1⟩
  · exact .inl ⟨.inl (by simp [h1]), fun h => h1 h.1⟩
theorem frame_7 (f : Nat → Bool) : (getB (wk f 7#64 12) 10 44).toNat = 7 := by
  rw [word_frame]
  rfl
theorem frame_7w (f : Nat → Bool) : getB (wk f 7#64 12) 10 44 = 7#64 := by
  rw [word_frame]
  rfl
theorem walk (A0 A1 A2 O0 O1 O2 : Int) (b0 b1 b2 b3 b4 b5 b6 b7 b8 b9 b10 b11 : Bool) (F : BitVec 64) (w : World) (hT : Tab w) : Calls Tryd.prog 7 #[.agg #[.int .i64 A0, .int .i64 A1, .int .i64 A2], .agg #[.int .i64 O0, .int .i64 O1, .int .i64 O2], .agg #[.bool b0, .bool b1, .bool b2, .bool b3, .bool b4, .bool b5, .bool b6, .bool b7, .bool b8, .bool b9, .bool b10, .bool b11, .int .u64 (F.toNat : Int)]] w (Makes (.bool true) w) := by
  obtain ⟨i, hi, k0⟩ := low_ex A0 255 8 rfl (by omega)
  obtain ⟨j, hj, k1⟩ := low_ex A1 511 9 rfl (by omega)
  obtain ⟨k, hk, k2⟩ := low_ex A2 511 9 rfl (by omega)
  obtain ⟨x, hx, k3⟩ := low_ex O0 255 8 rfl (by omega)
  obtain ⟨y, hy, k4⟩ := low_ex O1 511 9 rfl (by omega)
  obtain ⟨z, hz, k5⟩ := low_ex O2 511 9 rfl (by omega)
  have p8 : (2 : Nat) ^ 8 = 256 := rfl
  have p9 : (2 : Nat) ^ 9 = 512 := rfl
  rw [p8] at hi hx
  rw [p9] at hj hk hy hz
  have cp := fun W => place_any i j k hi hj hk W
  have cq := fun W => place_any x y z hx hy hz W
  have pA : (BitVec.ofNat 64 (placeN i j k)).toNat = placeN i j k := by
    have := (place_idx i j k hi hj hk).1
    rw [BitVec.toNat_ofNat, Nat.mod_eq_of_lt (by omega)]
  have pB : (BitVec.ofNat 64 (placeN x y z)).toNat = placeN x y z := by
    have := (place_idx x y z hx hy hz).1
    rw [BitVec.toNat_ofNat, Nat.mod_eq_of_lt (by omega)]
  have c1 := fun b W h hr => laid_row b 3 ([⟨0, (i : Int), true, false, false, false, false, false, false, false, false, false, false, false, 1#64⟩, ⟨1, (j : Int), true, false, false, false, false, false, false, false, false, false, false, false, 2#64⟩, ⟨2, (k : Int), b0, b1, b2, b3, b4, b5, b6, b7, b8, b9, b10, b11, 7#64⟩] : List LayD) rfl _ rfl _ rfl W h hr
  have c8 := fun b W h hr => laid_row b 1 ([⟨0, (i : Int), b0, b1, b2, b3, b4, b5, b6, b7, b8, b9, b10, b11, 7#64⟩] : List LayD) rfl _ rfl _ rfl W h hr
  rw [lays_three b0 b1 b2 b3 b4 b5 b6 b7 b8 b9 b10 b11 i j k (by omega) hj hk] at c1
  rw [lays_one b0 b1 b2 b3 b4 b5 b6 b7 b8 b9 b10 b11 i (by omega)] at c8
  have c2 := fun R N W h hM => walk_any R N 8 (by omega) (putM (putM (putM (fun _ _ => 0#64) 0 i (tabW 1#64)) 1 j (tabW 2#64)) 2 k (wk (bs b0 b1 b2 b3 b4 b5 b6 b7 b8 b9 b10 b11) 7#64 12)) 0#64 (BitVec.ofNat 64 (placeN i j k)) W h hM
  have c3 := fun R N W h hM => walk_any R N 8 (by omega) (putM (putM (putM (fun _ _ => 0#64) 0 i (tabW 1#64)) 1 j (tabW 2#64)) 2 k (wk (bs b0 b1 b2 b3 b4 b5 b6 b7 b8 b9 b10 b11) 7#64 12)) 0#64 (BitVec.ofNat 64 (placeN x y z)) W h hM
  have c9 := fun R N W h hM => walk_any R N 8 (by omega) (putM (fun _ _ => 0#64) 0 i (wk (bs b0 b1 b2 b3 b4 b5 b6 b7 b8 b9 b10 b11) 7#64 12)) 0#64 (BitVec.ofNat 64 (placeN i j k)) W h hM
  rw [show (0#64).toNat = 0 from rfl, pA, walk_in_three i j k i j k (wk (bs b0 b1 b2 b3 b4 b5 b6 b7 b8 b9 b10 b11) 7#64 12) hi hj hk] at c2
  rw [show (0#64).toNat = 0 from rfl, pB, walk_in_three i j k x y z (wk (bs b0 b1 b2 b3 b4 b5 b6 b7 b8 b9 b10 b11) 7#64 12) hx hy hz] at c3
  rw [show (0#64).toNat = 0 from rfl, pA, walk_in_one i j k (wk (bs b0 b1 b2 b3 b4 b5 b6 b7 b8 b9 b10 b11) 7#64 12) (frame_7 _) hi hj hk] at c9
  have c4 := fun W => leaf_any b0 b1 b2 b3 b4 b5 b6 b7 b8 b9 b10 b11 7#64 W
  have c5 := fun W h => right_any b0 b1 b2 b3 b4 b5 b6 b7 b8 b9 b10 b11 7#64 W h
  have c6 := fun W h => word_any b0 b1 b2 b3 b4 b5 b6 b7 b8 b9 b10 b11 7#64 W h
  have c7 := fun W h => ofword_any b0 b1 b2 b3 b4 b5 b6 b7 b8 b9 b10 b11 7#64 W h
  have co := fun W h => one_any W h
  have hg := good_word b0 b1 b2 b3 b4 b5 b6 b7 b8 b9 b10 b11 true 7#64 8 (by decide) (by omega)
  rw [show ((7#64).toNat : Int) = 7 from rfl] at c4 c5 c6 hg
  rw [show (((7#64).toNat % 17592186044416 : Nat) : Int) = 7 from rfl] at c7
  have hno : (b0 && (b1 || b2 || b3)) = false ∨ rightQ b0 b1 b2 b3 b4 b5 b6 b7 b8 b9 b10 b11 7 = false → goodQ (wk (bs b0 b1 b2 b3 b4 b5 b6 b7 b8 b9 b10 b11) 7#64 12) true 8 = false := fun h => by
    rw [hg]
    rcases h with h | h
    · rw [h]; simp
    · rw [h]; simp
  have hhd : ∀ q : Int, q = 1 → ((((x : Int) != i) = true ∨ (((x : Int) != i) = false ∧ ((y : Int) != j) = true) ∨ (((x : Int) != i) = false ∧ ((y : Int) != j) = false ∧ ((z : Int) != k) = true)) ∧ q = 1) ∨ (((x : Int) != i) = false ∧ ((y : Int) != j) = false ∧ ((z : Int) != k) = false) := fun q hq => by
    rcases three x y z i j k with ⟨h, _⟩ | ⟨h1, h2, h3⟩
    · exact .inl ⟨h, hq⟩
    · exact .inr ⟨by simp [h1], by simp [h2], by simp [h3]⟩
  cases hL : (b0 && (b1 || b2 || b3)) with
  | false =>
    rw [hL] at c4
    rw [hno (.inl hL), if_neg (by simp)] at c2 c3
    exact way_leaf b0 b1 b2 b3 b4 b5 b6 b7 b8 b9 b10 b11 _ _ _ _ _ _ _ _ _ _ _ _ _ _ _ _ _ _ _ _ _ _ _ _ _ _ _ _ _ _ _ _ cp cq c1 c2 c3 c4 c8 c9 co k0 k1 k2 k3 k4 k5 (hhd 1 rfl) w hT
  | true =>
    rw [hL] at c4
    cases hR : rightQ b0 b1 b2 b3 b4 b5 b6 b7 b8 b9 b10 b11 7 with
    | false =>
      rw [hR] at c5
      rw [hno (.inr hR), if_neg (by simp)] at c2 c3
      exact way_right b0 b1 b2 b3 b4 b5 b6 b7 b8 b9 b10 b11 _ _ _ _ _ _ _ _ _ _ _ _ _ _ _ _ _ _ _ _ _ _ _ _ _ _ _ _ _ _ _ _ cp cq c1 c2 c3 c4 c5 c8 c9 co k0 k1 k2 k3 k4 k5 (hhd 1 rfl) w hT
    | true =>
      rw [hR] at c5
      have hb0 : b0 = true := by cases b0 <;> simp_all
      have hgt : goodQ (wk (bs b0 b1 b2 b3 b4 b5 b6 b7 b8 b9 b10 b11) 7#64 12) true 8 = true := by
        rw [hg, hR, hL, hb0]
        rfl
      obtain ⟨w0, w1, w2, w3, w4, w5, w6, w7, w8, w9, w10, w11⟩ := word_bits b0 b1 b2 b3 b4 b5 b6 b7 b8 b9 b10 b11 7#64
      rw [if_pos ⟨⟨rfl, rfl, rfl⟩, hgt⟩] at c2
      by_cases he : (x : Int) = i ∧ (y : Int) = j ∧ (z : Int) = k
      · obtain ⟨e1, e2, e3⟩ := he
        rw [if_pos ⟨⟨by omega, by omega, by omega⟩, hgt⟩] at c3
        simp only [walkV, frame_7w, w0, w1, w2, w3, w4, w5, w6, w7, w8, w9, w10, w11] at c2 c3
        exact way_good b0 b1 b2 b3 b4 b5 b6 b7 b8 b9 b10 b11 _ _ _ _ _ _ _ _ _ _ _ _ _ _ _ _ _ _ _ _ _ _ _ _ _ _ _ _ _ _ _ _ _ _ cp cq c1 c2 c3 c4 c5 c6 c7 c8 c9 co k0 k1 k2 k3 k4 k5 (.inr ⟨by simp [e1], by simp [e2], by simp [e3]⟩) w hT
      · rw [if_neg (fun h => he (by omega))] at c3
        simp only [walkV, frame_7w, w0, w1, w2, w3, w4, w5, w6, w7, w8, w9, w10, w11] at c2
        exact way_good b0 b1 b2 b3 b4 b5 b6 b7 b8 b9 b10 b11 _ _ _ _ _ _ _ _ _ _ _ _ _ _ _ _ _ _ _ _ _ _ _ _ _ _ _ _ _ _ _ _ _ _ cp cq c1 c2 c3 c4 c5 c6 c7 c8 c9 co k0 k1 k2 k3 k4 k5 (hhd 1 rfl) w hT

open Go.ChangeShapes Go.WideShapes Go.ChangeAt
set_option maxRecDepth 100000 in
theorem walks : Frame.WalksLaid [("mintmark/pte.places", Rows.laid_mintmark_pte_places)] 7 Tryd.f7 := by
  intro H enc W base args ds ps hL hval hA
  rw [Tryd.params7] at hA hval
  obtain ⟨v0, v1, v2, d0, d1, d2, p0, p1, p2, hargs, rfl, rfl, h0, h1, h2⟩ := trodAll_three hA
  obtain rfl : args = #[v0, v1, v2] := by cases args; simp_all
  obtain ⟨zs0, rfl, hl0, hz0⟩ := Frame.open_arr Tryd.underlying60 Tryd.underlying3 (by kernel_rfl) (by kernel_rfl) (hval 0 60 v0 rfl rfl) h0
  obtain ⟨z0_0, z0_1, z0_2, rfl⟩ := Frame.arr3 hl0
  obtain ⟨zs1, rfl, hl1, hz1⟩ := Frame.open_arr Tryd.underlying60 Tryd.underlying3 (by kernel_rfl) (by kernel_rfl) (hval 1 60 v1 rfl rfl) h1
  obtain ⟨z1_0, z1_1, z1_2, rfl⟩ := Frame.arr3 hl1
  obtain ⟨cs2, rfl, hf2⟩ := Frame.open_struct (F := 4) (ks := [.inr false, .inr false, .inr false, .inr false, .inr false, .inr false, .inr false, .inr false, .inr false, .inr false, .inr false, .inr false, .inl .u64]) Tryd.underlying32 (by kernel_rfl) (hval 2 32 v2 rfl rfl) h2
  obtain ⟨z2_0, z2_1, z2_2, z2_3, z2_4, z2_5, z2_6, z2_7, z2_8, z2_9, z2_10, z2_11, Z2_12, rfl⟩ := open_ent hf2
  exact walk z0_0 z0_1 z0_2 z1_0 z1_1 z1_2 z2_0 z2_1 z2_2 z2_3 z2_4 z2_5 z2_6 z2_7 z2_8 z2_9 z2_10 z2_11 Z2_12 W (tab_of_laid hL)
set_option maxRecDepth 100000 in
theorem said : Rows.WalkLeavesSaid :=
  OpenClaim.holds_of_wide 7 Tryd.f7 rfl rfl rfl rfl rfl rfl rfl ⟨rfl, rfl, rfl, rfl, rfl⟩ rfl rfl rfl rfl rfl (by kernel_rfl) Tryd.func7 (by kernel_rfl)
    (of_decide_eq_true (by kernel_rfl)) (by unfold Func.isWrapper; first | (rw [if_pos (by decide +kernel)]; kernel_rfl) | (rw [if_neg (by decide +kernel)]; exact ⟨rfl, rfl⟩))
    (fun os started H enc _ => Frame.liftLaid [("mintmark/pte.places", Rows.laid_mintmark_pte_places)] os started H enc _ _ Rows.walkLeavesSpec 4 (by kernel_rfl) Tryd.func7 Tryd.underlying4 (by kernel_rfl) rfl (by kernel_rfl)
      (fun ds h => by match ds, h with | [_, _, _], _ => exact ⟨rfl, rfl, rfl⟩)
      (ChangeSpec.witness_shaped (enc := enc) (C := Tryd.checked) (os := os) (X := fun w _ => laidMetH Tryd.prog [("mintmark/pte.places", Rows.laid_mintmark_pte_places)] w) false (World.doorLaid Tryd.prog 400 os) #[.agg #[.int .i64 0, .int .i64 0, .int .i64 0], .agg #[.int .i64 0, .int .i64 0, .int .i64 0], .agg #[.bool false, .bool false, .bool false, .bool false, .bool false, .bool false, .bool false, .bool false, .bool false, .bool false, .bool false, .bool false, .int .u64 0]] 8 rfl (World.shaped_of_RefB (by kernel_rfl) (by kernel_rfl)) (by kernel_rfl) (by kernel_rfl) (by kernel_rfl) (door_met os _)) walks)
set_option maxRecDepth 100000 in
theorem proved : Rows.WalkLeavesCardSaid :=
  Claim7.holds_tied_plain_at .later [] [.data] true _ false said (fun _ h => by cases h) (by kernel_rfl) (fun _ h => by cases h) walkLeaves_row_tie rfl ⟨rfl, rfl⟩ (by kernel_rfl) rfl
    (fun f fn hf hfn => by
      obtain rfl : f = 7 := Option.some.inj ((show Tryd.prog.funcNamed "mintmark/mintmarklaw10.WalkLeaves" = some 7 by kernel_rfl).symm.trans hf) |>.symm
      obtain rfl : fn = Tryd.f7 := (Option.some.inj (Tryd.func7.symm.trans hfn)).symm
      exact ⟨by kernel_rfl, fun j t ht => by
        rw [Tryd.params7] at ht
        have hm : t ∈ [60, 32] := by have := Array.mem_of_getElem? ht; simp at this; simp; first | omega | grind
        have hall : ([60, 32].all fun u => !Tryd.prog.wantsStandIn u) = true := by kernel_rfl
        exact (show Tryd.prog.wantsStandIn t = false by simpa using List.all_eq_true.1 hall t hm)⟩)
    (by kernel_rfl)
end Go.Proofs.YtnookalplejneaaDoor.WalkLeaves
