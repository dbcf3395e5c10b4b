/-
  WalkApart holds: for every l, at and e the law returns true and turns nothing that was there, where the table of places holds what the program's text lays.
-/
import Derived.Test.YtnookalplejneaaDoorWalkApartA
import Derived.Test.YtnookalplejneaaDoorWalkApartB
import Derived.Test.YtnookalplejneaaDoorWalkApartC
import Derived.Test.YtnookalplejneaaDoorWalkArg
namespace Go.Proofs.YtnookalplejneaaDoor.WalkApart
open Go.RowKit Words FieldMath PteMath

theorem low_ex (x : Int) (m k : Nat) (hm : m + 1 = 2 ^ k) (hk : k < 63) : ∃ i : Nat, i < 2 ^ k ∧ bits .and .i64 x (m : Int) = (i : Int) := by
  have h := iand_low x m k hm hk
  have hp := Nat.two_pow_pos k
  have h1 : 0 ≤ x % ((2 ^ k : Nat) : Int) := Int.emod_nonneg _ (by omega)
  have h2 : x % ((2 ^ k : Nat) : Int) < ((2 ^ k : Nat) : Int) := Int.emod_lt_of_pos _ (by omega)
  exact ⟨(x % ((2 ^ k : Nat) : Int)).toNat, by omega, by rw [h]; omega⟩
theorem lays_ex {w : World} {l : List LayD} {v : Value} (h : IsLays w l v) : ∃ sa cap, v = .slice sa l.length cap ∧ ∀ k d, l[k]? = some d → ∃ b off, sa = some ⟨b, off, none⟩ ∧ ∀ j u, d.cells[j]? = some u → w.cell? ⟨b, off + k * 15 + j, none⟩ = some u := by
  rcases h with ⟨rfl, s, c, rfl⟩ | ⟨b, off, cap, rfl, hl⟩
  · exact ⟨s, c, rfl, fun k d h => by simp at h⟩
  · exact ⟨_, cap, rfl, fun k d h => ⟨b, off, rfl, fun j u hj => hl k d j u h hj⟩⟩
def lays (l : List LayD) : List LayD := (l.take 40).map to2 ++ [(⟨0, 0, true, false, false, false, false, false, false, false, false, false, false, false, 1#64⟩ : LayD), ⟨1, 0, true, false, false, false, false, false, false, false, false, false, false, false, 2#64⟩]
theorem lays_length (l : List LayD) : (lays l).length = (l.take 40).length + 2 := by
  unfold lays
  rw [List.length_append, List.length_map]
  rfl
theorem lays_take (l : List LayD) : (lays l).take 60 = lays l := List.take_of_length_le (by rw [lays_length, List.length_take]; omega)
theorem lays_cells (l : List LayD) : (lays l).flatMap LayD.cells = cells2 (l.take 40) ++ [.int .i64 0, .int .i64 0, .bool true, .bool false, .bool false, .bool false, .bool false, .bool false, .bool false, .bool false, .bool false, .bool false, .bool false, .bool false, .int .u64 1, .int .i64 1, .int .i64 0, .bool true, .bool false, .bool false, .bool false, .bool false, .bool false, .bool false, .bool false, .bool false, .bool false, .bool false, .bool false, .int .u64 2] := by
  unfold lays cells2
  rw [List.flatMap_append]
  rfl
theorem lays_mem (l : List LayD) : laidM (lays l) = putM (putM (laidM ((l.take 40).map to2)) 0 0 (tabW 1#64)) 1 0 (tabW 2#64) := by
  unfold lays
  rw [show ((l.take 40).map to2 ++ [(⟨0, 0, true, false, false, false, false, false, false, false, false, false, false, false, 1#64⟩ : LayD), ⟨1, 0, true, false, false, false, false, false, false, false, false, false, false, false, 2#64⟩]) = ((l.take 40).map to2 ++ [(⟨0, 0, true, false, false, false, false, false, false, false, false, false, false, false, 1#64⟩ : LayD)]) ++ [(⟨1, 0, true, false, false, false, false, false, false, false, false, false, false, false, 2#64⟩ : LayD)] by simp, laidM_add, laidM_add]
  rfl
theorem lays_0 (l : List LayD) : laidM (lays l) 0 0 = tabW 1#64 := by
  rw [lays_mem, putM_else _ 1 0 0 0 _ (by omega), putM_same]
theorem lays_1 (l : List LayD) : laidM (lays l) 1 0 = tabW 2#64 := by
  rw [lays_mem, putM_same]
theorem walk_low (M : Nat → Nat → BitVec 64) (k : Nat) (hk : k < 512) (h0 : M 0 0 = tabW 1#64) (h1 : M 1 0 = tabW 2#64) : walkM M 8 0 (k * 4096) = if goodQ (M 2 k) true 8 = true then some (M 2 k, 2 * 4096 + 8 * k) else none := by
  obtain ⟨p0, p1, p2, p3⟩ := place_idx 0 0 k (by omega) (by omega) hk
  rw [show placeN 0 0 k = k * 4096 by unfold placeN; omega] at p0 p1 p2 p3
  rw [walk_three _ _ _ p0 (by omega), p1, p2, p3, h0, if_pos good_1, frame_1, h1, if_pos good_2, frame_2]
theorem walkV_ex (o : Option (BitVec 64 × Nat)) : ∃ (f0 f1 f2 f3 f4 f5 f6 f7 f8 f9 f10 f11 : Bool) (FF FA q : Int), walkV o = .tuple #[.agg #[.bool f0, .bool f1, .bool f2, .bool f3, .bool f4, .bool f5, .bool f6, .bool f7, .bool f8, .bool f9, .bool f10, .bool f11, .int .u64 FF, .int .u64 FA], .int .i64 q] := by
  cases o with
  | none => exact ⟨_, _, _, _, _, _, _, _, _, _, _, _, _, _, _, rfl⟩
  | some p => exact ⟨_, _, _, _, _, _, _, _, _, _, _, _, _, _, _, rfl⟩
theorem good_all (b0 b1 b2 b3 b4 b5 b6 b7 b8 b9 b10 b11 l : Bool) (F : BitVec 64) (C : Nat) : goodQ (wk (bs b0 b1 b2 b3 b4 b5 b6 b7 b8 b9 b10 b11) F 12) l C = (b0 && rightQ b0 b1 b2 b3 b4 b5 b6 b7 b8 b9 b10 b11 ((F.toNat % 17592186044416 : Nat) : Int) && ((b0 && (b1 || b2 || b3)) == l) && decide ((F.toNat % 17592186044416 : Nat) < C)) := by
  obtain ⟨w0, w1, w2, w3, w4, w5, w6, w7, w8, w9, w10, w11⟩ := word_bits b0 b1 b2 b3 b4 b5 b6 b7 b8 b9 b10 b11 F
  unfold goodQ
  rw [word_frame, w0, w1, w2, w3, w4, w5, w6, w7, w8, w9, w10, w11, frame_nat]
theorem walk (sl : Value) (A0 A1 : Int) (b0 b1 b2 b3 b4 b5 b6 b7 b8 b9 b10 b11 : Bool) (F : BitVec 64) (w : World) (hT : Tab w) (hla : ∃ l, IsLays w l sl) : Calls Tryd.prog 6 #[sl, .agg #[.int .i64 A0, .int .i64 A1], .agg #[.bool b0, .bool b1, .bool b2, .bool b3, .bool b4, .bool b5, .bool b6, .bool b7, .bool b8, .bool b9, .bool b10, .bool b11, .int .u64 (F.toNat : Int)]] w (Makes (.bool true) w) := by
  obtain ⟨l, hla⟩ := hla
  obtain ⟨sa, cap, rfl, hl⟩ := lays_ex hla
  obtain ⟨i, hi, k0⟩ := low_ex A0 511 9 rfl (by omega)
  obtain ⟨k, hk, k1⟩ := low_ex A1 511 9 rfl (by omega)
  have p9 : (2 : Nat) ^ 9 = 512 := rfl
  rw [p9] at hi hk
  have pK : (BitVec.ofNat 64 (k * 4096)).toNat = k * 4096 := by rw [BitVec.toNat_ofNat, Nat.mod_eq_of_lt (by omega)]
  have pI : (BitVec.ofNat 64 (i * 4096)).toNat = i * 4096 := by rw [BitVec.toNat_ofNat, Nat.mod_eq_of_lt (by omega)]
  have u0 : IntKind.u64.wrap (i : Int) = (i : Int) := by rw [IntKind.wrap_u64]; omega
  have u1 : IntKind.u64.wrap (k : Int) = (k : Int) := by rw [IntKind.wrap_u64]; omega
  have u2 : IntKind.u64.wrap ((k : Int) * 4096) = ((k * 4096 : Nat) : Int) := by rw [IntKind.wrap_u64]; omega
  have u3 : IntKind.u64.wrap (8 * (i : Int)) = ((8 * i : Nat) : Int) := by rw [IntKind.wrap_u64]; omega
  have u4 : IntKind.u64.wrap (8192 + ((8 * i : Nat) : Int)) = ((2 * 4096 + 8 * i : Nat) : Int) := by rw [IntKind.wrap_u64]; omega
  have u5 : IntKind.u64.wrap ((i : Int) * 4096) = ((i * 4096 : Nat) : Int) := by rw [IntKind.wrap_u64]; omega
  have c1 : ∀ g cp W, Tab W → Row W g (cells2 (l.take 40) ++ [.int .i64 0, .int .i64 0, .bool true, .bool false, .bool false, .bool false, .bool false, .bool false, .bool false, .bool false, .bool false, .bool false, .bool false, .bool false, .int .u64 1, .int .i64 1, .int .i64 0, .bool true, .bool false, .bool false, .bool false, .bool false, .bool false, .bool false, .bool false, .bool false, .bool false, .bool false, .bool false, .int .u64 2]) → Calls Tryd.prog 8 #[.slice (some ⟨g, 0, none⟩) ((l.take 40).length + 2) cp] W (fun e W' => ∃ R N sa na ca sb nb cb, e = .returned (.tuple #[.pointer (some ⟨R, 0, none⟩), .agg #[.int .i64 8, .slice sa na ca, .slice sb nb cb, .slice none 0 0]]) ∧ MemW W' R N 8 (laidM (lays l)) ∧ Below W.heap.size W W' ∧ W.heap.size ≤ R ∧ W.heap.size ≤ N) := fun g cp W h hr => by
    have := laid_some g 0 cp (lays l) W h (lays_of_row (lays_cells l) hr)
    rw [lays_length, lays_take] at this
    refine this.mono ?_
    rintro e W' ⟨R, N, sa, na, ca, sb, nb, cb, rfl, h1, _, _, h4, h5, h6⟩
    exact ⟨R, N, sa, na, ca, sb, nb, cb, rfl, h1, h4, h5, h6⟩
  have m0 := lays_0 l
  have m1 := lays_1 l
  generalize laidM (lays l) = M at *
  have n0 : putM M 2 i (wk (bs b0 b1 b2 b3 b4 b5 b6 b7 b8 b9 b10 b11) F 12) 0 0 = tabW 1#64 := (putM_else M 2 i 0 0 _ (by omega)).trans m0
  have n1 : putM M 2 i (wk (bs b0 b1 b2 b3 b4 b5 b6 b7 b8 b9 b10 b11) F 12) 1 0 = tabW 2#64 := (putM_else M 2 i 1 0 _ (by omega)).trans m1
  have c2 := fun R N W h hM => walk_any R N 8 (by omega) M 0#64 (BitVec.ofNat 64 (k * 4096)) W h hM
  have c3 := fun R N W h hM => walk_any R N 8 (by omega) (putM M 2 i (wk (bs b0 b1 b2 b3 b4 b5 b6 b7 b8 b9 b10 b11) F 12)) 0#64 (BitVec.ofNat 64 (k * 4096)) W h hM
  have c4 := fun R N W h hM => walk_any R N 8 (by omega) (putM M 2 i (wk (bs b0 b1 b2 b3 b4 b5 b6 b7 b8 b9 b10 b11) F 12)) 0#64 (BitVec.ofNat 64 (i * 4096)) W h hM
  rw [show (0#64).toNat = 0 from rfl, pK] at c2 c3
  rw [show (0#64).toNat = 0 from rfl, pI, walk_low _ i hi n0 n1, putM_same] at c4
  have cw := fun W h => word_any b0 b1 b2 b3 b4 b5 b6 b7 b8 b9 b10 b11 F W h
  have cs := fun R N W h => store_w (show 2 < 8 by omega) hi (by omega : 8 ≤ 64) (wk (bs b0 b1 b2 b3 b4 b5 b6 b7 b8 b9 b10 b11) F 12) R N M W h
  have c5 := fun W h => ofword_any b0 b1 b2 b3 b4 b5 b6 b7 b8 b9 b10 b11 F W h
  have c6 := fun W => leaf_any b0 b1 b2 b3 b4 b5 b6 b7 b8 b9 b10 b11 (F &&& maskB 44) W
  have c7 := fun W h => right_any b0 b1 b2 b3 b4 b5 b6 b7 b8 b9 b10 b11 (F &&& maskB 44) W h
  rw [frame_nat] at c6 c7
  have co := fun W h => one_any W h
  have hgo := good_all b0 b1 b2 b3 b4 b5 b6 b7 b8 b9 b10 b11 true F 8
  obtain ⟨w0, w1, w2, w3, w4, w5, w6, w7, w8, w9, w10, w11⟩ := word_bits b0 b1 b2 b3 b4 b5 b6 b7 b8 b9 b10 b11 F
  by_cases hik : i = k
  · have hd : ((i : Int) != k) = false := by simp [hik]
    obtain ⟨f0, f1, f2, f3, f4, f5, f6, f7, f8, f9, f10, f11, FF, FA, q, e2⟩ := walkV_ex (walkM M 8 0 (k * 4096))
    obtain ⟨g0, g1, g2, g3, g4, g5, g6, g7, g8, g9, g10, g11, GF, GA, q2, e3⟩ := walkV_ex (walkM (putM M 2 i (wk (bs b0 b1 b2 b3 b4 b5 b6 b7 b8 b9 b10 b11) F 12)) 8 0 (k * 4096))
    rw [e2] at c2
    rw [e3] at c3
    cases hL : (b0 && (b1 || b2 || b3)) with
    | false =>
      rw [hL] at c6
      rw [hgo, hL, show (b0 && rightQ b0 b1 b2 b3 b4 b5 b6 b7 b8 b9 b10 b11 ((F.toNat % 17592186044416 : Nat) : Int) && (false == true) && decide ((F.toNat % 17592186044416 : Nat) < 8)) = false by simp, if_neg (by simp)] at c4
      exact way_leaf_eq b0 b1 b2 b3 b4 b5 b6 b7 b8 b9 b10 b11 _ _ _ _ _ _ _ _ _ _ _ _ _ _ _ _ _ _ _ _ _ _ _ _ _ _ _ _ _ _ _ _ _ _ _ _ _ _ _ _ _ _ _ _ sa cap l c1 c2 cw cs c3 c4 c5 c6 co k0 k1 u0 u1 u2 u3 u4 u5 hd w hT hl
    | true =>
      rw [hL] at c6
      cases hR : rightQ b0 b1 b2 b3 b4 b5 b6 b7 b8 b9 b10 b11 ((F.toNat % 17592186044416 : Nat) : Int) with
      | false =>
        rw [hR] at c7
        rw [hgo, hL, hR, show (b0 && false && (true == true) && decide ((F.toNat % 17592186044416 : Nat) < 8)) = false by simp, if_neg (by simp)] at c4
        exact way_right_eq b0 b1 b2 b3 b4 b5 b6 b7 b8 b9 b10 b11 _ _ _ _ _ _ _ _ _ _ _ _ _ _ _ _ _ _ _ _ _ _ _ _ _ _ _ _ _ _ _ _ _ _ _ _ _ _ _ _ _ _ _ _ sa cap l c1 c2 cw cs c3 c4 c5 c6 c7 co k0 k1 u0 u1 u2 u3 u4 u5 hd w hT hl
      | true =>
        rw [hR] at c7
        have hb0 : b0 = true := by cases b0 <;> simp_all
        by_cases h8 : (F.toNat % 17592186044416 : Nat) < 8
        · rw [hgo, hL, hR, decide_eq_true h8, show (b0 && true && (true == true) && true) = true by rw [hb0]; rfl, if_pos rfl] at c4
          have hx : decide (((F.toNat % 17592186044416 : Nat) : Int) < 8) = true := decide_eq_true (by omega)
          simp only [walkV, word_frame, frame_nat, w0, w1, w2, w3, w4, w5, w6, w7, w8, w9, w10, w11] at c4
          exact way_good_eq b0 b1 b2 b3 b4 b5 b6 b7 b8 b9 b10 b11 _ _ _ _ _ _ _ _ _ _ _ _ _ _ _ _ _ _ _ _ _ _ _ _ _ _ _ _ _ _ _ _ _ _ _ _ _ _ _ _ _ _ _ _ sa cap l c1 c2 cw cs c3 c4 c5 c6 c7 co k0 k1 u0 u1 u2 u3 u4 u5 hd hx w hT hl
        · rw [hgo, hL, hR, decide_eq_false h8, Bool.and_false, if_neg (by simp)] at c4
          have hx : decide (((F.toNat % 17592186044416 : Nat) : Int) < 8) = false := decide_eq_false (by omega)
          exact way_far_eq b0 b1 b2 b3 b4 b5 b6 b7 b8 b9 b10 b11 _ _ _ _ _ _ _ _ _ _ _ _ _ _ _ _ _ _ _ _ _ _ _ _ _ _ _ _ _ _ _ _ _ _ _ _ _ _ _ _ _ _ _ _ sa cap l c1 c2 cw cs c3 c4 c5 c6 c7 co k0 k1 u0 u1 u2 u3 u4 u5 hd hx w hT hl
  · have hd : ((i : Int) != k) = true := by simp; omega
    rw [walk_low _ k hk n0 n1, putM_else M 2 i 2 k _ (by omega), ← walk_low M k hk m0 m1] at c3
    obtain ⟨f0, f1, f2, f3, f4, f5, f6, f7, f8, f9, f10, f11, FF, FA, q, e2⟩ := walkV_ex (walkM M 8 0 (k * 4096))
    rw [e2] at c2 c3
    cases hL : (b0 && (b1 || b2 || b3)) with
    | false =>
      rw [hL] at c6
      rw [hgo, hL, show (b0 && rightQ b0 b1 b2 b3 b4 b5 b6 b7 b8 b9 b10 b11 ((F.toNat % 17592186044416 : Nat) : Int) && (false == true) && decide ((F.toNat % 17592186044416 : Nat) < 8)) = false by simp, if_neg (by simp)] at c4
      exact way_leaf_ne b0 b1 b2 b3 b4 b5 b6 b7 b8 b9 b10 b11 _ _ _ _ _ _ _ _ _ _ _ _ _ _ _ _ _ _ _ _ _ _ _ _ _ _ _ _ _ sa cap l c1 c2 cw cs c3 c4 c5 c6 co k0 k1 u0 u1 u2 u3 u4 u5 hd w hT hl
    | true =>
      rw [hL] at c6
      cases hR : rightQ b0 b1 b2 b3 b4 b5 b6 b7 b8 b9 b10 b11 ((F.toNat % 17592186044416 : Nat) : Int) with
      | false =>
        rw [hR] at c7
        rw [hgo, hL, hR, show (b0 && false && (true == true) && decide ((F.toNat % 17592186044416 : Nat) < 8)) = false by simp, if_neg (by simp)] at c4
        exact way_right_ne b0 b1 b2 b3 b4 b5 b6 b7 b8 b9 b10 b11 _ _ _ _ _ _ _ _ _ _ _ _ _ _ _ _ _ _ _ _ _ _ _ _ _ _ _ _ _ sa cap l c1 c2 cw cs c3 c4 c5 c6 c7 co k0 k1 u0 u1 u2 u3 u4 u5 hd w hT hl
      | true =>
        rw [hR] at c7
        have hb0 : b0 = true := by cases b0 <;> simp_all
        by_cases h8 : (F.toNat % 17592186044416 : Nat) < 8
        · rw [hgo, hL, hR, decide_eq_true h8, show (b0 && true && (true == true) && true) = true by rw [hb0]; rfl, if_pos rfl] at c4
          have hx : decide (((F.toNat % 17592186044416 : Nat) : Int) < 8) = true := decide_eq_true (by omega)
          simp only [walkV, word_frame, frame_nat, w0, w1, w2, w3, w4, w5, w6, w7, w8, w9, w10, w11] at c4
          exact way_good_ne b0 b1 b2 b3 b4 b5 b6 b7 b8 b9 b10 b11 _ _ _ _ _ _ _ _ _ _ _ _ _ _ _ _ _ _ _ _ _ _ _ _ _ _ _ _ _ sa cap l c1 c2 cw cs c3 c4 c5 c6 c7 co k0 k1 u0 u1 u2 u3 u4 u5 hd hx w hT hl
        · rw [hgo, hL, hR, decide_eq_false h8, Bool.and_false, if_neg (by simp)] at c4
          have hx : decide (((F.toNat % 17592186044416 : Nat) : Int) < 8) = false := decide_eq_false (by omega)
          exact way_far_ne b0 b1 b2 b3 b4 b5 b6 b7 b8 b9 b10 b11 _ _ _ _ _ _ _ _ _ _ _ _ _ _ _ _ _ _ _ _ _ _ _ _ _ _ _ _ _ sa cap l c1 c2 cw cs c3 c4 c5 c6 c7 co k0 k1 u0 u1 u2 u3 u4 u5 hd hx w hT hl

open Go.ChangeShapes Go.WideShapes Go.ChangeAt
set_option maxRecDepth 100000 in
theorem walks : Frame.WalksLaid [("mintmark/pte.places", Rows.laid_mintmark_pte_places)] 6 Tryd.f6 := by
  intro H enc W base args ds ps hL hval hA
  rw [Tryd.params6] at hA hval
  obtain ⟨v0, v1, v2, d0, d1, d2, p0, p1, p2, hargs, rfl, rfl, h0, h1, h2⟩ := trodAll_three hA
  obtain rfl : args = #[v0, v1, v2] := by cases args; simp_all
  have e0 := open_lays (hval 0 22 v0 rfl rfl) h0
  obtain ⟨zs1, rfl, hl1, hz1⟩ := Frame.open_arr Tryd.underlying49 Tryd.underlying3 (by kernel_rfl) (by kernel_rfl) (hval 1 49 v1 rfl rfl) h1
  obtain ⟨z1_0, z1_1, rfl⟩ := Frame.arr2 hl1
  obtain ⟨cs2, rfl, hf2⟩ := Frame.open_struct (F := 4) (ks := [.inr false, .inr false, .inr false, .inr false, .inr false, .inr false, .inr false, .inr false, .inr false, .inr false, .inr false, .inr false, .inl .u64]) Tryd.underlying32 (by kernel_rfl) (hval 2 32 v2 rfl rfl) h2
  obtain ⟨z2_0, z2_1, z2_2, z2_3, z2_4, z2_5, z2_6, z2_7, z2_8, z2_9, z2_10, z2_11, Z2_12, rfl⟩ := open_ent hf2
  exact walk v0 z1_0 z1_1 z2_0 z2_1 z2_2 z2_3 z2_4 z2_5 z2_6 z2_7 z2_8 z2_9 z2_10 z2_11 Z2_12 W (tab_of_laid hL) e0
set_option maxRecDepth 100000 in
theorem said : Rows.WalkApartSaid :=
  OpenClaim.holds_of_wide 6 Tryd.f6 rfl rfl rfl rfl rfl rfl rfl ⟨rfl, rfl, rfl, rfl, rfl⟩ rfl rfl rfl rfl rfl (by kernel_rfl) Tryd.func6 (by kernel_rfl)
    (of_decide_eq_true (by kernel_rfl)) (by unfold Func.isWrapper; first | (rw [if_pos (by decide +kernel)]; kernel_rfl) | (rw [if_neg (by decide +kernel)]; exact ⟨rfl, rfl⟩))
    (fun os started H enc _ => Frame.liftLaid [("mintmark/pte.places", Rows.laid_mintmark_pte_places)] os started H enc _ _ Rows.walkApartSpec 4 (by kernel_rfl) Tryd.func6 Tryd.underlying4 (by kernel_rfl) rfl (by kernel_rfl)
      (fun ds h => by match ds, h with | [_, _, _], _ => exact ⟨rfl, rfl, rfl⟩)
      (ChangeSpec.witness_shaped (enc := enc) (C := Tryd.checked) (os := os) (X := fun w _ => laidMetH Tryd.prog [("mintmark/pte.places", Rows.laid_mintmark_pte_places)] w) false (World.doorLaid Tryd.prog 400 os) #[.slice none 0 0, .agg #[.int .i64 0, .int .i64 0], .agg #[.bool false, .bool false, .bool false, .bool false, .bool false, .bool false, .bool false, .bool false, .bool false, .bool false, .bool false, .bool false, .int .u64 0]] 8 rfl (World.shaped_of_RefB (by kernel_rfl) (by kernel_rfl)) (by kernel_rfl) (by kernel_rfl) (by kernel_rfl) (door_met os _)) walks)
set_option maxRecDepth 100000 in
theorem proved : Rows.WalkApartCardSaid :=
  Claim7.holds_tied_plain_at .later [] [.data] true _ false said (fun _ h => by cases h) (by kernel_rfl) (fun _ h => by cases h) walkApart_row_tie rfl ⟨rfl, rfl⟩ (by kernel_rfl) rfl
    (fun f fn hf hfn => by
      obtain rfl : f = 6 := Option.some.inj ((show Tryd.prog.funcNamed "mintmark/mintmarklaw10.WalkApart" = some 6 by kernel_rfl).symm.trans hf) |>.symm
      obtain rfl : fn = Tryd.f6 := (Option.some.inj (Tryd.func6.symm.trans hfn)).symm
      exact ⟨by kernel_rfl, fun j t ht => by
        rw [Tryd.params6] at ht
        have hm : t ∈ [22, 49, 32] := by have := Array.mem_of_getElem? ht; simp at this; simp; first | omega | grind
        have hall : ([22, 49, 32].all fun u => !Tryd.prog.wantsStandIn u) = true := by kernel_rfl
        exact (show Tryd.prog.wantsStandIn t = false by simpa using List.all_eq_true.1 hall t hm)⟩)
    (by kernel_rfl)
end Go.Proofs.YtnookalplejneaaDoor.WalkApart
