/-
  AsmMarks, walked.
-/
import Derived.Test.YtlommbeokbicjaaGreatDoorAsmMarksLay
import Derived.Test.YtlommbeokbicjaaGreatDoorAsmMarksProg
namespace Go.Proofs.YtlommbeokbicjaaGreatDoor
open Go.RowKit InstMath AsmMath
open Go.Lib (itoa)

set_option maxRecDepth 100000 in
set_option maxHeartbeats 8000000 in
theorem marks_walk (X Z : Int) (l : List Int) (sb : Option Addr) (cap : Nat) (w : World) (hG : G w) (hcell : ∀ k x, l[k]? = some x → ∃ b off, sb = some ⟨b, off, none⟩ ∧ w.cell? ⟨b, off + k, none⟩ = some (.int .i64 x)) :
    Calls Tryz.prog 5 #[.int .i64 X, .int .i64 Z, .slice sb l.length cap] w (Makes (.bool true) w) := by
  have HC : Hid (∀ W, Below w.heap.size w W → ∀ k x, l[k]? = some x → ∃ b off, sb = some ⟨b, off, none⟩ ∧ b < w.heap.size ∧ W.cell? ⟨b, off + k, none⟩ = some (.int .i64 x)) := hide (fun W hb k x hx => by
    obtain ⟨b, off, e1, e2⟩ := hcell k x hx
    exact ⟨b, off, e1, World.block_lt_of_cell? _ _ e2, c_be hb e2⟩)
  clear hcell
  obtain ⟨A, eA⟩ : ∃ A, (X % 18446744073709551616).toNat &&& 63 = A := ⟨_, rfl⟩
  obtain ⟨C, eC⟩ : ∃ C, (Z % 18446744073709551616).toNat &&& 63 = C := ⟨_, rfl⟩
  have eA2 : bits .and .i64 X 63 = (A : Int) := by
    obtain ⟨_, _, h, e⟩ := and_i64 X 63 (by omega)
    rw [← eA]
    exact e.trans (by rw [h, BitVec.toNat_and]; rfl)
  have eC2 : bits .and .i64 Z 63 = (C : Int) := by
    obtain ⟨_, _, h, e⟩ := and_i64 Z 63 (by omega)
    rw [← eC]
    exact e.trans (by rw [h, BitVec.toNat_and]; rfl)
  have hA : A ≤ 63 := by rw [← eA]; exact Nat.and_le_right
  have hC : C ≤ 63 := by rw [← eC]; exact Nat.and_le_right
  obtain ⟨y1, h1⟩ := Option.isSome_iff_exists.1 (beq_some C (by omega))
  obtain ⟨y2, h2⟩ := Option.isSome_iff_exists.1 (jal_some A (by omega))
  have CA : Hid (∀ W, G W → Calls Tryz.prog 9 #[.string (str (pT l A C))] W (Assembled (A + C + 2) (pY A y1 y2) W)) := hide (marks_asm l A C (by omega) (by omega) y1 y2 h1 h2)
  have D1 : Hid (∀ W, G W → Calls Tryz.prog 13 #[.int .u32 (y1.toNat : Int)] W (Makes (.tuple #[.agg #[.int .i64 5, .int .i64 0, .int .i64 1, .int .i64 2, .int .i64 (4 * ((C : Int) + 2))], .bool true]) W)) := hide (fun W hW => by
    have := dec_of (by omega) (by omega) (beq_ok (by omega) h1).rg h1 W hW
    rw [show has (shp 5) 0 = false by decide +kernel, show has (shp 5) 1 = true by decide +kernel, show has (shp 5) 2 = true by decide +kernel, show has (shp 5) 3 = true by decide +kernel] at this
    exact this)
  have D2 : Hid (∀ W, G W → Calls Tryz.prog 13 #[.int .u32 (y2.toNat : Int)] W (Makes (.tuple #[.agg #[.int .i64 3, .int .i64 3, .int .i64 0, .int .i64 0, .int .i64 (-4 * ((A : Int) + 1))], .bool true]) W)) := hide (fun W hW => by
    have := dec_of (by omega) (by omega) (jal_ok (by omega) h2).rg h2 W hW
    rw [show has (shp 3) 0 = true by decide +kernel, show has (shp 3) 1 = false by decide +kernel, show has (shp 3) 2 = false by decide +kernel, show has (shp 3) 3 = true by decide +kernel] at this
    exact this)
  have CO := hide one_any
  have E1 := eqi_i 5 0 1 2 (4 * ((C : Int) + 2)) 5 0 1 2 (4 * ((C : Int) + 2))
  have E2 := eqi_i 3 3 0 0 (-4 * ((A : Int) + 1)) 3 3 0 0 (-4 * ((A : Int) + 1))
  have F1 := eq_i 5 0 1 2 (4 * ((C : Int) + 2)) 5 0 1 2 (4 * ((C : Int) + 2))
  have F2 := eq_i 3 3 0 0 (-4 * ((A : Int) + 1)) 3 3 0 0 (-4 * ((A : Int) + 1))
  rw [show same5 5 0 1 2 (4 * ((C : Int) + 2)) 5 0 1 2 (4 * ((C : Int) + 2)) = true by simp [same5]] at E1 F1
  rw [show same5 3 3 0 0 (-4 * ((A : Int) + 1)) 3 3 0 0 (-4 * ((A : Int) + 1)) = true by simp [same5]] at E2 F2
  have hlA := layB_len l A
  have hlC := layB_len l C
  have t1 : ∀ W, (Op.stringOp .add (str ([97, 58, 10] ++ layB l A)) ⟨#[98, 101, 113, 32, 99, 49, 44, 32, 99, 50, 44, 32, 98, 10, 106, 97, 108, 32, 99, 51, 44, 32, 97, 10]⟩).run Tryz.prog W = .ok (.string (str ([97, 58, 10] ++ layB l A ++ [98, 101, 113, 32, 99, 49, 44, 32, 99, 50, 44, 32, 98, 10, 106, 97, 108, 32, 99, 51, 44, 32, 97, 10]))) W := text_add (b := [98, 101, 113, 32, 99, 49, 44, 32, 99, 50, 44, 32, 98, 10, 106, 97, 108, 32, 99, 51, 44, 32, 97, 10]) (by simp; omega)
  have t2 : ∀ W, (Op.stringOp .add (str ([97, 58, 10] ++ layB l A ++ [98, 101, 113, 32, 99, 49, 44, 32, 99, 50, 44, 32, 98, 10, 106, 97, 108, 32, 99, 51, 44, 32, 97, 10] ++ layB l C)) ⟨#[98, 58, 10]⟩).run Tryz.prog W = .ok (.string (str (pT l A C))) W := text_add (b := [98, 58, 10]) (by simp; omega)
  clear hlA hlC h1 h2
  have SS := cell_same
  have LB' := ltB_add
  have LS := ltB_self
  have LA' := alloc_reads
  have LH := alloc_holds
  go_enter Tryz.func5, Tryz.ntmps5
  go_upto_region 5 with fail
  refine wp_abs (fun W => Below w.heap.size w W ∧ W.cell? ⟨w.heap.size + 1, 0, none⟩ = some (.string (str [97, 58, 10])) ∧ Own W (w.heap.size + 1) 1 ∧ W.cell? ⟨w.heap.size, 0, none⟩ = some (.slice sb l.length cap)) ?_ ?_
  · refine ⟨?_, ?_, ?_, ?_⟩
    · repeat (first | with_reducible assumption | with_reducible exact Below.refl _ _ | with_reducible refine Below.drew ?_ | with_reducible refine below_drewN ?_ _ | with_reducible refine bw_alloc ?_ _ | (with_reducible refine bw_set ?_ ?_ _; focus (dsimp only; omega)) | (with_reducible apply bw_behind; with_reducible assumption))
    · first | (simp [go_sem]; rfl)
    · repeat (first | with_reducible assumption | with_reducible refine o_dr _ ?_ | with_reducible refine o_d1 ?_ | with_reducible refine o_set ?_ | (with_reducible refine o_new ?_ ?_; (focus (simp)); (focus (simp))) | with_reducible refine o_al _ ?_ | (with_reducible apply o_be; with_reducible assumption))
    · first | (simp (maxDischargeDepth := 4) [go_sem, *]; done) | repeat (first | with_reducible assumption | with_reducible refine c_dr _ ?_ | with_reducible refine c_d1 ?_ | with_reducible refine c_al _ ?_ | (with_reducible refine c_set ?_ ?_; focus (dsimp only; omega)) | (with_reducible apply c_be; with_reducible assumption))
  rintro w1 ⟨hB1, cT1, oT1, cB1⟩
  have hT : w.heap.size < w.heap.size + 1 := by omega
  generalize hTT : w.heap.size + 1 = T at *
  have HT := hide hTT
  clear hTT
  have hTB : w.heap.size ≠ T := by have := HT.out; omega
  have L1 : Hid (Calls Tryz.prog 14 #[.int .i64 (A : Int), .pointer (some ⟨T, 0, none⟩), .pointer (some ⟨w.heap.size, 0, none⟩)] w1 (fun e w' => e = .returned (.tuple #[]) ∧ OutB T w1 w' ∧ w'.cell? ⟨T, 0, none⟩ = some (.string (str ([97, 58, 10] ++ layB l A))) ∧ Own w' T 1)) := hide (lay_any A (by omega) l sb cap T w.heap.size ([97, 58, 10]) (by have := layB_len l A; simp <;> omega) w1 cT1 oT1 cB1 hTB (fun k x hx => by
    obtain ⟨b, off, e1, e2, e3⟩ := HC.out w1 hB1 k x hx
    exact ⟨b, off, e1, by omega, e3⟩))
  generalize str ([97, 58, 10] ++ layB l A) = S1 at *
  generalize hS2 : str ([97, 58, 10] ++ layB l A ++ [98, 101, 113, 32, 99, 49, 44, 32, 99, 50, 44, 32, 98, 10, 106, 97, 108, 32, 99, 51, 44, 32, 97, 10]) = S2 at *
  have HS2 := hide hS2
  clear hS2
  have hz1 := hB1.size
  go_upto_region 7 with (first | (go_at_call 14; (with_reducible refine L1.out.mono ?_); rintro e wl1 ⟨rfl, hob1, hct1, hol1⟩; have hf1 := hol1.free 0 (by omega)))
  refine wp_abs (fun W => Below w.heap.size w W ∧ W.cell? ⟨T, 0, none⟩ = some (.string S2) ∧ Own W T 1 ∧ W.cell? ⟨w.heap.size, 0, none⟩ = some (.slice sb l.length cap)) ?_ ?_
  · exact ⟨OutB.below hB1 (by omega) (by omega) (obx_set hob1 _), cell_same _ _ _ (hol1.some 0 (by omega)), o_set hol1, c_set hTB.symm (ob_cell hob1 hTB cB1)⟩
  rintro w2 ⟨hB2, cT2, oT2, cB2⟩
  clear L1 hob1 hct1 hol1 hf1 cT1 oT1 cB1 hB1
  have L2 : Hid (Calls Tryz.prog 14 #[.int .i64 (C : Int), .pointer (some ⟨T, 0, none⟩), .pointer (some ⟨w.heap.size, 0, none⟩)] w2 (fun e w' => e = .returned (.tuple #[]) ∧ OutB T w2 w' ∧ w'.cell? ⟨T, 0, none⟩ = some (.string (str ([97, 58, 10] ++ layB l A ++ [98, 101, 113, 32, 99, 49, 44, 32, 99, 50, 44, 32, 98, 10, 106, 97, 108, 32, 99, 51, 44, 32, 97, 10] ++ layB l C))) ∧ Own w' T 1)) := hide (lay_any C (by omega) l sb cap T w.heap.size ([97, 58, 10] ++ layB l A ++ [98, 101, 113, 32, 99, 49, 44, 32, 99, 50, 44, 32, 98, 10, 106, 97, 108, 32, 99, 51, 44, 32, 97, 10]) (by have := layB_len l A; simp <;> omega) w2 (by rw [HS2.out]; exact cT2) oT2 cB2 hTB (fun k x hx => by
    obtain ⟨b, off, e1, e2, e3⟩ := HC.out w2 hB2 k x hx
    exact ⟨b, off, e1, by omega, e3⟩))
  generalize str ([97, 58, 10] ++ layB l A ++ [98, 101, 113, 32, 99, 49, 44, 32, 99, 50, 44, 32, 98, 10, 106, 97, 108, 32, 99, 51, 44, 32, 97, 10] ++ layB l C) = S3 at *
  generalize str (pT l A C) = S4 at *
  have hz2 := hB2.size
  go_upto_region 9 with (first | (go_at_call 14; (with_reducible refine L2.out.mono ?_); rintro e wl2 ⟨rfl, hob2, hct2, hol2⟩; have hf2 := hol2.free 0 (by omega)))
  refine wp_abs (fun W => Below w.heap.size w W ∧ W.cell? ⟨T, 0, none⟩ = some (.string S4)) ?_ ?_
  · exact ⟨OutB.below hB2 (by omega) (by omega) (obx_set hob2 _), cell_same _ _ _ (hol2.some 0 (by omega))⟩
  rintro w3 ⟨hB3, cT3⟩
  clear L2 hob2 hct2 hol2 hf2 cT2 oT2 cB2 hB2 HS2 t1 t2
  have hz3 := hB3.size
  have lT : ltB T w3.heap.size = true := by unfold ltB; simpa using World.block_lt_of_cell? _ _ cT3
  go_upto_region 10 with (first | (go_at_call 9; (with_reducible refine (CA.out _ ?_).mono ?_); (focus (refine hG.behind ?_; repeat (first | with_reducible assumption | with_reducible exact Below.refl _ _ | with_reducible refine Below.drew ?_ | with_reducible refine below_drewN ?_ _ | with_reducible refine bw_alloc ?_ _ | (with_reducible refine bw_set ?_ ?_ _; focus (dsimp only; omega)) | (with_reducible apply bw_behind; with_reducible assumption)))); rintro e wA ⟨vA, rfl, hbA, hoA⟩; obtain ⟨g, cA, rfl, hcA, _, hgA, hcells⟩ := owns_cell hoA (by omega)))
  have q1 : wA.cell? ⟨g, A, none⟩ = some (.int .u32 (y1.toNat : Int)) := by
    refine hcells A _ ?_
    unfold wordV
    rw [List.getElem?_map, List.getElem?_map, List.getElem?_range (by omega)]
    simp [pY]
  have q2 : wA.cell? ⟨g, A + 1, none⟩ = some (.int .u32 (y2.toNat : Int)) := by
    refine hcells (A + 1) _ ?_
    unfold wordV
    rw [List.getElem?_map, List.getElem?_map, List.getElem?_range (by omega)]
    simp [pY]
  have lg : ltB g wA.heap.size = true := by unfold ltB; simpa using hgA
  have hBA := bw_behind hbA hB3
  clear hcells hoA CA
  generalize hN : A + C + 2 = N at *
  have n0 : IntKind.i64.wrap ((A : Int) + (C : Int)) = (A : Int) + (C : Int) := by rw [IntKind.wrap_i64]; omega
  have n1 : (A : Int) + (C : Int) + 2 = (N : Int) := by omega
  have n2 : (A : Int) < (N : Int) := by omega
  have n3 : (A : Int) + 1 < (N : Int) := by omega
  have n4 : (0 : Int) ≤ (A : Int) := by omega
  generalize (y1.toNat : Int) = Y1 at *
  generalize (y2.toNat : Int) = Y2 at *
  clear hN
  go_wp2_with (first | (go_at_call 13; (first | ((with_reducible refine (D1.out _ ?_).mono ?_); (focus (refine hG.behind ?_; repeat (first | with_reducible assumption | with_reducible exact Below.refl _ _ | with_reducible refine Below.drew ?_ | with_reducible refine below_drewN ?_ _ | with_reducible refine bw_alloc ?_ _ | (with_reducible refine bw_set ?_ ?_ _; focus (dsimp only; omega)) | (with_reducible apply bw_behind; with_reducible assumption))))) | ((with_reducible refine (D2.out _ ?_).mono ?_); (focus (refine hG.behind ?_; repeat (first | with_reducible assumption | with_reducible exact Below.refl _ _ | with_reducible refine Below.drew ?_ | with_reducible refine below_drewN ?_ _ | with_reducible refine bw_alloc ?_ _ | (with_reducible refine bw_set ?_ ?_ _; focus (dsimp only; omega)) | (with_reducible apply bw_behind; with_reducible assumption)))))); rintro e w5 ⟨rfl, hb5⟩; have hr5 := below_reads hb5; have hh5 := below_holds hb5; obtain ⟨m5, hs5⟩ := below_grew hb5) | (go_at_call 10; (first | ((with_reducible refine (CO.out _ ?_).mono ?_); (focus (refine hG.behind ?_; repeat (first | with_reducible assumption | with_reducible exact Below.refl _ _ | with_reducible refine Below.drew ?_ | with_reducible refine below_drewN ?_ _ | with_reducible refine bw_alloc ?_ _ | (with_reducible refine bw_set ?_ ?_ _; focus (dsimp only; omega)) | (with_reducible apply bw_behind; with_reducible assumption)))))); rintro e w9 ⟨rfl, hb9⟩; have hr9 := below_reads hb9; have hh9 := below_holds hb9; obtain ⟨m9, hs9⟩ := below_grew hb9))
  go_ret
  refine ⟨rfl, ?_⟩
  repeat (first | with_reducible assumption | with_reducible exact Below.refl _ _ | with_reducible refine Below.drew ?_ | with_reducible refine below_drewN ?_ _ | with_reducible refine bw_alloc ?_ _ | (with_reducible refine bw_set ?_ ?_ _; focus (dsimp only; omega)) | (with_reducible apply bw_behind; with_reducible assumption))
end Go.Proofs.YtlommbeokbicjaaGreatDoor
