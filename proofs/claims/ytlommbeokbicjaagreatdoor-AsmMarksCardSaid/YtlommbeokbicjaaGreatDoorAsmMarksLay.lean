/-
  AsmMarks' closure: so many instructions, with what stands between.
-/
import Derived.Test.YtlommbeokbicjaaGreatDoorAsmMarksMath
import Derived.Test.YtlommbeokbicjaaGreatDoorOwn
import Derived.BigRegion
import Derived.BigQuiet
import Derived.WalkMore
namespace Go.Proofs.YtlommbeokbicjaaGreatDoor
open Go.RowKit InstMath AsmMath
open Go.Lib (itoa)

theorem obx_al {N : Nat} {w W : World} (h : OutB N w W) (o : Obj) : OutB N w (W.alloc o) := h.trans (OutB.of_below (below_alloc (Below.refl _ _) (Nat.le_refl _) o))
theorem obx_dr {N : Nat} {w W : World} (h : OutB N w W) (n : Nat) : OutB N w (W.drewN n) := ⟨h.os, h.tape, h.output, h.size, h.block⟩
theorem obx_d1 {N : Nat} {w W : World} (h : OutB N w W) : OutB N w W.drew := ⟨h.os, h.tape, h.output, h.size, h.block⟩
theorem obx_set {N i : Nat} {w W : World} (h : OutB N w W) (v : Value) : OutB N w (W.setCell ⟨N, i, none⟩ v) := by
  refine ⟨h.os, h.tape, h.output, ?_, fun k hk hne => ?_⟩
  · have := h.size
    unfold World.setCell
    simpa using this
  · exact (Below.heap_setCell _ _ _ _ hne).trans (h.block k hk hne)
theorem digit_at : ∀ d, (h : d < 10) → ([48, 49, 50, 51, 52, 53, 54, 55, 56, 57] : List UInt8)[d].toNat = 48 + d := by decide +kernel
theorem digit_index (d : Nat) (h : d < 10) (W : World) : (Instr.index 9 (.string ⟨#[48, 49, 50, 51, 52, 53, 54, 55, 56, 57]⟩) (.int .i64 (d : Int))).run Tryz.prog W = .ok (.int .u8 ((48 + d : Nat) : Int)) W := by
  have := index_text (l := [48, 49, 50, 51, 52, 53, 54, 55, 56, 57]) (i := d) h W
  rw [digit_at d h] at this
  exact this
theorem digit_text : ∀ d, d < 10 → (Utf8.encode ((48 + d : Nat) : Int)).size ≤ 4 := by decide +kernel
theorem and_i64 (x : Int) (m : Nat) (hm : m < 1000) : ∃ n : Nat, n ≤ m ∧ n = (BitVec.ofInt 64 x &&& BitVec.ofInt 64 (m : Int)).toNat ∧ bits .and .i64 x (m : Int) = (n : Int) := by
  have h2 : (BitVec.ofInt 64 (m : Int)).toNat = m := by
    rw [BitVec.ofInt_natCast, BitVec.toNat_ofNat]; exact Nat.mod_eq_of_lt (by omega)
  have h3 : (BitVec.ofInt 64 x &&& BitVec.ofInt 64 (m : Int)).toNat ≤ m := by
    rw [BitVec.toNat_and, h2]
    exact Nat.and_le_right
  refine ⟨_, h3, rfl, ?_⟩
  show IntKind.i64.wrap ((BitVec.ofInt 64 x &&& BitVec.ofInt 64 (m : Int)).toNat : Int) = _
  rw [IntKind.wrap_i64]
  omega

set_option maxRecDepth 100000 in
set_option maxHeartbeats 8000000 in
theorem lay_any (n : Nat) (hn : n ≤ 64) (l : List Int) (sb : Option Addr) (cap T B : Nat) (t : List UInt8) (ht : t.length ≤ 100000) (w : World) (cT : w.cell? ⟨T, 0, none⟩ = some (.string (str t))) (oT : Own w T 1) (cB : w.cell? ⟨B, 0, none⟩ = some (.slice sb l.length cap)) (hTB : B ≠ T)
    (hcell : ∀ k x, l[k]? = some x → ∃ b off, sb = some ⟨b, off, none⟩ ∧ b ≠ T ∧ w.cell? ⟨b, off + k, none⟩ = some (.int .i64 x)) :
    Calls Tryz.prog 14 #[.int .i64 (n : Int), .pointer (some ⟨T, 0, none⟩), .pointer (some ⟨B, 0, none⟩)] w (fun e w' => e = .returned (.tuple #[]) ∧ OutB T w w' ∧ w'.cell? ⟨T, 0, none⟩ = some (.string (str (t ++ layB l n))) ∧ Own w' T 1) := by
  have HC := hide hcell
  clear hcell
  have SS := cell_same
  have LB' := ltB_add
  have LS := ltB_self
  have LA' := alloc_reads
  have LH := alloc_holds
  go_enter Tryz.func14, Tryz.ntmps14
  go_wp2
  go_loopw [4] (fun i wr => ∃ j : Nat, j ≤ n ∧ i = .int .i64 (j : Int) ∧ OutB T w wr ∧ Own wr T 1 ∧ wr.cell? ⟨T, 0, none⟩ = some (.string (str (t ++ layB l j)))) (fun i _ => n - (intOf i).toNat)
  case atStart => exact ⟨0, by omega, rfl, by (repeat (first | with_reducible assumption | with_reducible exact OutB.refl _ _ | with_reducible refine obx_dr ?_ _ | with_reducible refine obx_d1 ?_ | with_reducible refine obx_al ?_ _ | with_reducible refine obx_set ?_ _)), by assumption, by simpa [layB] using cT⟩
  case round =>
    obtain ⟨j, hj, rfl, hOB, hO, hc⟩ := hrel
    have hlen := layB_len l j
    have g3 : (0 : Int) ≤ (j : Int) := by omega
    by_cases hlt : j < n
    · have hsn := layB_succ l j
      have d1 : ∀ W, (Op.stringOp .add (str (t ++ layB l j)) ⟨#[97, 100, 100, 105, 32, 99, 49, 44, 32, 99, 49, 44, 32, 49, 10]⟩).run Tryz.prog W = .ok (.string (str (t ++ layB l j ++ addiB))) W := text_add (b := addiB) (by simp [addiB]; omega)
      have hB := ob_cell hOB hTB cB
      have f0 := hO.free 0 (by omega)
      have g1 : (j : Int) < (n : Int) := by omega
      by_cases hbl : j < l.length
      · obtain ⟨x, hx⟩ : ∃ x, l[j]? = some x := ⟨_, List.getElem?_eq_getElem hbl⟩
        obtain ⟨b, off, rfl, hbT, hxc⟩ := HC.out j x hx
        have hX := ob_cell hOB hbT hxc
        obtain ⟨c, hc4, hce, hcw⟩ := and_i64 x 3 (by omega)
        have hcw : bits .and .i64 x 3 = (c : Int) := hcw
        have b1 : (j : Int) < (l.length : Int) := by omega
        have hex : extB l j = exB c := by unfold extB; rw [hx]; dsimp only; rw [hce]; rfl
        rw [hex] at hsn
        have HSN := hide hsn
        have a0 : (j : Int).tmod 10 = ((j % 10 : Nat) : Int) := by rw [Int.tmod_eq_emod_of_nonneg g3]; omega
        have a1 : (j : Int).tdiv 10 = ((j / 10 : Nat) : Int) := by rw [Int.tdiv_eq_ediv_of_nonneg g3]; omega
        have a2 : ((j / 10 : Nat) : Int).tmod 10 = ((j / 10 % 10 : Nat) : Int) := by rw [Int.tmod_eq_emod_of_nonneg (by omega)]; omega
        have u0 := digit_index (j % 10) (by omega)
        have u1 := digit_index (j / 10 % 10) (by omega)
        have s0 := digit_text (j % 10) (by omega)
        have s1 := digit_text (j / 10 % 10) (by omega)
        have w0 : IntKind.i64.wrap ((j % 10 : Nat) : Int) = ((j % 10 : Nat) : Int) := by rw [IntKind.wrap_i64]; omega
        have w1 : IntKind.i64.wrap ((j / 10 : Nat) : Int) = ((j / 10 : Nat) : Int) := by rw [IntKind.wrap_i64]; omega
        have w2 : IntKind.i64.wrap ((j / 10 % 10 : Nat) : Int) = ((j / 10 % 10 : Nat) : Int) := by rw [IntKind.wrap_i64]; omega
        generalize (j % 10 : Nat) = e0 at *
        generalize (j / 10 % 10 : Nat) = e1 at *
        generalize ((j / 10 : Nat) : Int) = q at *
        generalize ((48 + e0 : Nat) : Int) = z0 at *
        generalize ((48 + e1 : Nat) : Int) = z1 at *
        have m1 : ∀ W, (Op.stringOp .add ⟨#[111, 116, 104, 101, 114]⟩ (Utf8.encode z0)).run Tryz.prog W = .ok (.string (⟨#[111, 116, 104, 101, 114]⟩ ++ Utf8.encode z0)) W := fun W => run_string_add_sum _ _ _ (by show 5 + _ ≤ _; omega)
        have m2 : ∀ W, (Op.stringOp .add (⟨#[111, 116, 104, 101, 114]⟩ ++ Utf8.encode z0) (Utf8.encode z1)).run Tryz.prog W = .ok (.string (⟨#[111, 116, 104, 101, 114]⟩ ++ Utf8.encode z0 ++ Utf8.encode z1)) W := fun W => run_string_add_sum _ _ _ (by rw [ByteArray.size_append]; show 5 + _ + _ ≤ _; omega)
        have m3 : ∀ W, (Op.stringOp .add (⟨#[111, 116, 104, 101, 114]⟩ ++ Utf8.encode z0 ++ Utf8.encode z1) ⟨#[58, 10]⟩).run Tryz.prog W = .ok (.string (⟨#[111, 116, 104, 101, 114]⟩ ++ Utf8.encode z0 ++ Utf8.encode z1 ++ ⟨#[58, 10]⟩)) W := fun W => run_string_add_sum _ _ _ (by rw [ByteArray.size_append, ByteArray.size_append]; show 5 + _ + _ + 2 ≤ _; omega)
        generalize (⟨#[111, 116, 104, 101, 114]⟩ ++ Utf8.encode z0 ++ Utf8.encode z1 ++ ⟨#[58, 10]⟩ : ByteArray) = v3 at *
        generalize (⟨#[111, 116, 104, 101, 114]⟩ ++ Utf8.encode z0 ++ Utf8.encode z1 : ByteArray) = v2 at *
        have hv0 := run_convert_int_string (P := Tryz.prog) 
        have d2 : ∀ W, (Op.stringOp .add (str (t ++ layB l j ++ addiB)) (str (exB c))).run Tryz.prog W = .ok (.string (str (t ++ layB l (j + 1)))) W := by
          rw [HSN.out]
          have := text_add (a := t ++ layB l j ++ addiB) (b := exB c) (by have := exB_len c; simp [addiB]; omega)
          simpa only [List.append_assoc] using this
        have hbT2 : ltB b wr.heap.size = true := by unfold ltB; simpa using World.block_lt_of_cell? _ _ hX
        have hT2 : ltB T wr.heap.size = true := by unfold ltB; simpa using World.block_lt_of_cell? _ _ hc
        have hB2 : ltB B wr.heap.size = true := by unfold ltB; simpa using World.block_lt_of_cell? _ _ hB
        clear hv0 hlen hex hsn hce s0 s1
        generalize str (t ++ layB l j ++ addiB) = S1 at *
        generalize str (t ++ layB l j) = S0 at *
        generalize hS2 : str (t ++ layB l (j + 1)) = S2 at *
        have HS2 := hide hS2
        clear hS2
        go_upto_region 5 with fail
        refine wp_abs (fun W => OutB T w W ∧ Own W T 1 ∧ W.cell? ⟨T, 0, none⟩ = some (.string S1) ∧ W.cell? ⟨B, 0, none⟩ = some (.slice (some ⟨b, off, none⟩) l.length cap) ∧ W.cell? ⟨b, off + j, none⟩ = some (.int .i64 x)) ?_ ?_
        · refine ⟨by (repeat (first | with_reducible assumption | with_reducible exact OutB.refl _ _ | with_reducible refine obx_dr ?_ _ | with_reducible refine obx_d1 ?_ | with_reducible refine obx_al ?_ _ | with_reducible refine obx_set ?_ _)), o_set hO, cell_same _ _ _ (hO.some 0 (by omega)), c_set hTB.symm hB, c_set hbT.symm hX⟩
        rintro w2 ⟨hOB2, hO2, hc2, hB3, hX3⟩
        have f2 := hO2.free 0 (by omega)
        have hbT3 : ltB b w2.heap.size = true := by unfold ltB; simpa using World.block_lt_of_cell? _ _ hX3
        have hT3 : ltB T w2.heap.size = true := by unfold ltB; simpa using World.block_lt_of_cell? _ _ hc2
        have hB4 : ltB B w2.heap.size = true := by unfold ltB; simpa using World.block_lt_of_cell? _ _ hB3
        have hTlt : T < w2.heap.size := World.block_lt_of_cell? _ _ hc2
        clear hc hB hX f0 hbT2 hT2 hB2 SS
        obtain rfl | rfl | rfl | rfl : c = 0 ∨ c = 1 ∨ c = 2 ∨ c = 3 := by omega
        · have hcw0 : bits .and .i64 x 3 = 0 := hcw
          have d2 : ∀ W, (Op.stringOp .add S1 ⟨#[]⟩).run Tryz.prog W = .ok (.string S2) W := d2
          clear hcw
          go_region
          go_wp2
          go_roundw
          case rel => exact ⟨j + 1, by omega, by go_num, by (repeat (first | with_reducible assumption | with_reducible exact OutB.refl _ _ | with_reducible refine obx_dr ?_ _ | with_reducible refine obx_d1 ?_ | with_reducible refine obx_al ?_ _ | with_reducible refine obx_set ?_ _)), o_d1 (o_al _ (o_set hO2)), by rw [HS2.out]; exact c_d1 (c_al _ (cell_same _ _ _ (hO2.some 0 (by omega))))⟩
          case measure => simp [intOf]; omega
        · have hcw0 : bits .and .i64 x 3 = 1 := hcw
          have d2 : ∀ W, (Op.stringOp .add S1 ⟨#[10]⟩).run Tryz.prog W = .ok (.string S2) W := d2
          clear hcw
          go_region
          go_wp2
          go_roundw
          case rel => exact ⟨j + 1, by omega, by go_num, by (repeat (first | with_reducible assumption | with_reducible exact OutB.refl _ _ | with_reducible refine obx_dr ?_ _ | with_reducible refine obx_d1 ?_ | with_reducible refine obx_al ?_ _ | with_reducible refine obx_set ?_ _)), o_d1 (o_al _ (o_set hO2)), by rw [HS2.out]; exact c_d1 (c_al _ (cell_same _ _ _ (hO2.some 0 (by omega))))⟩
          case measure => simp [intOf]; omega
        · have hcw0 : bits .and .i64 x 3 = 2 := hcw
          have d2 : ∀ W, (Op.stringOp .add S1 ⟨#[35, 32, 120, 10]⟩).run Tryz.prog W = .ok (.string S2) W := d2
          clear hcw
          go_region
          go_wp2
          go_roundw
          case rel => exact ⟨j + 1, by omega, by go_num, by (repeat (first | with_reducible assumption | with_reducible exact OutB.refl _ _ | with_reducible refine obx_dr ?_ _ | with_reducible refine obx_d1 ?_ | with_reducible refine obx_al ?_ _ | with_reducible refine obx_set ?_ _)), o_d1 (o_al _ (o_set hO2)), by rw [HS2.out]; exact c_d1 (c_al _ (cell_same _ _ _ (hO2.some 0 (by omega))))⟩
          case measure => simp [intOf]; omega
        · have hcw0 : bits .and .i64 x 3 = 3 := hcw
          have d2 : ∀ W, (Op.stringOp .add S1 ⟨#[32, 32, 10]⟩).run Tryz.prog W = .ok (.string S2) W := d2
          clear hcw
          go_region
          go_wp2
          go_roundw
          case rel => exact ⟨j + 1, by omega, by go_num, by (repeat (first | with_reducible assumption | with_reducible exact OutB.refl _ _ | with_reducible refine obx_dr ?_ _ | with_reducible refine obx_d1 ?_ | with_reducible refine obx_al ?_ _ | with_reducible refine obx_set ?_ _)), o_d1 (o_al _ (o_set hO2)), by rw [HS2.out]; exact c_d1 (c_al _ (cell_same _ _ _ (hO2.some 0 (by omega))))⟩
          case measure => simp [intOf]; omega

      · have b1 : ¬ ((j : Int) < (l.length : Int)) := by omega
        have hex : extB l j = [] := by unfold extB; rw [List.getElem?_eq_none (by omega)]
        rw [hex, List.append_nil] at hsn
        rw [List.append_assoc, ← hsn] at d1
        clear hsn hex hlen
        generalize str (t ++ layB l j) = S0 at *
        generalize hS2 : str (t ++ layB l (j + 1)) = S2 at *
        have HS2 := hide hS2
        clear hS2
        go_wp2
        go_roundw
        case rel => exact ⟨j + 1, by omega, by go_num, by (repeat (first | with_reducible assumption | with_reducible exact OutB.refl _ _ | with_reducible refine obx_dr ?_ _ | with_reducible refine obx_d1 ?_ | with_reducible refine obx_al ?_ _ | with_reducible refine obx_set ?_ _)), o_set hO, by rw [HS2.out]; exact cell_same _ _ _ (hO.some 0 (by omega))⟩
        case measure => simp [intOf]; omega
    · obtain rfl : j = n := by omega
      go_wp2
      refine bodyPost_end (v := .tuple #[]) (by simp (maxDischargeDepth := 4) [results, Tryz.results14, go_sem, *]) rfl ?_
      exact ⟨rfl, by (repeat (first | with_reducible assumption | with_reducible exact OutB.refl _ _ | with_reducible refine obx_dr ?_ _ | with_reducible refine obx_d1 ?_ | with_reducible refine obx_al ?_ _ | with_reducible refine obx_set ?_ _)), by assumption, hO⟩
end Go.Proofs.YtlommbeokbicjaaGreatDoor
