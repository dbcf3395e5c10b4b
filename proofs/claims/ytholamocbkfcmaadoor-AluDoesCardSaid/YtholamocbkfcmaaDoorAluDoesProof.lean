/-
  AluDoes holds: for every number of an instruction and every two numbers the law returns true and turns nothing that was there; the row's package variable (the widths) holds what the program's text lays.
-/
import Derived.Test.YtholamocbkfcmaaDoorAluDoesA
import Derived.Test.YtholamocbkfcmaaDoorAluDoesB
import Derived.Test.YtholamocbkfcmaaDoorAluDoesC
import Derived.Test.YtholamocbkfcmaaDoorAluDoesD
import Derived.Test.YtholamocbkfcmaaDoorAluDoesE
import Derived.Test.YtholamocbkfcmaaDoorAluDoesF
import Derived.Test.YtholamocbkfcmaaDoorAluRef
import Derived.Test.YtholamocbkfcmaaDoorAluLaid
namespace Go.Proofs.YtholamocbkfcmaaDoor.AluDoes
open Go.RowKit Words FieldMath

theorem walk (op : Int) (a b : BitVec 64) (w : World) (hT : Tab w) : Calls Tryd.prog 3 #[.int .i64 op, .int .u64 (a.toNat : Int), .int .u64 (b.toNat : Int)] w (Makes (.bool true) w) := by
  have c1 := do_any op a b
  have c2 := rdo_any op a b
  have c3 := takes_any op a b
  have c4 := rtakes_any op a b
  have c5 := fun W (h : Tab W) => width_any op W h
  have c6 := fun W => (rwidth_any op W).mono fun _ _ h => quiet_makes h
  have c7 := fun W (h : Tab W) => extend_any op a W h
  have c8 := fun W => (rextend_any op a W).mono fun _ _ h => quiet_makes h
  by_cases h5 : op ≤ 4
  · exact walkA op h5 a b _ _ _ _ _ _ c1 c2 c3 c4 c5 c6 c7 c8 w hT
  by_cases h10 : op ≤ 10
  · exact walkB op (by omega) h10 a b _ _ _ _ _ _ c1 c2 c3 c4 c5 c6 c7 c8 w hT
  by_cases h17 : op ≤ 17
  · exact walkC op (by omega) h17 a b _ _ _ _ _ _ c1 c2 c3 c4 c5 c6 c7 c8 w hT
  by_cases h21 : op ≤ 21
  · exact walkD op (by omega) h21 a b _ _ _ _ _ _ c1 c2 c3 c4 c5 c6 c7 c8 w hT
  by_cases h30 : op ≤ 30
  · exact walkE op (by omega) h30 a b _ _ _ _ _ _ c1 c2 c3 c4 c5 c6 c7 c8 w hT
  · exact walkF op (by omega) a b _ _ _ _ _ _ c1 c2 c3 c4 c5 c6 c7 c8 w hT
open Go.ChangeShapes Go.WideShapes Go.ChangeAt
set_option maxRecDepth 100000 in
theorem walks : Frame.WalksLaid [("mintmark/alu.widths", Rows.laid_mintmark_alu_widths)] 3 Tryd.f3 := by
  intro H enc W base args ds ps hL hval hA
  rw [Tryd.params3] at hA hval
  obtain ⟨v0, v1, v2, d0, d1, d2, p0, p1, p2, hargs, rfl, rfl, h0, h1, h2⟩ := trodAll_three hA
  obtain rfl : args = #[v0, v1, v2] := by cases args; simp_all
  obtain ⟨x0, rfl, rfl, rfl, w0⟩ := open_int Tryd.underlying3 (hval 0 3 v0 rfl rfl) h0
  obtain ⟨x1, rfl, rfl, rfl, w1⟩ := open_int Tryd.underlying22 (hval 1 22 v1 rfl rfl) h1
  obtain ⟨x2, rfl, rfl, rfl, w2⟩ := open_int Tryd.underlying22 (hval 2 22 v2 rfl rfl) h2
  obtain ⟨X1, rfl⟩ := Frame.wf_u64 w1
  obtain ⟨X2, rfl⟩ := Frame.wf_u64 w2
  exact walk x0 X1 X2 W (tab_of_laid hL)
set_option maxRecDepth 100000 in
theorem said : Rows.AluDoesSaid :=
  OpenClaim.holds_of_wide 3 Tryd.f3 rfl rfl rfl rfl rfl rfl rfl ⟨rfl, rfl, rfl, rfl, rfl⟩ rfl rfl rfl rfl rfl (by kernel_rfl) Tryd.func3 (by kernel_rfl)
    (of_decide_eq_true (by kernel_rfl)) (by unfold Func.isWrapper; first | (rw [if_pos (by decide +kernel)]; kernel_rfl) | (rw [if_neg (by decide +kernel)]; exact ⟨rfl, rfl⟩))
    (fun os started H enc _ => Frame.liftLaid [("mintmark/alu.widths", Rows.laid_mintmark_alu_widths)] os started H enc _ _ Rows.aluDoesSpec 4 (by kernel_rfl) Tryd.func3 Tryd.underlying4 (by kernel_rfl) rfl (by kernel_rfl)
      (fun ds h => by match ds, h with | [_, _, _], _ => exact ⟨rfl, rfl, rfl⟩)
      (ChangeSpec.witness_shaped (enc := enc) (C := Tryd.checked) (os := os) (X := fun w _ => laidMetH Tryd.prog [("mintmark/alu.widths", Rows.laid_mintmark_alu_widths)] w) false (World.doorLaid Tryd.prog 400 os) #[.int .i64 0, .int .u64 0, .int .u64 0] 8 rfl (World.shaped_of_RefB (by kernel_rfl) (by kernel_rfl)) (by kernel_rfl) (by kernel_rfl) (by kernel_rfl) (door_met os _)) walks)
set_option maxRecDepth 100000 in
theorem proved : Rows.AluDoesCardSaid :=
  Claim7.holds_tied_plain_at .later [] [.data] true _ false said (fun _ h => by cases h) (by kernel_rfl) (fun _ h => by cases h) aluDoes_row_tie rfl ⟨rfl, rfl⟩ (by kernel_rfl) rfl
    (fun f fn hf hfn => by
      obtain rfl : f = 3 := Option.some.inj ((show Tryd.prog.funcNamed "mintmark/mintmarklaw15.AluDoes" = some 3 by kernel_rfl).symm.trans hf) |>.symm
      obtain rfl : fn = Tryd.f3 := (Option.some.inj (Tryd.func3.symm.trans hfn)).symm
      exact ⟨by kernel_rfl, fun j t ht => by
        rw [Tryd.params3] at ht
        have hm : t ∈ [3, 22] := by have := Array.mem_of_getElem? ht; simp at this; simp; first | omega | grind
        have hall : ([3, 22].all fun u => !Tryd.prog.wantsStandIn u) = true := by kernel_rfl
        exact (show Tryd.prog.wantsStandIn t = false by simpa using List.all_eq_true.1 hall t hm)⟩)
    (by kernel_rfl)
end Go.Proofs.YtholamocbkfcmaaDoor.AluDoes
