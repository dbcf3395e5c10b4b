/-
  AsmLists holds: for every list of words the law returns true, and turns nothing that was there.
-/
import Derived.Test.YtlommbeokbicjaaGreatDoorAsmListsWalk
import Derived.Test.YtlommbeokbicjaaGreatDoorGLaid
import Derived.Test.YtlommbeokbicjaaGreatDoorGBase
import Derived.Test.YtlommbeokbicjaaGreatDoorTie
import Derived.Test.YtlommbeokbicjaaGreatDoorCards
import Derived.ChangeSlices
namespace Go.Proofs.YtlommbeokbicjaaGreatDoor.AsmLists
open Go.RowKit InstMath AsmMath
open Go.Lib (itoa)

open Go.ChangeShapes Go.WideShapes Go.ChangeAt
/-- A slice of words, as it is handed in. -/
def IsWords (W : World) (ws : List (BitVec 64)) (v : Value) : Prop := (∀ y ∈ ws, y.toNat < 4294967296) ∧ ∃ sb cap, v = .slice sb ws.length cap ∧ ws.length ≤ cap ∧ ∀ k y, ws[k]? = some y → ∃ b off, sb = some ⟨b, off, none⟩ ∧ W.cell? ⟨b, off + k, none⟩ = some (.int .u32 (y.toNat : Int))
theorem wf_bd {x : Int} (h : (Lit.int .u32 x).wf = true) : 0 ≤ x ∧ x < 4294967296 := by
  have := bounds_u32 h
  omega
theorem word_nat {x : Int} (h : 0 ≤ x ∧ x < 4294967296) : ((BitVec.ofNat 64 x.toNat).toNat : Int) = x ∧ (BitVec.ofNat 64 x.toNat).toNat < 4294967296 := by
  rw [BitVec.toNat_ofNat, Nat.mod_eq_of_lt (by omega)]
  omega
set_option maxRecDepth 100000 in
theorem open_words {H : Type} {enc : TypeId × Value → H} {W : World} {base : Nat} {v : Value} {d : DataW H} {ps : List MemPlace} (hv : Value.okWide Tryz.prog W .any base 23 v) (h : DataW.Trod enc Tryz.prog W 0 (fun _ => true) true 23 v d ps) : ∃ l, IsWords W l v := by
  obtain ⟨sa, len, cap, rfl⟩ := okWide_slice Tryz.underlying23 hv
  obtain ⟨fuel, hf⟩ := h
  rcases open_ints Tryz.underlying23 Tryz.underlying24 (by kernel_rfl) hf with ⟨hcs, _⟩ | ⟨a, len', cap', zs, hcs, _, hl, _, hz, _, hc, hwf⟩
  · simp [Value.cells] at hcs
    obtain ⟨rfl, rfl, rfl⟩ := hcs
    exact ⟨[], fun y hy => by simp at hy, _, _, rfl, Nat.le_refl _, fun k x hx => by simp at hx⟩
  · simp [Value.cells] at hcs
    obtain ⟨rfl, rfl, rfl⟩ := hcs
    have hz' : zs.length = cap := by simpa using hz
    refine ⟨(zs.take len).map (fun z => BitVec.ofNat 64 z.toNat), fun y hy => ?_, some a, cap, ?_, ?_, fun k y hy => ?_⟩
    · obtain ⟨z, hz1, rfl⟩ := List.mem_map.1 hy
      exact (word_nat (wf_bd (hwf z (List.mem_of_mem_take hz1)))).2
    · rw [List.length_map, List.length_take, hz', Nat.min_eq_left hl]
    · rw [List.length_map, List.length_take, hz', Nat.min_eq_left hl]
      exact hl
    · rw [List.getElem?_map, List.getElem?_take] at hy
      split at hy
      · obtain ⟨z, hzk, rfl⟩ := Option.map_eq_some_iff.1 hy
        have hk : k < zs.length := (List.getElem?_eq_some_iff.1 hzk).1
        have h1 := hc k hk
        have hspot : a.spot = none := by
          have := World.cell?_spot (hc 0 (by omega))
          simpa [Addr.add] using this
        obtain ⟨b, off, spot⟩ := a
        simp only at hspot
        subst hspot
        refine ⟨b, off, rfl, ?_⟩
        have ea : (⟨b, off, none⟩ : Addr).add k = ⟨b, off + k, none⟩ := by unfold Addr.add; split <;> simp_all
        rw [ea, List.getD_eq_getElem?_getD, hzk] at h1
        rw [(word_nat (wf_bd (hwf z (List.mem_of_getElem? hzk)))).1]
        exact h1
      · cases hy
theorem at_some {ws : List (BitVec 64)} {j : Nat} (hj : j < ws.length) : ws[j]? = some (wsAt ws j) := by
  unfold wsAt
  rw [List.getD_eq_getElem?_getD, List.getElem?_eq_getElem hj]
  rfl
theorem walk (ws : List (BitVec 64)) (v : Value) (w : World) (hG : G2 w) (h : IsWords w ws v) : Calls Tryz.prog 4 #[v] w (Makes (.bool true) w) := by
  obtain ⟨hlt, sb, cap, rfl, hcap, hc⟩ := h
  by_cases hl : ws.length ≤ 60
  · exact lists_le ws ws.length rfl hl hlt sb cap w hG (fun j hj => hc j _ (at_some hj))
  · obtain ⟨b0, off0, hsb, _⟩ := hc 0 _ (at_some (by omega))
    subst hsb
    have hle : (ws.take 60).length = 60 := by rw [List.length_take]; omega
    refine lists_gt (ws.take 60) 60 hle (Nat.le_refl _) (fun y hy => hlt y (List.mem_of_mem_take hy)) b0 off0 ws.length cap rfl (by omega) hcap w hG (fun j hj => ?_)
    have e : ws[j]? = some (wsAt (ws.take 60) j) := by
      have := at_some (ws := ws.take 60) (j := j) (by omega)
      rw [List.getElem?_take, if_pos hj] at this
      exact this
    exact hc j _ e
open Go.ChangeShapes Go.WideShapes Go.ChangeAt
set_option maxRecDepth 100000 in
theorem walks : Frame.WalksShaped L9 4 Tryz.f4 := by
  intro H enc W base args ds ps hL hsh hval hA
  rw [Tryz.params4] at hA hval
  obtain ⟨v0, d0, hargs, rfl, h0⟩ := trodAll_one hA
  obtain rfl : args = #[v0] := by cases args; simp_all
  obtain ⟨l0, e0⟩ := open_words (hval 0 23 v0 rfl rfl) h0
  exact walk l0 v0 W (g2_of_laid hL hsh) e0
set_option maxRecDepth 100000 in
theorem said : Rows.AsmListsSaid :=
  OpenClaim.holds_of_wide 4 Tryz.f4 rfl rfl rfl rfl rfl rfl rfl ⟨rfl, rfl, rfl, rfl, rfl⟩ rfl rfl rfl rfl rfl (by kernel_rfl) Tryz.func4 (by kernel_rfl)
    (of_decide_eq_true (by kernel_rfl)) (by unfold Func.isWrapper; first | (rw [if_pos (by decide +kernel)]; kernel_rfl) | (rw [if_neg (by decide +kernel)]; exact ⟨rfl, rfl⟩))
    (fun os started H enc _ => Frame.liftShaped L9 os started H enc _ _ Rows.asmListsSpec 4 (by kernel_rfl) Tryz.func4 Tryz.underlying4 (by kernel_rfl) rfl (by kernel_rfl)
      (fun ds h => by match ds, h with | [_], _ => exact ⟨rfl, rfl, rfl⟩)
      (ChangeSpec.witness_shaped (enc := enc) (C := Tryz.checked) (os := os) (X := fun w _ => laidMetH Tryz.prog L9 w) false (World.laidAll Tryz.prog os L9) #[.slice none 0 0] 8 (World.laidAll_os _ _ _) (lay_shaped os _) (by kernel_rfl) (by kernel_rfl) (by kernel_rfl) (lay_met os _)) walks)
set_option maxRecDepth 100000 in
theorem proved : Rows.AsmListsCardSaid :=
  Claim7.holds_tied_plain_at .later [] [.data, .data, .data, .data, .data, .data, .sentinel, .sentinel, .pinned] true _ true said (fun _ h => by cases h) (by kernel_rfl) (fun _ h => by cases h) asmLists_row_tie rfl ⟨rfl, rfl⟩ (by kernel_rfl) rfl
    (fun f fn hf hfn => by
      obtain rfl : f = 4 := Option.some.inj ((show Tryz.prog.funcNamed "mintmark/mintmarklaw14.AsmLists" = some 4 by kernel_rfl).symm.trans hf) |>.symm
      obtain rfl : fn = Tryz.f4 := (Option.some.inj (Tryz.func4.symm.trans hfn)).symm
      exact ⟨by kernel_rfl, fun j t ht => by
        rw [Tryz.params4] at ht
        have hm : t ∈ [23] := by have := Array.mem_of_getElem? ht; simp at this; simp; first | omega | grind
        have hall : ([23].all fun u => !Tryz.prog.wantsStandIn u) = true := by kernel_rfl
        exact (show Tryz.prog.wantsStandIn t = false by simpa using List.all_eq_true.1 hall t hm)⟩)
    (by kernel_rfl)

end Go.Proofs.YtlommbeokbicjaaGreatDoor.AsmLists
