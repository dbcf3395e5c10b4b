/-
  PteRight holds: for every entry the law returns true and turns nothing that was there, where the table of places holds what the program's text lays.
-/
import Derived.Test.YtiimoepngppabaaDoorPteRight
import Derived.Test.YtiimoepngppabaaDoorPteLaid
import Derived.Test.YtiimoepngppabaaDoorPteRef2
import Derived.Test.YtiimoepngppabaaDoorPteWay1
import Derived.Test.YtiimoepngppabaaDoorPteWay2
import Derived.Test.YtiimoepngppabaaDoorPteWay3
import Derived.Test.YtiimoepngppabaaDoorPteWay4
namespace Go.Proofs.YtiimoepngppabaaDoor.PteRight
open Go.RowKit Words FieldMath PteMath

theorem right_f (b1 b2 b3 b4 b5 b6 b7 b8 b9 b10 b11 : Bool) (N : Int) : rightQ false b1 b2 b3 b4 b5 b6 b7 b8 b9 b10 b11 N = true := by simp [rightQ]
theorem leaf_x (b0 b1 b2 b3 : Bool) (hL : (b0 && (b1 || b2 || b3)) = true) (h : (b1 || b3) = true) : (b0 && (b1 || false || b3)) = true := by
  cases b0 <;> cases b1 <;> cases b3 <;> simp_all
theorem right_x (b0 b1 b2 b3 b4 b5 b6 b7 b8 b9 b10 b11 : Bool) (N : Int) (hR : rightQ b0 b1 b2 b3 b4 b5 b6 b7 b8 b9 b10 b11 N = true) (hL : (b0 && (b1 || b2 || b3)) = true) (h : (b1 || b3) = true) : rightQ b0 b1 false b3 b4 b5 b6 b7 false b9 b10 b11 N = true := by
  unfold rightQ at *
  generalize decide (17592186044416 ≤ N) = g at *
  cases b0 <;> cases b1 <;> cases b3 <;> cases g <;> simp_all
theorem right_y (b0 b1 b2 b3 b4 b5 b6 b7 b8 b9 b10 b11 : Bool) (N : Int) (hR : rightQ b0 b1 b2 b3 b4 b5 b6 b7 b8 b9 b10 b11 N = true) (hL : (b0 && (b1 || b2 || b3)) = true) : rightQ b0 b1 b2 b3 b4 b5 b6 b7 false false b10 b11 N = true := by
  unfold rightQ at *
  generalize decide (17592186044416 ≤ N) = g at *
  cases b0 <;> cases b1 <;> cases b2 <;> cases b3 <;> cases g <;> simp_all
theorem right_z (b0 b1 b2 b3 b4 b5 b6 b7 b8 b9 b10 b11 : Bool) (N : Int) (hR : rightQ b0 b1 b2 b3 b4 b5 b6 b7 b8 b9 b10 b11 N = true) (hL : (b0 && (b1 || b2 || b3)) = true) : rightQ b0 b1 b2 b3 false b5 false false b8 b9 false false N = true := by
  unfold rightQ at *
  generalize decide (17592186044416 ≤ N) = g at *
  cases b0 <;> cases b1 <;> cases b2 <;> cases b3 <;> cases g <;> simp_all
theorem right_t (N : Int) (h : N < 17592186044416) : rightQ true false false false false false false false false false false false N = true := by
  unfold rightQ
  rw [decide_eq_false (by omega)]
  rfl
theorem walk (b0 b1 b2 b3 b4 b5 b6 b7 b8 b9 b10 b11 : Bool) (F : BitVec 64) (w : World) (hT : Tab w) : Calls Tryd.prog 5 #[.agg #[.bool b0, .bool b1, .bool b2, .bool b3, .bool b4, .bool b5, .bool b6, .bool b7, .bool b8, .bool b9, .bool b10, .bool b11, .int .u64 (F.toNat : Int)]] w (Makes (.bool true) w) := by
  obtain ⟨v, hv⟩ : ∃ v : BitVec 64, v = F &&& 65535#64 := ⟨_, rfl⟩
  have hG : bits .and .u64 (F.toNat : Int) 65535 = (v.toNat : Int) := by rw [hv]; exact and_bv F 65535#64
  have hlt : v.toNat < 65536 := by
    rw [hv, BitVec.toNat_and]
    exact Nat.lt_of_le_of_lt Nat.and_le_right (by decide)
  have hw : wordN true false false false false false false false false false false false v.toNat = 1 + v.toNat * 1024 := by
    unfold wordN
    simp [bitN]
    omega
  have hH : IntKind.u64.wrap ((v.toNat : Int) * 1024) = ((v.toNat * 1024 : Nat) : Int) := by rw [IntKind.wrap_u64]; omega
  have hA : IntKind.u64.wrap (1 + ((v.toNat * 1024 : Nat) : Int)) = ((1 + v.toNat * 1024 : Nat) : Int) := by rw [IntKind.wrap_u64]; omega
  have t1 := fun W h => right_any true false false false false false false false false false false false v W h
  have t2 := fun W (_ : Tab W) => leaf_any true false false false false false false false false false false false v W
  have t3 := fun W h => word_any true false false false false false false false false false false false v W h
  have t4 := fun W h => ofword_any true false false false false false false false false false false false v W h
  rw [word_is, hw] at t3 t4
  rw [Nat.mod_eq_of_lt (show v.toNat < 17592186044416 by omega)] at t4
  rw [right_t _ (by omega)] at t1
  cases hR : rightQ b0 b1 b2 b3 b4 b5 b6 b7 b8 b9 b10 b11 (F.toNat : Int) with
  | false => exact walk_d_way b0 b1 b2 b3 b4 b5 b6 b7 b8 b9 b10 b11 _ _ _ _ (fun W h => by have := right_any false b1 b2 b3 b4 b5 b6 b7 b8 b9 b10 b11 F W h; rwa [right_f] at this) (fun W _ => leaf_any false b1 b2 b3 b4 b5 b6 b7 b8 b9 b10 b11 F W) (fun W h => by have := right_any b0 b1 b2 b3 b4 b5 b6 b7 b8 b9 b10 b11 F W h; rwa [hR] at this) t1 t2 t3 t4 hG hH hA w hT
  | true =>
    cases hL : (b0 && (b1 || b2 || b3)) with
    | false => exact walk_e_way b0 b1 b2 b3 b4 b5 b6 b7 b8 b9 b10 b11 _ _ _ _ (fun W h => by have := right_any false b1 b2 b3 b4 b5 b6 b7 b8 b9 b10 b11 F W h; rwa [right_f] at this) (fun W _ => leaf_any false b1 b2 b3 b4 b5 b6 b7 b8 b9 b10 b11 F W) (fun W h => by have := right_any b0 b1 b2 b3 b4 b5 b6 b7 b8 b9 b10 b11 F W h; rwa [hR] at this) (fun W _ => by have := leaf_any b0 b1 b2 b3 b4 b5 b6 b7 b8 b9 b10 b11 F W; rwa [hL] at this) t1 t2 t3 t4 hG hH hA w hT
    | true =>
      cases b1 with
      | true => exact walk_a_way b0 b2 b3 b4 b5 b6 b7 b8 b9 b10 b11 _ _ _ _ (fun W h => by have := right_any false true b2 b3 b4 b5 b6 b7 b8 b9 b10 b11 F W h; rwa [right_f] at this) (fun W _ => leaf_any false true b2 b3 b4 b5 b6 b7 b8 b9 b10 b11 F W) (fun W h => by have := right_any b0 true b2 b3 b4 b5 b6 b7 b8 b9 b10 b11 F W h; rwa [hR] at this) (fun W _ => by have := leaf_any b0 true b2 b3 b4 b5 b6 b7 b8 b9 b10 b11 F W; rwa [hL] at this) (fun W h => by have := right_any b0 true false b3 b4 b5 b6 b7 false b9 b10 b11 F W h; rwa [right_x _ _ _ _ _ _ _ _ _ _ _ _ _ hR hL rfl] at this) (fun W _ => by have := leaf_any b0 true false b3 b4 b5 b6 b7 false b9 b10 b11 F W; rwa [leaf_x _ _ _ _ hL rfl] at this) (fun W h => by have := right_any b0 true b2 b3 b4 b5 b6 b7 false false b10 b11 F W h; rwa [right_y _ _ _ _ _ _ _ _ _ _ _ _ _ hR hL] at this) (fun W h => by have := right_any b0 true b2 b3 false b5 false false b8 b9 false false F W h; rwa [right_z _ _ _ _ _ _ _ _ _ _ _ _ _ hR hL] at this) t1 t2 t3 t4 hG hH hA w hT
      | false =>
        cases b3 with
        | true => exact walk_b_way b0 b2 b4 b5 b6 b7 b8 b9 b10 b11 _ _ _ _ (fun W h => by have := right_any false false b2 true b4 b5 b6 b7 b8 b9 b10 b11 F W h; rwa [right_f] at this) (fun W _ => leaf_any false false b2 true b4 b5 b6 b7 b8 b9 b10 b11 F W) (fun W h => by have := right_any b0 false b2 true b4 b5 b6 b7 b8 b9 b10 b11 F W h; rwa [hR] at this) (fun W _ => by have := leaf_any b0 false b2 true b4 b5 b6 b7 b8 b9 b10 b11 F W; rwa [hL] at this) (fun W h => by have := right_any b0 false false true b4 b5 b6 b7 false b9 b10 b11 F W h; rwa [right_x _ _ _ _ _ _ _ _ _ _ _ _ _ hR hL rfl] at this) (fun W _ => by have := leaf_any b0 false false true b4 b5 b6 b7 false b9 b10 b11 F W; rwa [leaf_x _ _ _ _ hL rfl] at this) (fun W h => by have := right_any b0 false b2 true b4 b5 b6 b7 false false b10 b11 F W h; rwa [right_y _ _ _ _ _ _ _ _ _ _ _ _ _ hR hL] at this) (fun W h => by have := right_any b0 false b2 true false b5 false false b8 b9 false false F W h; rwa [right_z _ _ _ _ _ _ _ _ _ _ _ _ _ hR hL] at this) t1 t2 t3 t4 hG hH hA w hT
        | false => exact walk_c_way b0 b2 b4 b5 b6 b7 b8 b9 b10 b11 _ _ _ _ (fun W h => by have := right_any false false b2 false b4 b5 b6 b7 b8 b9 b10 b11 F W h; rwa [right_f] at this) (fun W _ => leaf_any false false b2 false b4 b5 b6 b7 b8 b9 b10 b11 F W) (fun W h => by have := right_any b0 false b2 false b4 b5 b6 b7 b8 b9 b10 b11 F W h; rwa [hR] at this) (fun W _ => by have := leaf_any b0 false b2 false b4 b5 b6 b7 b8 b9 b10 b11 F W; rwa [hL] at this) (fun W h => by have := right_any b0 false b2 false b4 b5 b6 b7 false false b10 b11 F W h; rwa [right_y _ _ _ _ _ _ _ _ _ _ _ _ _ hR hL] at this) (fun W h => by have := right_any b0 false b2 false false b5 false false b8 b9 false false F W h; rwa [right_z _ _ _ _ _ _ _ _ _ _ _ _ _ hR hL] at this) t1 t2 t3 t4 hG hH hA w hT

open Go.ChangeShapes Go.WideShapes Go.ChangeAt
set_option maxRecDepth 100000 in
theorem walks : Frame.WalksLaid [("mintmark/pte.places", Rows.laid_mintmark_pte_places)] 5 Tryd.f5 := by
  intro H enc W base args ds ps hL hval hA
  rw [Tryd.params5] at hA hval
  obtain ⟨v0, d0, hargs, rfl, h0⟩ := trodAll_one hA
  obtain rfl : args = #[v0] := by cases args; simp_all
  obtain ⟨cs0, rfl, hf0⟩ := Frame.open_struct (F := 4) (ks := [.inr false, .inr false, .inr false, .inr false, .inr false, .inr false, .inr false, .inr false, .inr false, .inr false, .inr false, .inr false, .inl .u64]) Tryd.underlying24 (by kernel_rfl) (hval 0 24 v0 rfl rfl) h0
  obtain ⟨z0_0, z0_1, z0_2, z0_3, z0_4, z0_5, z0_6, z0_7, z0_8, z0_9, z0_10, z0_11, Z0_12, rfl⟩ := open_ent hf0
  exact walk z0_0 z0_1 z0_2 z0_3 z0_4 z0_5 z0_6 z0_7 z0_8 z0_9 z0_10 z0_11 Z0_12 W (tab_of_laid hL)
set_option maxRecDepth 100000 in
theorem said : Rows.PteRightSaid :=
  OpenClaim.holds_of_wide 5 Tryd.f5 rfl rfl rfl rfl rfl rfl rfl ⟨rfl, rfl, rfl, rfl, rfl⟩ rfl rfl rfl rfl rfl (by kernel_rfl) Tryd.func5 (by kernel_rfl)
    (of_decide_eq_true (by kernel_rfl)) (by unfold Func.isWrapper; first | (rw [if_pos (by decide +kernel)]; kernel_rfl) | (rw [if_neg (by decide +kernel)]; exact ⟨rfl, rfl⟩))
    (fun os started H enc _ => Frame.liftLaid [("mintmark/pte.places", Rows.laid_mintmark_pte_places)] os started H enc _ _ Rows.pteRightSpec 4 (by kernel_rfl) Tryd.func5 Tryd.underlying4 (by kernel_rfl) rfl (by kernel_rfl)
      (fun ds h => by match ds, h with | [_], _ => exact ⟨rfl, rfl, rfl⟩)
      (ChangeSpec.witness_shaped (enc := enc) (C := Tryd.checked) (os := os) (X := fun w _ => laidMetH Tryd.prog [("mintmark/pte.places", Rows.laid_mintmark_pte_places)] w) false (World.doorLaid Tryd.prog 400 os) #[.agg #[.bool false, .bool false, .bool false, .bool false, .bool false, .bool false, .bool false, .bool false, .bool false, .bool false, .bool false, .bool false, .int .u64 0]] 8 rfl (World.shaped_of_RefB (by kernel_rfl) (by kernel_rfl)) (by kernel_rfl) (by kernel_rfl) (by kernel_rfl) (door_met os _)) walks)
set_option maxRecDepth 100000 in
theorem proved : Rows.PteRightCardSaid :=
  Claim7.holds_tied_plain_at .later [] [.data] true _ false said (fun _ h => by cases h) (by kernel_rfl) (fun _ h => by cases h) pteRight_row_tie rfl ⟨rfl, rfl⟩ (by kernel_rfl) rfl
    (fun f fn hf hfn => by
      obtain rfl : f = 5 := Option.some.inj ((show Tryd.prog.funcNamed "mintmark/mintmarklaw09.PteRight" = some 5 by kernel_rfl).symm.trans hf) |>.symm
      obtain rfl : fn = Tryd.f5 := (Option.some.inj (Tryd.func5.symm.trans hfn)).symm
      exact ⟨by kernel_rfl, fun j t ht => by
        rw [Tryd.params5] at ht
        have hm : t ∈ [24] := by have := Array.mem_of_getElem? ht; simp at this; simp; first | omega | grind
        have hall : ([24].all fun u => !Tryd.prog.wantsStandIn u) = true := by kernel_rfl
        exact (show Tryd.prog.wantsStandIn t = false by simpa using List.all_eq_true.1 hall t hm)⟩)
    (by kernel_rfl)
end Go.Proofs.YtiimoepngppabaaDoor.PteRight
