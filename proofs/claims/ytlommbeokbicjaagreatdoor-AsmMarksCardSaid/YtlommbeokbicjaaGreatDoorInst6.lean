/-
  What inst.Decode answers.
-/
import Derived.Test.YtlommbeokbicjaaGreatDoorInst5
namespace Go.Proofs.YtlommbeokbicjaaGreatDoor
open Go.RowKit Words FieldMath InstMath

theorem match_walk {k : Nat} (h1 : 1 ≤ k) (h2 : k ≤ 69) {x : BitVec 64} (hx : x.toNat < 4294967296) : (bits .and .u32 (x.toNat : Int) (fixN (shp k) : Int) == (wrd k : Int)) = matchB k x := by
  have ok := ok_shape (shape_of h1 h2)
  have hf := ok.fixl
  have hw := wrd_lt k h2
  rw [u32_and_nat _ _ hx hf]
  unfold matchB
  rw [Bool.eq_iff_iff, beq_iff_eq, beq_iff_eq, ← BitVec.toNat_inj, BitVec.toNat_and, BitVec.toNat_ofNat, BitVec.toNat_ofNat, Nat.mod_eq_of_lt (by omega), Nat.mod_eq_of_lt (by omega)]
  omega
def decV : Option Nat → BitVec 64 → Value
  | some k, x => .tuple #[instV k (opsI k x 0) (opsI k x 1) (opsI k x 2) (opsI k x 3), .bool true]
  | none, _ => .tuple #[instV 0 0 0 0 0, .bool false]
/-- Which instruction a word is: none, or the only one. -/
def IsDec (x : BitVec 64) : Option Nat → Prop
  | some k => 1 ≤ k ∧ k ≤ 69 ∧ matchB k x = true
  | none => ∀ k, 1 ≤ k → k ≤ 69 → matchB k x = false
theorem dec_ex (x : BitVec 64) : ∃ d, IsDec x d := by
  by_cases h : ∃ k, 1 ≤ k ∧ k ≤ 69 ∧ matchB k x = true
  · obtain ⟨k, hk⟩ := h
    exact ⟨some k, hk⟩
  · exact ⟨none, fun k h1 h2 => by
      cases e : matchB k x with
      | false => rfl
      | true => exact absurd ⟨k, h1, h2, e⟩ h⟩

set_option maxHeartbeats 2000000 in
theorem dec_any (x : BitVec 64) (hx : x.toNat < 4294967296) (d : Option Nat) (hd : IsDec x d) (w : World) (hT : TabW w) :
    Calls Tryz.prog 13 #[.int .u32 (x.toNat : Int)] w (Makes (decV d x) w) := by
  have CS : Hid (∀ (k : Nat), 1 ≤ k ∧ k ≤ 69 → ∀ W, Calls Tryz.prog 15 #[.int .i64 (k : Int)] W (Quiet (.int .u8 (shp k : Int)) W)) := hide (fun k h => shape_yes k h)
  have CX : Hid (∀ (s : Nat), IsShape s → ∀ W, Calls Tryz.prog 37 #[.int .u8 (s : Int)] W (Quiet (.int .u32 (fixN s : Int)) W)) := hide fixed_any
  have CR : Hid (∀ (k : Nat), 1 ≤ k → k ≤ 69 → ∀ W, Calls Tryz.prog 38 #[.int .i64 (k : Int), .int .u32 (x.toNat : Int)] W (Makes (instV k (opsI k x 0) (opsI k x 1) (opsI k x 2) (opsI k x 3)) W)) := hide (fun k h1 h2 => read_any k h1 h2 x hx)
  have HD := hide hd
  have HX := hide hx
  have HT := hide hT
  have hg := hT.pos
  clear hd hT
  have SS := cell_same
  have LB' := ltB_add
  have LS := ltB_self
  have LA' := alloc_reads
  have LH := alloc_holds
  go_enter Tryz.func13, Tryz.ntmps13
  go_wp2
  go_loopw [4] (fun i wr => ∃ (j : Nat), i = .int .i64 (j : Int) ∧ 1 ≤ j ∧ j ≤ 70 ∧ (∀ k, 1 ≤ k → k < j → matchB k x = false) ∧ Below w.heap.size w wr ∧ Own wr w.heap.size 5 ∧ w.heap.size < wr.heap.size) (fun i _ => 70 - (intOf i).toNat)
  case atStart => exact ⟨1, rfl, by omega, by omega, fun k h1 h2 => by omega, by (repeat (first | with_reducible assumption | with_reducible exact Below.refl _ _ | with_reducible refine Below.drew ?_ | with_reducible refine below_drewN ?_ _ | with_reducible refine bw_alloc ?_ _ | (with_reducible refine bw_set ?_ ?_ _; focus (dsimp only; omega)) | (with_reducible apply bw_behind; with_reducible assumption))), by (repeat (first | with_reducible assumption | with_reducible refine o_dr _ ?_ | with_reducible refine o_d1 ?_ | with_reducible refine o_set ?_ | (with_reducible refine o_new ?_ ?_; (focus (simp)); (focus (simp))) | with_reducible refine o_al _ ?_ | (with_reducible apply o_be; with_reducible assumption))), by simp⟩
  case round =>
    obtain ⟨j, rfl, hj, hj2, hall, hB, hO, hz⟩ := hrel
    have HA := hide hall
    clear hall
    by_cases hlt : j < 70
    · have hc := (hB.cell (p := ⟨0, j, none⟩) (by exact hg)).trans (HT.out j hlt)
      have hm := match_walk hj (by omega) HX.out
      have C1 := hide (CS.out j ⟨hj, by omega⟩)
      have C2 := hide (CX.out (shp j) (shape_of hj (by omega)))
      have C3 := hide (CR.out j hj (by omega))
      have hlt2 : j ≤ 69 := by omega
      have hlt3 : (j : Int) < 70 := by omega
      generalize shp j = s at *
      generalize (fixN s : Int) = fx at *
      generalize (wrd j : Int) = wj at *
      obtain ⟨M, hM⟩ : ∃ M, matchB j x = M := ⟨_, rfl⟩
      rw [hM] at hm
      have HM := hide hM
      clear hM CS CX CR
      go_upto_region 4 with fail

      refine wp_abs (fun W => Below w.heap.size w W ∧ W.cell? ⟨0, j, none⟩ = some (.int .u32 wj) ∧ Own W (w.heap.size) 5) ?_ ?_
      · refine ⟨?_, ?_, ?_⟩
        all_goals (first | with_reducible assumption | ((repeat (first | with_reducible assumption | with_reducible refine c_dr _ ?_ | with_reducible refine c_d1 ?_ | with_reducible refine c_al _ ?_ | (with_reducible refine c_set ?_ ?_; focus (dsimp only; omega)) | (with_reducible apply c_be; with_reducible assumption))); done) | ((repeat (first | with_reducible assumption | with_reducible refine o_dr _ ?_ | with_reducible refine o_d1 ?_ | with_reducible refine o_set ?_ | (with_reducible refine o_new ?_ ?_; (focus (simp)); (focus (simp))) | with_reducible refine o_al _ ?_ | (with_reducible apply o_be; with_reducible assumption))); done) | ((repeat (first | with_reducible assumption | with_reducible exact Below.refl _ _ | with_reducible refine Below.drew ?_ | with_reducible refine below_drewN ?_ _ | with_reducible refine bw_alloc ?_ _ | (with_reducible refine bw_set ?_ ?_ _; focus (dsimp only; omega)) | (with_reducible apply bw_behind; with_reducible assumption))); done) | (simp [go_sem, *]; omega) | (simp (maxDischargeDepth := 4) [go_sem, *]; done))
      rintro w0 ⟨hB0, c0, o0⟩
      have y0 := behind_cell0 c0
      have hsome := Behind.any w0
      clear c0
      refine wp_region_behind w0 (by kernel_rfl) (by kernel_rfl) (Below.refl _ _) ?_
      repeat (go_big_quiet_step (first | (go_at_call 15; with_reducible first | exact behind_one0 C1.out _) | (go_at_call 37; with_reducible first | exact behind_one0 C2.out _)))
      refine wpQuiet_nil ?_
      rintro _ ⟨y, rfl⟩
      have hBy := bw_behind y.below hB0
      have po0 := o_be y.below o0
      clear o0
      have x0 := y0 y
      clear hsome y0
      obtain ⟨w1, hw1⟩ : ∃ W, W = y.world := ⟨_, rfl⟩
      rw [← hw1] at hBy x0 po0 ⊢
      clear hw1 y hB0
      cases M with
      | true =>
        obtain rfl : d = some j := by
          cases d with
          | none => have := HD.out j hj hlt2; rw [HM.out] at this; cases this
          | some k => rw [match_one ⟨HD.out.1, HD.out.2.1⟩ ⟨hj, hlt2⟩ HD.out.2.2 HM.out]
        have o5 := po0
        obtain ⟨v0, e0⟩ := o5.val 0 (by omega)
        obtain ⟨v1, e1⟩ := o5.val 1 (by omega)
        obtain ⟨v2, e2⟩ := o5.val 2 (by omega)
        obtain ⟨v3, e3⟩ := o5.val 3 (by omega)
        obtain ⟨v4, e4⟩ := o5.val 4 (by omega)
        have d0 := o5.free 0 (by omega)
        have d1 := o5.free 1 (by omega)
        have d2 := o5.free 2 (by omega)
        have d3 := o5.free 3 (by omega)
        have d4 := o5.free 4 (by omega)
        have z1 : ltB w.heap.size w1.heap.size = true := by
          have := World.block_lt_of_cell? _ _ e0
          unfold ltB
          simpa using this
        unfold instV at C3
        obtain ⟨I0, i0⟩ : ∃ I0, opsI j x 0 = I0 := ⟨_, rfl⟩
        obtain ⟨I1, i1⟩ : ∃ I1, opsI j x 1 = I1 := ⟨_, rfl⟩
        obtain ⟨I2, i2⟩ : ∃ I2, opsI j x 2 = I2 := ⟨_, rfl⟩
        obtain ⟨I3, i3⟩ : ∃ I3, opsI j x 3 = I3 := ⟨_, rfl⟩
        rw [i0, i1, i2, i3] at C3
        have HI : Hid (decV (some j) x = .tuple #[.agg #[.int .i64 j, .int .i64 I0, .int .i64 I1, .int .i64 I2, .int .i64 I3], .bool true]) := hide (by rw [← i0, ← i1, ← i2, ← i3]; rfl)
        clear i0 i1 i2 i3
        go_wp2_with (first | (go_at_call 38; (with_reducible first | refine (C3.out _).mono ?_); rintro e w4 ⟨rfl, hb4⟩; have hr4 := below_reads hb4; have hh4 := below_holds hb4; obtain ⟨m4, hs4⟩ := below_grew hb4))
        refine bodyPost_ret (v := .tuple #[.agg #[.int .i64 j, .int .i64 I0, .int .i64 I1, .int .i64 I2, .int .i64 I3], .bool true]) (by simp (maxDischargeDepth := 4) [results, Tryz.results13, go_sem, *]) rfl ?_
        refine ⟨congrArg _ HI.out.symm, ?_⟩
        repeat (first | with_reducible assumption | with_reducible exact Below.refl _ _ | with_reducible refine Below.drew ?_ | with_reducible refine below_drewN ?_ _ | with_reducible refine bw_alloc ?_ _ | (with_reducible refine bw_set ?_ ?_ _; focus (dsimp only; omega)) | (with_reducible apply bw_behind; with_reducible assumption))
      | false =>
        go_wp2
        go_roundw
        case rel =>
          refine ⟨j + 1, by go_num, by omega, by omega, fun k h1 h2 => ?_, by assumption, by assumption, ?_⟩
          · by_cases hk : k = j
            · subst hk; exact HM.out
            · exact HA.out k h1 (by omega)
          · obtain ⟨v0, e0⟩ := po0.val 0 (by omega)
            exact World.block_lt_of_cell? _ _ e0
        case measure => simp [intOf]; omega
    · obtain rfl : j = 70 := by omega
      obtain rfl : d = none := by
        cases d with
        | none => rfl
        | some k => have := HA.out k HD.out.1 (by have := HD.out.2.1; omega); rw [HD.out.2.2] at this; cases this
      obtain ⟨v0, e0⟩ := hO.val 0 (by omega)
      obtain ⟨v1, e1⟩ := hO.val 1 (by omega)
      obtain ⟨v2, e2⟩ := hO.val 2 (by omega)
      obtain ⟨v3, e3⟩ := hO.val 3 (by omega)
      obtain ⟨v4, e4⟩ := hO.val 4 (by omega)
      have d0 := hO.free 0 (by omega)
      have d1 := hO.free 1 (by omega)
      have d2 := hO.free 2 (by omega)
      have d3 := hO.free 3 (by omega)
      have d4 := hO.free 4 (by omega)
      go_wp2
      refine bodyPost_ret (v := .tuple #[.agg #[.int .i64 0, .int .i64 0, .int .i64 0, .int .i64 0, .int .i64 0], .bool false]) (by simp (maxDischargeDepth := 4) [results, Tryz.results13, go_sem, *]) rfl ?_
      refine ⟨rfl, ?_⟩
      repeat (first | with_reducible assumption | with_reducible exact Below.refl _ _ | with_reducible refine Below.drew ?_ | with_reducible refine below_drewN ?_ _ | with_reducible refine bw_alloc ?_ _ | (with_reducible refine bw_set ?_ ?_ _; focus (dsimp only; omega)) | (with_reducible apply bw_behind; with_reducible assumption))
end Go.Proofs.YtlommbeokbicjaaGreatDoor
