/-
  AsmLists, walked: words' listing is the document's, and is assembled to them.
-/
import Derived.Test.YtlommbeokbicjaaGreatDoorAsmListsMath
import Derived.Test.YtlommbeokbicjaaGreatDoorAsmRef6
import Derived.BigQuiet
import Derived.WalkMore
namespace Go.Proofs.YtlommbeokbicjaaGreatDoor
open Go.RowKit InstMath AsmMath
open Go.Lib (itoa)

theorem dec_row {D : BitVec 64 → Option Nat} {ws : List (BitVec 64)} (hD : Ds D ws) (j : Nat) (hj : j < ws.length) : ∃ K x0 x1 x2 x3 : Int, ∀ W, G W → Calls Tryz.prog 13 #[.int .u32 ((wsAt ws j).toNat : Int)] W (Makes (.tuple #[.agg #[.int .i64 K, .int .i64 x0, .int .i64 x1, .int .i64 x2, .int .i64 x3], .bool (D (wsAt ws j)).isSome]) W) := by
  have hy := hD.lt _ (ws_mem hj)
  have hd := hD.is (wsAt ws j)
  cases hdd : D (wsAt ws j) with
  | none =>
    rw [hdd] at hd
    exact ⟨0, 0, 0, 0, 0, fun W hW => dec_any (wsAt ws j) hy none hd W hW.words⟩
  | some k =>
    rw [hdd] at hd
    exact ⟨k, _, _, _, _, fun W hW => dec_any (wsAt ws j) hy (some k) hd W hW.words⟩
theorem all_step (D : BitVec 64 → Option Nat) (ws : List (BitVec 64)) (j : Nat) (hj : j < ws.length) : decide (cD D ws (j + 1) = j + 1) = (decide (cD D ws j = j) && (D (wsAt ws j)).isSome) := by
  have h1 := cD_le D ws j
  have e : cD D ws (j + 1) = cD D ws j + (if (decide (j < ws.length) && (D (wsAt ws j)).isSome) = true then 1 else 0) := rfl
  rw [e, decide_eq_true hj, Bool.true_and]
  cases (D (wsAt ws j)).isSome with
  | true => simp
  | false =>
    simp
    omega

set_option maxRecDepth 100000 in
set_option maxHeartbeats 8000000 in
theorem lists_le (ws : List (BitVec 64)) (n : Nat) (hnn : ws.length = n) (hl : n ≤ 60) (hlt : ∀ y ∈ ws, y.toNat < 4294967296) (sa : Option Addr) (cap : Nat) (w : World) (hG2 : G2 w) (hcell : ∀ j, j < n → ∃ b off, sa = some ⟨b, off, none⟩ ∧ w.cell? ⟨b, off + j, none⟩ = some (.int .u32 ((wsAt ws j).toNat : Int))) :
    Calls Tryz.prog 4 #[.slice sa n cap] w (Makes (.bool true) w) := by
  obtain ⟨D, hDis⟩ : ∃ D : BitVec 64 → Option Nat, ∀ y, IsDec y (D y) := Classical.skolem.1 dec_ex
  have hD : Ds D ws := ⟨hlt, hDis⟩
  obtain ⟨Y, hYA, hYall⟩ := lists_asm hD (by omega)
  rw [hnn] at hYA hYall
  have hG := hG2.g
  have CL : Hid (∀ W, Below w.heap.size w W → G2 W → Calls Tryz.prog 11 #[.slice sa n cap] W (Makes (.string (str (listT D ws (n + 1)))) W)) := hide (fun W hb hW => listing_any D ws hD n hnn (by omega) sa _ W hW (fun j hj => by
    obtain ⟨b, off, h1, h2⟩ := hcell j hj
    exact ⟨b, off, h1, c_be hb h2⟩))
  have CR : Hid (∀ W, Below w.heap.size w W → Calls Tryz.prog 12 #[.slice sa n cap] W (Makes (.string (str (listT D ws (n + 1)))) W)) := hide (fun W hb => rlisting_any D ws hD n hnn (by omega) sa _ W (fun j hj => by
    obtain ⟨b, off, h1, h2⟩ := hcell j hj
    exact ⟨b, off, h1, c_be hb h2⟩))
  have HR : Hid (∀ j, j < n → ∃ K x0 x1 x2 x3 : Int, ∀ W, G W → Calls Tryz.prog 13 #[.int .u32 ((wsAt ws j).toNat : Int)] W (Makes (.tuple #[.agg #[.int .i64 K, .int .i64 x0, .int .i64 x1, .int .i64 x2, .int .i64 x3], .bool (D (wsAt ws j)).isSome]) W)) := hide (fun j hj => dec_row hD j (by omega))
  have CA : Hid (∀ W, G W → Calls Tryz.prog 9 #[.string (str (listT D ws (n + 1)))] W (fun e w' => ∃ ua uc, e = .returned (.tuple #[.slice ua (cD D ws n) uc, .int .i64 0, .int .i64 0]) ∧ Below W.heap.size W w' ∧ Hid (w'.ownsRow W.heap.size 24 1 (.slice ua (cD D ws n) uc) (cD D ws n) (wordV ((List.range (cD D ws n)).map Y))))) := hide (fun W hW => (hYA W hW).mono fun e w' h => by
    obtain ⟨v, h1, h2, h3⟩ := h
    obtain ⟨ua, uc, rfl⟩ := owns_len h3
    exact ⟨ua, uc, h1, h2, hide h3⟩)
  have CF : Hid (∀ W N0, G2 W → W.cell? ⟨N0, 0, none⟩ = some (.int .u32 111) → Calls Tryz.prog 11 #[.slice (some ⟨N0, 0, none⟩) 1 1] W (Makes (.string ⟨#[109, 48, 58, 10, 106, 97, 108, 32, 99, 48, 44, 32, 109, 48, 10]⟩) W)) := hide (fun W N0 hW hc => by
    have hD1 : Ds D [111#64] := ⟨fun y hy => by simp at hy; subst hy; decide, hDis⟩
    have := listing_any D [111#64] hD1 1 rfl (by omega) (some ⟨N0, 0, none⟩) 1 W hW (fun j hj => by
      obtain rfl : j = 0 := by omega
      exact ⟨N0, 0, rfl, hc⟩)
    rw [list_111 hDis] at this
    exact this)
  have CO := hide one_any
  have HS : Hid (∀ j, j < n → decide (cD D ws (j + 1) = j + 1) = (decide (cD D ws j = j) && (D (wsAt ws j)).isSome)) := hide (fun j hj => all_step D ws j (by omega))
  have HCL := hide hcell
  have HYY := hide hYall
  clear hcell hD hnn hYA hYall hlt hDis
  generalize str (listT D ws (n + 1)) = S at *
  have SS := cell_same
  have LB' := ltB_add
  have LS := ltB_self
  have LA' := alloc_reads
  have LH := alloc_holds
  go_enter Tryz.func4, Tryz.ntmps4
  go_upto_region 6 with (first | (go_at_call 11; (with_reducible refine (CL.out _ ?_ ?_).mono ?_); (focus (repeat (first | with_reducible assumption | with_reducible exact Below.refl _ _ | with_reducible refine Below.drew ?_ | with_reducible refine below_drewN ?_ _ | with_reducible refine bw_alloc ?_ _ | (with_reducible refine bw_set ?_ ?_ _; focus (dsimp only; omega)) | (with_reducible apply bw_behind; with_reducible assumption)))); (focus (refine hG2.behind ?_; repeat (first | with_reducible assumption | with_reducible exact Below.refl _ _ | with_reducible refine Below.drew ?_ | with_reducible refine below_drewN ?_ _ | with_reducible refine bw_alloc ?_ _ | (with_reducible refine bw_set ?_ ?_ _; focus (dsimp only; omega)) | (with_reducible apply bw_behind; with_reducible assumption)))); rintro e w1 ⟨rfl, hb1⟩; have hr1 := below_reads hb1; have hh1 := below_holds hb1; obtain ⟨m1, hs1⟩ := below_grew hb1) | (go_at_call 12; (with_reducible refine (CR.out _ ?_).mono ?_); (focus (repeat (first | with_reducible assumption | with_reducible exact Below.refl _ _ | with_reducible refine Below.drew ?_ | with_reducible refine below_drewN ?_ _ | with_reducible refine bw_alloc ?_ _ | (with_reducible refine bw_set ?_ ?_ _; focus (dsimp only; omega)) | (with_reducible apply bw_behind; with_reducible assumption)))); rintro e w2 ⟨rfl, hb2⟩; have hr2 := below_reads hb2; have hh2 := below_holds hb2; obtain ⟨m2, hs2⟩ := below_grew hb2))
  refine wp_abs (fun W => Below w.heap.size w W) ?_ ?_
  · repeat (first | with_reducible assumption | with_reducible exact Below.refl _ _ | with_reducible refine Below.drew ?_ | with_reducible refine below_drewN ?_ _ | with_reducible refine bw_alloc ?_ _ | (with_reducible refine bw_set ?_ ?_ _; focus (dsimp only; omega)) | (with_reducible apply bw_behind; with_reducible assumption))
  rintro w3 hB3
  clear CL CR hb1 hb2 hr1 hr2 hh1 hh2
  go_wp2
  go_loopw [4, 5] (fun a i wr => ∃ j : Nat, j ≤ n ∧ i = .int .i64 (j : Int) ∧ a = .bool (decide (cD D ws j = j)) ∧ Below w.heap.size w wr) (fun _ i _ => n - (intOf i).toNat)
  case atStart => exact ⟨0, by omega, rfl, rfl, by (repeat (first | with_reducible assumption | with_reducible exact Below.refl _ _ | with_reducible refine Below.drew ?_ | with_reducible refine below_drewN ?_ _ | with_reducible refine bw_alloc ?_ _ | (with_reducible refine bw_set ?_ ?_ _; focus (dsimp only; omega)) | (with_reducible apply bw_behind; with_reducible assumption)))⟩
  case round =>
    obtain ⟨j, hj, rfl, rfl, hB⟩ := hrel
    have hsz := hB.size
    have g0 : (0 : Int) ≤ (j : Int) := by omega
    by_cases hjn : j < n
    · obtain ⟨b, off, rfl, hc⟩ := HCL.out j hjn
      obtain ⟨K, x0, x1, x2, x3, hrow⟩ := HR.out j hjn
      have hX := c_be hB hc
      have lB : ltB b wr.heap.size = true := by unfold ltB; simpa using World.block_lt_of_cell? _ _ hX
      have g1 : (j : Int) < (n : Int) := by omega
      have CD := hide hrow
      have hst := HS.out j hjn
      generalize hy : ((wsAt ws j).toNat : Int) = Yj at *
      generalize (D (wsAt ws j)).isSome = ok at *
      cases hA : decide (cD D ws j = j) with
      | true =>
        rw [hA, Bool.true_and] at hst
        have HST := hide hst
        clear hy hc hrow hst hA
        go_wp2_with (first | (go_at_call 13; (first | ((with_reducible refine (CD.out _ ?_).mono ?_); (focus (refine hG.behind ?_; repeat (first | with_reducible assumption | with_reducible exact Below.refl _ _ | with_reducible refine Below.drew ?_ | with_reducible refine below_drewN ?_ _ | with_reducible refine bw_alloc ?_ _ | (with_reducible refine bw_set ?_ ?_ _; focus (dsimp only; omega)) | (with_reducible apply bw_behind; with_reducible assumption)))))); rintro e w1 ⟨rfl, hb1⟩; have hr1 := below_reads hb1; have hh1 := below_holds hb1; obtain ⟨m1, hs1⟩ := below_grew hb1))
        go_roundw
        case rel => exact ⟨j + 1, by omega, by go_num, by rw [HST.out], by (repeat (first | with_reducible assumption | with_reducible exact Below.refl _ _ | with_reducible refine Below.drew ?_ | with_reducible refine below_drewN ?_ _ | with_reducible refine bw_alloc ?_ _ | (with_reducible refine bw_set ?_ ?_ _; focus (dsimp only; omega)) | (with_reducible apply bw_behind; with_reducible assumption)))⟩
        case measure => simp [intOf]; omega
      | false =>
        rw [hA, Bool.false_and] at hst
        have HST := hide hst
        clear hy hc hrow hst hA
        go_wp2_with (first | (go_at_call 13; (first | ((with_reducible refine (CD.out _ ?_).mono ?_); (focus (refine hG.behind ?_; repeat (first | with_reducible assumption | with_reducible exact Below.refl _ _ | with_reducible refine Below.drew ?_ | with_reducible refine below_drewN ?_ _ | with_reducible refine bw_alloc ?_ _ | (with_reducible refine bw_set ?_ ?_ _; focus (dsimp only; omega)) | (with_reducible apply bw_behind; with_reducible assumption)))))); rintro e w1 ⟨rfl, hb1⟩; have hr1 := below_reads hb1; have hh1 := below_holds hb1; obtain ⟨m1, hs1⟩ := below_grew hb1))
        go_roundw
        case rel => exact ⟨j + 1, by omega, by go_num, by rw [HST.out], by (repeat (first | with_reducible assumption | with_reducible exact Below.refl _ _ | with_reducible refine Below.drew ?_ | with_reducible refine below_drewN ?_ _ | with_reducible refine bw_alloc ?_ _ | (with_reducible refine bw_set ?_ ?_ _; focus (dsimp only; omega)) | (with_reducible apply bw_behind; with_reducible assumption)))⟩
        case measure => simp [intOf]; omega
    · obtain rfl : j = n := by omega
      cases hA : decide (cD D ws j = j) with
      | true =>
        have hcn : cD D ws j = j := of_decide_eq_true hA
        rw [hcn] at CA
        have HYY := hide (HYY.out hcn)
        clear hA hcn
        go_wp2_with (first | (go_at_call 9; (with_reducible refine (CA.out _ ?_).mono ?_); (focus (refine hG.behind ?_; repeat (first | with_reducible assumption | with_reducible exact Below.refl _ _ | with_reducible refine Below.drew ?_ | with_reducible refine below_drewN ?_ _ | with_reducible refine bw_alloc ?_ _ | (with_reducible refine bw_set ?_ ?_ _; focus (dsimp only; omega)) | (with_reducible apply bw_behind; with_reducible assumption)))); rintro e wA ⟨ua, uc, rfl, hbA, hoA⟩; have hrA := below_reads hbA; have hhA := below_holds hbA; obtain ⟨mA, hsA⟩ := below_grew hbA))
        go_loopw [11] (fun i w2 => ∃ q : Nat, q ≤ j ∧ i = .int .i64 (q : Int) ∧ Below wA.heap.size wA w2) (fun i _ => j - (intOf i).toNat)
        case atStart => exact ⟨0, by omega, rfl, by
          repeat (first | with_reducible assumption | with_reducible exact Below.refl _ _ | with_reducible refine Below.drew ?_ | with_reducible refine below_drewN ?_ _ | with_reducible refine bw_alloc ?_ _ | (with_reducible refine bw_set ?_ ?_ _; focus (dsimp only; omega)) | (with_reducible apply bw_behind; with_reducible assumption))⟩
        case round =>
          obtain ⟨q, hq, rfl, hB2⟩ := hrel
          have hszA := hB2.size
          have hBA := bw_behind hB2 (bw_behind hbA hB)
          by_cases hqj : q < j
          · obtain ⟨g, cap1, e1, _, _, hgl, hcells⟩ := owns_cell hoA.out (by omega)
            obtain ⟨b, off, rfl, hc⟩ := HCL.out q hqj
            injection e1 with e1a _ e1c
            subst e1a e1c
            have f1 : (wordV ((List.range j).map Y))[q]? = some (.int .u32 ((wsAt ws q).toNat : Int)) := by
              unfold wordV
              rw [List.getElem?_map, List.getElem?_map, List.getElem?_range hqj]
              simp [HYY.out q hqj]
            have c1 := c_be hB2 (hcells _ _ f1)
            have c2 := c_be hBA hc
            have b1 : (q : Int) < (j : Int) := by omega
            have b3 : (0 : Int) ≤ (q : Int) := by omega
            clear hcells f1 hc
            generalize ((wsAt ws q).toNat : Int) = z at *
            go_wp2
            go_region
            go_wp2
            go_roundw
            case rel =>
              refine ⟨q + 1, by omega, by go_num, ?_⟩
              repeat (first | with_reducible assumption | with_reducible exact Below.refl _ _ | with_reducible refine Below.drew ?_ | with_reducible refine below_drewN ?_ _ | with_reducible refine bw_alloc ?_ _ | (with_reducible refine bw_set ?_ ?_ _; focus (dsimp only; omega)) | (with_reducible apply bw_behind; with_reducible assumption))
            case measure => simp [intOf]; omega
          · obtain rfl : q = j := by omega
            go_wp2_with (first | (go_at_call 11; (with_reducible refine (CF.out _ _ ?_ ?_).mono ?_); (focus (refine hG2.behind ?_; repeat (first | with_reducible assumption | with_reducible exact Below.refl _ _ | with_reducible refine Below.drew ?_ | with_reducible refine below_drewN ?_ _ | with_reducible refine bw_alloc ?_ _ | (with_reducible refine bw_set ?_ ?_ _; focus (dsimp only; omega)) | (with_reducible apply bw_behind; with_reducible assumption)))); (focus (simp [go_sem])); rintro e w5 ⟨rfl, hb5⟩; have hr5 := below_reads hb5; have hh5 := below_holds hb5; obtain ⟨m5, hs5⟩ := below_grew hb5) | (go_at_call 10; (first | ((with_reducible refine (CO.out _ ?_).mono ?_); (focus (refine hG.behind ?_; repeat (first | with_reducible assumption | with_reducible exact Below.refl _ _ | with_reducible refine Below.drew ?_ | with_reducible refine below_drewN ?_ _ | with_reducible refine bw_alloc ?_ _ | (with_reducible refine bw_set ?_ ?_ _; focus (dsimp only; omega)) | (with_reducible apply bw_behind; with_reducible assumption)))))); rintro e w6 ⟨rfl, hb6⟩; have hr6 := below_reads hb6; have hh6 := below_holds hb6; obtain ⟨m6, hs6⟩ := below_grew hb6))
            go_ret
            refine ⟨rfl, ?_⟩
            repeat (first | with_reducible assumption | with_reducible exact Below.refl _ _ | with_reducible refine Below.drew ?_ | with_reducible refine below_drewN ?_ _ | with_reducible refine bw_alloc ?_ _ | (with_reducible refine bw_set ?_ ?_ _; focus (dsimp only; omega)) | (with_reducible apply bw_behind; with_reducible assumption))
      | false =>
        clear hA HYY
        generalize cD D ws j = cn at *
        go_wp2_with (first | (go_at_call 9; (with_reducible refine (CA.out _ ?_).mono ?_); (focus (refine hG.behind ?_; repeat (first | with_reducible assumption | with_reducible exact Below.refl _ _ | with_reducible refine Below.drew ?_ | with_reducible refine below_drewN ?_ _ | with_reducible refine bw_alloc ?_ _ | (with_reducible refine bw_set ?_ ?_ _; focus (dsimp only; omega)) | (with_reducible apply bw_behind; with_reducible assumption)))); rintro e wA ⟨ua, uc, rfl, hbA, hoA⟩; have hrA := below_reads hbA; have hhA := below_holds hbA; obtain ⟨mA, hsA⟩ := below_grew hbA))
        go_loopw [11] (fun i w2 => i = .int .i64 0 ∧ Below wA.heap.size wA w2) (fun _ _ => 0)
        case atStart => exact ⟨rfl, by
          repeat (first | with_reducible assumption | with_reducible exact Below.refl _ _ | with_reducible refine Below.drew ?_ | with_reducible refine below_drewN ?_ _ | with_reducible refine bw_alloc ?_ _ | (with_reducible refine bw_set ?_ ?_ _; focus (dsimp only; omega)) | (with_reducible apply bw_behind; with_reducible assumption))⟩
        case round =>
          obtain ⟨rfl, hB2⟩ := hrel
          have hszA := hB2.size
          have hBA := bw_behind hB2 (bw_behind hbA hB)
          go_wp2_with (first | (go_at_call 11; (with_reducible refine (CF.out _ _ ?_ ?_).mono ?_); (focus (refine hG2.behind ?_; repeat (first | with_reducible assumption | with_reducible exact Below.refl _ _ | with_reducible refine Below.drew ?_ | with_reducible refine below_drewN ?_ _ | with_reducible refine bw_alloc ?_ _ | (with_reducible refine bw_set ?_ ?_ _; focus (dsimp only; omega)) | (with_reducible apply bw_behind; with_reducible assumption)))); (focus (simp [go_sem])); rintro e w5 ⟨rfl, hb5⟩; have hr5 := below_reads hb5; have hh5 := below_holds hb5; obtain ⟨m5, hs5⟩ := below_grew hb5) | (go_at_call 10; (first | ((with_reducible refine (CO.out _ ?_).mono ?_); (focus (refine hG.behind ?_; repeat (first | with_reducible assumption | with_reducible exact Below.refl _ _ | with_reducible refine Below.drew ?_ | with_reducible refine below_drewN ?_ _ | with_reducible refine bw_alloc ?_ _ | (with_reducible refine bw_set ?_ ?_ _; focus (dsimp only; omega)) | (with_reducible apply bw_behind; with_reducible assumption)))))); rintro e w6 ⟨rfl, hb6⟩; have hr6 := below_reads hb6; have hh6 := below_holds hb6; obtain ⟨m6, hs6⟩ := below_grew hb6))
          go_ret
          refine ⟨rfl, ?_⟩
          repeat (first | with_reducible assumption | with_reducible exact Below.refl _ _ | with_reducible refine Below.drew ?_ | with_reducible refine below_drewN ?_ _ | with_reducible refine bw_alloc ?_ _ | (with_reducible refine bw_set ?_ ?_ _; focus (dsimp only; omega)) | (with_reducible apply bw_behind; with_reducible assumption))

set_option maxRecDepth 100000 in
set_option maxHeartbeats 8000000 in
theorem lists_gt (ws : List (BitVec 64)) (n : Nat) (hnn : ws.length = n) (hl : n ≤ 60) (hlt : ∀ y ∈ ws, y.toNat < 4294967296) (b0 off0 N cap : Nat) (hn60 : n = 60) (hN : 60 < N) (hcap : N ≤ cap) (w : World) (hG2 : G2 w) (hcell : ∀ j, j < n → ∃ b off, some (⟨b0, off0, none⟩ : Addr) = some ⟨b, off, none⟩ ∧ w.cell? ⟨b, off + j, none⟩ = some (.int .u32 ((wsAt ws j).toNat : Int))) :
    Calls Tryz.prog 4 #[.slice (some ⟨b0, off0, none⟩) N cap] w (Makes (.bool true) w) := by
  obtain ⟨D, hDis⟩ : ∃ D : BitVec 64 → Option Nat, ∀ y, IsDec y (D y) := Classical.skolem.1 dec_ex
  have hD : Ds D ws := ⟨hlt, hDis⟩
  obtain ⟨Y, hYA, hYall⟩ := lists_asm hD (by omega)
  rw [hnn] at hYA hYall
  have hG := hG2.g
  have CL : Hid (∀ W, Below w.heap.size w W → G2 W → Calls Tryz.prog 11 #[.slice (some ⟨b0, off0, none⟩) n cap] W (Makes (.string (str (listT D ws (n + 1)))) W)) := hide (fun W hb hW => listing_any D ws hD n hnn (by omega) (some ⟨b0, off0, none⟩) _ W hW (fun j hj => by
    obtain ⟨b, off, h1, h2⟩ := hcell j hj
    exact ⟨b, off, h1, c_be hb h2⟩))
  have CR : Hid (∀ W, Below w.heap.size w W → Calls Tryz.prog 12 #[.slice (some ⟨b0, off0, none⟩) n cap] W (Makes (.string (str (listT D ws (n + 1)))) W)) := hide (fun W hb => rlisting_any D ws hD n hnn (by omega) (some ⟨b0, off0, none⟩) _ W (fun j hj => by
    obtain ⟨b, off, h1, h2⟩ := hcell j hj
    exact ⟨b, off, h1, c_be hb h2⟩))
  have HR : Hid (∀ j, j < n → ∃ K x0 x1 x2 x3 : Int, ∀ W, G W → Calls Tryz.prog 13 #[.int .u32 ((wsAt ws j).toNat : Int)] W (Makes (.tuple #[.agg #[.int .i64 K, .int .i64 x0, .int .i64 x1, .int .i64 x2, .int .i64 x3], .bool (D (wsAt ws j)).isSome]) W)) := hide (fun j hj => dec_row hD j (by omega))
  have CA : Hid (∀ W, G W → Calls Tryz.prog 9 #[.string (str (listT D ws (n + 1)))] W (fun e w' => ∃ ua uc, e = .returned (.tuple #[.slice ua (cD D ws n) uc, .int .i64 0, .int .i64 0]) ∧ Below W.heap.size W w' ∧ Hid (w'.ownsRow W.heap.size 24 1 (.slice ua (cD D ws n) uc) (cD D ws n) (wordV ((List.range (cD D ws n)).map Y))))) := hide (fun W hW => (hYA W hW).mono fun e w' h => by
    obtain ⟨v, h1, h2, h3⟩ := h
    obtain ⟨ua, uc, rfl⟩ := owns_len h3
    exact ⟨ua, uc, h1, h2, hide h3⟩)
  have CF : Hid (∀ W N0, G2 W → W.cell? ⟨N0, 0, none⟩ = some (.int .u32 111) → Calls Tryz.prog 11 #[.slice (some ⟨N0, 0, none⟩) 1 1] W (Makes (.string ⟨#[109, 48, 58, 10, 106, 97, 108, 32, 99, 48, 44, 32, 109, 48, 10]⟩) W)) := hide (fun W N0 hW hc => by
    have hD1 : Ds D [111#64] := ⟨fun y hy => by simp at hy; subst hy; decide, hDis⟩
    have := listing_any D [111#64] hD1 1 rfl (by omega) (some ⟨N0, 0, none⟩) 1 W hW (fun j hj => by
      obtain rfl : j = 0 := by omega
      exact ⟨N0, 0, rfl, hc⟩)
    rw [list_111 hDis] at this
    exact this)
  have CO := hide one_any
  have HS : Hid (∀ j, j < n → decide (cD D ws (j + 1) = j + 1) = (decide (cD D ws j = j) && (D (wsAt ws j)).isSome)) := hide (fun j hj => all_step D ws j (by omega))
  have HCL : Hid (∀ j, j < n → w.cell? ⟨b0, off0 + j, none⟩ = some (.int .u32 ((wsAt ws j).toNat : Int))) := hide (fun j hj => by
    obtain ⟨b, off, h1, h2⟩ := hcell j hj
    injection h1 with h1
    injection h1 with h1 h3 _
    rw [h1, h3]
    exact h2)
  have HYY := hide hYall
  clear hcell hD hnn hYA hYall hlt hDis
  subst hn60
  generalize str (listT D ws (60 + 1)) = S at *
  have SS := cell_same
  have LB' := ltB_add
  have LS := ltB_self
  have LA' := alloc_reads
  have LH := alloc_holds
  go_enter Tryz.func4, Tryz.ntmps4
  have a1 : (60 < (N : Int)) := by omega
  have a2 : 60 ≤ cap := by omega
  have a3 : (60 : Int) ≤ (cap : Int) := by omega
  go_upto_region 6 with (first | (go_at_call 11; (with_reducible refine (CL.out _ ?_ ?_).mono ?_); (focus (repeat (first | with_reducible assumption | with_reducible exact Below.refl _ _ | with_reducible refine Below.drew ?_ | with_reducible refine below_drewN ?_ _ | with_reducible refine bw_alloc ?_ _ | (with_reducible refine bw_set ?_ ?_ _; focus (dsimp only; omega)) | (with_reducible apply bw_behind; with_reducible assumption)))); (focus (refine hG2.behind ?_; repeat (first | with_reducible assumption | with_reducible exact Below.refl _ _ | with_reducible refine Below.drew ?_ | with_reducible refine below_drewN ?_ _ | with_reducible refine bw_alloc ?_ _ | (with_reducible refine bw_set ?_ ?_ _; focus (dsimp only; omega)) | (with_reducible apply bw_behind; with_reducible assumption)))); rintro e w1 ⟨rfl, hb1⟩; have hr1 := below_reads hb1; have hh1 := below_holds hb1; obtain ⟨m1, hs1⟩ := below_grew hb1) | (go_at_call 12; (with_reducible refine (CR.out _ ?_).mono ?_); (focus (repeat (first | with_reducible assumption | with_reducible exact Below.refl _ _ | with_reducible refine Below.drew ?_ | with_reducible refine below_drewN ?_ _ | with_reducible refine bw_alloc ?_ _ | (with_reducible refine bw_set ?_ ?_ _; focus (dsimp only; omega)) | (with_reducible apply bw_behind; with_reducible assumption)))); rintro e w2 ⟨rfl, hb2⟩; have hr2 := below_reads hb2; have hh2 := below_holds hb2; obtain ⟨m2, hs2⟩ := below_grew hb2))
  refine wp_abs (fun W => Below w.heap.size w W) ?_ ?_
  · repeat (first | with_reducible assumption | with_reducible exact Below.refl _ _ | with_reducible refine Below.drew ?_ | with_reducible refine below_drewN ?_ _ | with_reducible refine bw_alloc ?_ _ | (with_reducible refine bw_set ?_ ?_ _; focus (dsimp only; omega)) | (with_reducible apply bw_behind; with_reducible assumption))
  rintro w3 hB3
  clear CL CR hb1 hb2 hr1 hr2 hh1 hh2
  go_wp2
  go_loopw [4, 5] (fun a i wr => ∃ j : Nat, j ≤ 60 ∧ i = .int .i64 (j : Int) ∧ a = .bool (decide (cD D ws j = j)) ∧ Below w.heap.size w wr) (fun _ i _ => 60 - (intOf i).toNat)
  case atStart => exact ⟨0, by omega, rfl, rfl, by (repeat (first | with_reducible assumption | with_reducible exact Below.refl _ _ | with_reducible refine Below.drew ?_ | with_reducible refine below_drewN ?_ _ | with_reducible refine bw_alloc ?_ _ | (with_reducible refine bw_set ?_ ?_ _; focus (dsimp only; omega)) | (with_reducible apply bw_behind; with_reducible assumption)))⟩
  case round =>
    obtain ⟨j, hj, rfl, rfl, hB⟩ := hrel
    have hsz := hB.size
    have g0 : (0 : Int) ≤ (j : Int) := by omega
    by_cases hjn : j < 60
    · have hc := HCL.out j hjn
      obtain ⟨K, x0, x1, x2, x3, hrow⟩ := HR.out j hjn
      have hX := c_be hB hc
      have lB : ltB b0 wr.heap.size = true := by unfold ltB; simpa using World.block_lt_of_cell? _ _ hX
      have g1 : (j : Int) < (60 : Int) := by omega
      have CD := hide hrow
      have hst := HS.out j hjn
      generalize hy : ((wsAt ws j).toNat : Int) = Yj at *
      generalize (D (wsAt ws j)).isSome = ok at *
      cases hA : decide (cD D ws j = j) with
      | true =>
        rw [hA, Bool.true_and] at hst
        have HST := hide hst
        clear hy hc hrow hst hA
        go_wp2_with (first | (go_at_call 13; (first | ((with_reducible refine (CD.out _ ?_).mono ?_); (focus (refine hG.behind ?_; repeat (first | with_reducible assumption | with_reducible exact Below.refl _ _ | with_reducible refine Below.drew ?_ | with_reducible refine below_drewN ?_ _ | with_reducible refine bw_alloc ?_ _ | (with_reducible refine bw_set ?_ ?_ _; focus (dsimp only; omega)) | (with_reducible apply bw_behind; with_reducible assumption)))))); rintro e w1 ⟨rfl, hb1⟩; have hr1 := below_reads hb1; have hh1 := below_holds hb1; obtain ⟨m1, hs1⟩ := below_grew hb1))
        go_roundw
        case rel => exact ⟨j + 1, by omega, by go_num, by rw [HST.out], by (repeat (first | with_reducible assumption | with_reducible exact Below.refl _ _ | with_reducible refine Below.drew ?_ | with_reducible refine below_drewN ?_ _ | with_reducible refine bw_alloc ?_ _ | (with_reducible refine bw_set ?_ ?_ _; focus (dsimp only; omega)) | (with_reducible apply bw_behind; with_reducible assumption)))⟩
        case measure => simp [intOf]; omega
      | false =>
        rw [hA, Bool.false_and] at hst
        have HST := hide hst
        clear hy hc hrow hst hA
        go_wp2_with (first | (go_at_call 13; (first | ((with_reducible refine (CD.out _ ?_).mono ?_); (focus (refine hG.behind ?_; repeat (first | with_reducible assumption | with_reducible exact Below.refl _ _ | with_reducible refine Below.drew ?_ | with_reducible refine below_drewN ?_ _ | with_reducible refine bw_alloc ?_ _ | (with_reducible refine bw_set ?_ ?_ _; focus (dsimp only; omega)) | (with_reducible apply bw_behind; with_reducible assumption)))))); rintro e w1 ⟨rfl, hb1⟩; have hr1 := below_reads hb1; have hh1 := below_holds hb1; obtain ⟨m1, hs1⟩ := below_grew hb1))
        go_roundw
        case rel => exact ⟨j + 1, by omega, by go_num, by rw [HST.out], by (repeat (first | with_reducible assumption | with_reducible exact Below.refl _ _ | with_reducible refine Below.drew ?_ | with_reducible refine below_drewN ?_ _ | with_reducible refine bw_alloc ?_ _ | (with_reducible refine bw_set ?_ ?_ _; focus (dsimp only; omega)) | (with_reducible apply bw_behind; with_reducible assumption)))⟩
        case measure => simp [intOf]; omega
    · obtain rfl : j = 60 := by omega
      cases hA : decide (cD D ws 60 = 60) with
      | true =>
        have hcn : cD D ws 60 = 60 := of_decide_eq_true hA
        rw [hcn] at CA
        have HYY := hide (HYY.out hcn)
        clear hA hcn
        go_wp2_with (first | (go_at_call 9; (with_reducible refine (CA.out _ ?_).mono ?_); (focus (refine hG.behind ?_; repeat (first | with_reducible assumption | with_reducible exact Below.refl _ _ | with_reducible refine Below.drew ?_ | with_reducible refine below_drewN ?_ _ | with_reducible refine bw_alloc ?_ _ | (with_reducible refine bw_set ?_ ?_ _; focus (dsimp only; omega)) | (with_reducible apply bw_behind; with_reducible assumption)))); rintro e wA ⟨ua, uc, rfl, hbA, hoA⟩; have hrA := below_reads hbA; have hhA := below_holds hbA; obtain ⟨mA, hsA⟩ := below_grew hbA))
        go_loopw [11] (fun i w2 => ∃ q : Nat, q ≤ 60 ∧ i = .int .i64 (q : Int) ∧ Below wA.heap.size wA w2) (fun i _ => 60 - (intOf i).toNat)
        case atStart => exact ⟨0, by omega, rfl, by
          repeat (first | with_reducible assumption | with_reducible exact Below.refl _ _ | with_reducible refine Below.drew ?_ | with_reducible refine below_drewN ?_ _ | with_reducible refine bw_alloc ?_ _ | (with_reducible refine bw_set ?_ ?_ _; focus (dsimp only; omega)) | (with_reducible apply bw_behind; with_reducible assumption))⟩
        case round =>
          obtain ⟨q, hq, rfl, hB2⟩ := hrel
          have hszA := hB2.size
          have hBA := bw_behind hB2 (bw_behind hbA hB)
          by_cases hqj : q < 60
          · obtain ⟨g, cap1, e1, _, _, hgl, hcells⟩ := owns_cell hoA.out (by omega)
            have hc := HCL.out q hqj
            injection e1 with e1a _ e1c
            subst e1a e1c
            have f1 : (wordV ((List.range 60).map Y))[q]? = some (.int .u32 ((wsAt ws q).toNat : Int)) := by
              unfold wordV
              rw [List.getElem?_map, List.getElem?_map, List.getElem?_range hqj]
              simp [HYY.out q hqj]
            have c1 := c_be hB2 (hcells _ _ f1)
            have c2 := c_be hBA hc
            have b1 : (q : Int) < (60 : Int) := by omega
            have b3 : (0 : Int) ≤ (q : Int) := by omega
            clear hcells f1 hc
            generalize ((wsAt ws q).toNat : Int) = z at *
            go_wp2
            go_region
            go_wp2
            go_roundw
            case rel =>
              refine ⟨q + 1, by omega, by go_num, ?_⟩
              repeat (first | with_reducible assumption | with_reducible exact Below.refl _ _ | with_reducible refine Below.drew ?_ | with_reducible refine below_drewN ?_ _ | with_reducible refine bw_alloc ?_ _ | (with_reducible refine bw_set ?_ ?_ _; focus (dsimp only; omega)) | (with_reducible apply bw_behind; with_reducible assumption))
            case measure => simp [intOf]; omega
          · obtain rfl : q = 60 := by omega
            go_wp2_with (first | (go_at_call 11; (with_reducible refine (CF.out _ _ ?_ ?_).mono ?_); (focus (refine hG2.behind ?_; repeat (first | with_reducible assumption | with_reducible exact Below.refl _ _ | with_reducible refine Below.drew ?_ | with_reducible refine below_drewN ?_ _ | with_reducible refine bw_alloc ?_ _ | (with_reducible refine bw_set ?_ ?_ _; focus (dsimp only; omega)) | (with_reducible apply bw_behind; with_reducible assumption)))); (focus (simp [go_sem])); rintro e w5 ⟨rfl, hb5⟩; have hr5 := below_reads hb5; have hh5 := below_holds hb5; obtain ⟨m5, hs5⟩ := below_grew hb5) | (go_at_call 10; (first | ((with_reducible refine (CO.out _ ?_).mono ?_); (focus (refine hG.behind ?_; repeat (first | with_reducible assumption | with_reducible exact Below.refl _ _ | with_reducible refine Below.drew ?_ | with_reducible refine below_drewN ?_ _ | with_reducible refine bw_alloc ?_ _ | (with_reducible refine bw_set ?_ ?_ _; focus (dsimp only; omega)) | (with_reducible apply bw_behind; with_reducible assumption)))))); rintro e w6 ⟨rfl, hb6⟩; have hr6 := below_reads hb6; have hh6 := below_holds hb6; obtain ⟨m6, hs6⟩ := below_grew hb6))
            go_ret
            refine ⟨rfl, ?_⟩
            repeat (first | with_reducible assumption | with_reducible exact Below.refl _ _ | with_reducible refine Below.drew ?_ | with_reducible refine below_drewN ?_ _ | with_reducible refine bw_alloc ?_ _ | (with_reducible refine bw_set ?_ ?_ _; focus (dsimp only; omega)) | (with_reducible apply bw_behind; with_reducible assumption))
      | false =>
        clear hA HYY
        generalize cD D ws 60 = cn at *
        go_wp2_with (first | (go_at_call 9; (with_reducible refine (CA.out _ ?_).mono ?_); (focus (refine hG.behind ?_; repeat (first | with_reducible assumption | with_reducible exact Below.refl _ _ | with_reducible refine Below.drew ?_ | with_reducible refine below_drewN ?_ _ | with_reducible refine bw_alloc ?_ _ | (with_reducible refine bw_set ?_ ?_ _; focus (dsimp only; omega)) | (with_reducible apply bw_behind; with_reducible assumption)))); rintro e wA ⟨ua, uc, rfl, hbA, hoA⟩; have hrA := below_reads hbA; have hhA := below_holds hbA; obtain ⟨mA, hsA⟩ := below_grew hbA))
        go_loopw [11] (fun i w2 => i = .int .i64 0 ∧ Below wA.heap.size wA w2) (fun _ _ => 0)
        case atStart => exact ⟨rfl, by
          repeat (first | with_reducible assumption | with_reducible exact Below.refl _ _ | with_reducible refine Below.drew ?_ | with_reducible refine below_drewN ?_ _ | with_reducible refine bw_alloc ?_ _ | (with_reducible refine bw_set ?_ ?_ _; focus (dsimp only; omega)) | (with_reducible apply bw_behind; with_reducible assumption))⟩
        case round =>
          obtain ⟨rfl, hB2⟩ := hrel
          have hszA := hB2.size
          have hBA := bw_behind hB2 (bw_behind hbA hB)
          go_wp2_with (first | (go_at_call 11; (with_reducible refine (CF.out _ _ ?_ ?_).mono ?_); (focus (refine hG2.behind ?_; repeat (first | with_reducible assumption | with_reducible exact Below.refl _ _ | with_reducible refine Below.drew ?_ | with_reducible refine below_drewN ?_ _ | with_reducible refine bw_alloc ?_ _ | (with_reducible refine bw_set ?_ ?_ _; focus (dsimp only; omega)) | (with_reducible apply bw_behind; with_reducible assumption)))); (focus (simp [go_sem])); rintro e w5 ⟨rfl, hb5⟩; have hr5 := below_reads hb5; have hh5 := below_holds hb5; obtain ⟨m5, hs5⟩ := below_grew hb5) | (go_at_call 10; (first | ((with_reducible refine (CO.out _ ?_).mono ?_); (focus (refine hG.behind ?_; repeat (first | with_reducible assumption | with_reducible exact Below.refl _ _ | with_reducible refine Below.drew ?_ | with_reducible refine below_drewN ?_ _ | with_reducible refine bw_alloc ?_ _ | (with_reducible refine bw_set ?_ ?_ _; focus (dsimp only; omega)) | (with_reducible apply bw_behind; with_reducible assumption)))))); rintro e w6 ⟨rfl, hb6⟩; have hr6 := below_reads hb6; have hh6 := below_holds hb6; obtain ⟨m6, hs6⟩ := below_grew hb6))
          go_ret
          refine ⟨rfl, ?_⟩
          repeat (first | with_reducible assumption | with_reducible exact Below.refl _ _ | with_reducible refine Below.drew ?_ | with_reducible refine below_drewN ?_ _ | with_reducible refine bw_alloc ?_ _ | (with_reducible refine bw_set ?_ ?_ _; focus (dsimp only; omega)) | (with_reducible apply bw_behind; with_reducible assumption))
end Go.Proofs.YtlommbeokbicjaaGreatDoor
