/-
  Texts laid one behind the other: PteWord, PteOf, PteEq.
-/
import Derived.Test.YtkajndonefkegaaDoorGPte
import Derived.Laws.StructEq
import Derived.DeepKeys
set_option maxRecDepth 100000
set_option maxHeartbeats 64000000
namespace Go.Proofs.YtkajndonefkegaaDoor
open Go.RowKit Words FieldMath PteMath

theorem word_any (b0 b1 b2 b3 b4 b5 b6 b7 b8 b9 b10 b11 : Bool) (F : BitVec 64) (w : World) (hT : Tab w) : Calls Tryd.prog 12 #[.agg #[.bool b0, .bool b1, .bool b2, .bool b3, .bool b4, .bool b5, .bool b6, .bool b7, .bool b8, .bool b9, .bool b10, .bool b11, .int .u64 (F.toNat : Int)]] w (Makes (.int .u64 ((wk (bs b0 b1 b2 b3 b4 b5 b6 b7 b8 b9 b10 b11) F 12).toNat : Int)) w) := by
  obtain ⟨SS, LB', LS, LA', LH⟩ := rules5
  have C1 : Hid (∀ W, Calls Tryd.prog 45 #[.int .u64 0, .int .i64 10, .int .i64 44, .int .u64 (F.toNat : Int)] W (Quiet (.int .u64 ((wk (bs b0 b1 b2 b3 b4 b5 b6 b7 b8 b9 b10 b11) F 0).toNat : Int)) W)) := hide (fun W => put_any 0 10 44 F W)
  have C2 : Hid (∀ k, bs b0 b1 b2 b3 b4 b5 b6 b7 b8 b9 b10 b11 k = true -> ∀ W, Calls Tryd.prog 45 #[.int .u64 ((wk (bs b0 b1 b2 b3 b4 b5 b6 b7 b8 b9 b10 b11) F k).toNat : Int), .int .i64 (plc k : Int), .int .i64 1, .int .u64 1] W (Quiet (.int .u64 ((wk (bs b0 b1 b2 b3 b4 b5 b6 b7 b8 b9 b10 b11) F (k + 1)).toNat : Int)) W)) :=
    hide (fun k hk W => by have := put_any (wk (bs b0 b1 b2 b3 b4 b5 b6 b7 b8 b9 b10 b11) F k) (plc k : Int) 1 1 W; rw [wk, if_pos hk]; exact this)
  have C3 : Hid (∀ k, bs b0 b1 b2 b3 b4 b5 b6 b7 b8 b9 b10 b11 k = false -> wk (bs b0 b1 b2 b3 b4 b5 b6 b7 b8 b9 b10 b11) F (k + 1) = wk (bs b0 b1 b2 b3 b4 b5 b6 b7 b8 b9 b10 b11) F k) := hide (fun k hk => by rw [wk, if_neg (by simp [hk])])
  have HE := hide (entL_at b0 b1 b2 b3 b4 b5 b6 b7 b8 b9 b10 b11 F)
  have HR : Row (w.alloc (.cells (entL b0 b1 b2 b3 b4 b5 b6 b7 b8 b9 b10 b11 F).toArray 32)) w.heap.size (entL b0 b1 b2 b3 b4 b5 b6 b7 b8 b9 b10 b11 F) := row_new rfl rfl
  unfold entL at HR
  have HRH := hide HR
  clear HR
  generalize hq : bs b0 b1 b2 b3 b4 b5 b6 b7 b8 b9 b10 b11 = b at *
  go_enter Tryd.func12, Tryd.ntmps12
  go_wp2_with (first | (go_at_call 45; (with_reducible refine (C1.out _).mono ?_); rintro e w' ⟨rfl, n1, rfl⟩) | (go_at_call 46; (with_reducible refine (flags_any _ _).mono ?_); rintro e w1 ⟨rfl, hb1⟩; obtain ⟨hr1, hh1, m1, hs1⟩ := bl_all hb1))
  have hT1 : Hid (∀ W, Below w.heap.size w W -> Tab W) := hide (fun W h => hT.behind h)
  have hB1 : Below w.heap.size w w1 := by
    repeat (with_reducible first | assumption | exact Below.refl _ _ | refine Below.drew ?_ | refine below_drewN ?_ _ | refine bw_alloc ?_ _ | (refine bw_set ?_ ?_ _; focus (dsimp only; omega)) | (apply bw_behind; assumption))
  have hR1 : Hid (Row w1 w.heap.size (entL b0 b1 b2 b3 b4 b5 b6 b7 b8 b9 b10 b11 F)) := hide (k_be hb1 (k_dr _ HRH.out))
  clear hT HRH hb1 hr1 hh1 hs1 m1
  go_loopw [3, 10] (fun x i wr => ∃ k : Nat, k ≤ 12 /\ x = .int .u64 ((wk b F k).toNat : Int) /\ i = .int .i64 (k : Int) /\ Hid (Row wr w.heap.size (entL b0 b1 b2 b3 b4 b5 b6 b7 b8 b9 b10 b11 F)) /\ Below w.heap.size w wr) (fun _ i _ => 12 - (intOf i).toNat)
  case atStart => exact ⟨0, by omega, rfl, rfl, hR1, hB1⟩
  case round =>
    clear hR1 hB1
    obtain ⟨k, hk, rfl, rfl, hR, hB⟩ := hrel
    by_cases h : k < 12
    · have hi := index_ptr w.heap.size k h
      have cb := hR.out k _ (HE.out k h)
      have ct := (hT1.out _ hB) k h
      have c3 := C3.out k
      have c2 := C2.out k
      cases hbk : b k with
      | true =>
        rw [hbk] at cb
        have D2 := hide (c2 hbk)
        clear c2 c3 hbk
        go_wp2_with (first | (go_at_call 45; (with_reducible refine (D2.out _).mono ?_); rintro e w' ⟨rfl, n1, rfl⟩))
        go_roundw
        case rel => exact ⟨k + 1, by omega, rfl, by go_num, hR, by repeat (with_reducible first | assumption | exact Below.refl _ _ | refine Below.drew ?_ | refine below_drewN ?_ _ | refine bw_alloc ?_ _ | (refine bw_set ?_ ?_ _; focus (dsimp only; omega)) | (apply bw_behind; assumption))⟩
        case measure => simp [intOf]; omega
      | false =>
        rw [hbk] at cb
        have D3 := c3 hbk
        clear c2 c3 hbk
        go_wp2_with fail
        go_roundw
        case rel => exact ⟨k + 1, by omega, by rw [D3], by go_num, hR, by repeat (with_reducible first | assumption | exact Below.refl _ _ | refine Below.drew ?_ | refine below_drewN ?_ _ | refine bw_alloc ?_ _ | (refine bw_set ?_ ?_ _; focus (dsimp only; omega)) | (apply bw_behind; assumption))⟩
        case measure => simp [intOf]; omega
    · obtain rfl : k = 12 := by omega
      go_wp2_with fail
      go_ret
      refine ⟨rfl, ?_⟩
      repeat (with_reducible first | assumption | exact Below.refl _ _ | refine Below.drew ?_ | refine below_drewN ?_ _ | refine bw_alloc ?_ _ | (refine bw_set ?_ ?_ _; focus (dsimp only; omega)) | (apply bw_behind; assumption))
end Go.Proofs.YtkajndonefkegaaDoor

namespace Go.Proofs.YtkajndonefkegaaDoor
open Go.RowKit Words FieldMath PteMath

def OfAt (W : World) (n : Nat) (x : BitVec 64) (F : Nat) (k : Nat) : Prop :=
  (∀ j, j < 12 -> W.cell? ⟨n, j, none⟩ = some (.bool (decide (j < k) && x.getLsbD (plc j)))) /\ W.cell? ⟨n, 12, none⟩ = some (.int .u64 (F : Int))
theorem of_step {W : World} {n k : Nat} {x : BitVec 64} {F : Nat} (hk : k < 12) (ho : Own W n 13) (h : OfAt W n x F k) : OfAt (W.setCell ⟨n, k, none⟩ (.bool (x.getLsbD (plc k)))) n x F (k + 1) := by
  refine ⟨fun j hj => set_at ho (by omega) ?_, set_at ho (by omega) ?_⟩
  · by_cases e : k = j
    · subst e
      rw [if_pos rfl]; simp
    · rw [if_neg e]
      have := h.1 j hj
      rwa [show decide (j < k + 1) = decide (j < k) from decide_eq_decide.mpr (by omega)]
  · rw [if_neg (by omega)]
    exact h.2
theorem of_dr {W : World} {n k : Nat} {x : BitVec 64} {F : Nat} (m : Nat) (h : OfAt W n x F k) : OfAt (W.drewN m) n x F k := h
theorem of_be {W W' : World} {n k : Nat} {x : BitVec 64} {F : Nat} (hb : Below W.heap.size W W') (h : OfAt W n x F k) : OfAt W' n x F k := ⟨fun j hj => c_be hb (h.1 j hj), c_be hb h.2⟩
theorem of_new {W : World} {t : TypeId} {x : BitVec 64} {F : Nat} : OfAt (W.alloc (.cells #[.bool false, .bool false, .bool false, .bool false, .bool false, .bool false, .bool false, .bool false, .bool false, .bool false, .bool false, .bool false, .int .u64 (F : Int)] t)) W.heap.size x F 0 := by
  constructor
  · intro j hj
    match j, hj with
    | 0, _ => simp [go_sem]
    | 1, _ => simp [go_sem]
    | 2, _ => simp [go_sem]
    | 3, _ => simp [go_sem]
    | 4, _ => simp [go_sem]
    | 5, _ => simp [go_sem]
    | 6, _ => simp [go_sem]
    | 7, _ => simp [go_sem]
    | 8, _ => simp [go_sem]
    | 9, _ => simp [go_sem]
    | 10, _ => simp [go_sem]
    | 11, _ => simp [go_sem]
  · simp [go_sem]

theorem of_any (x : BitVec 64) (w : World) (hT : Tab w) : Calls Tryd.prog 26 #[.int .u64 (x.toNat : Int)] w (Makes (.agg #[.bool (x.getLsbD 0), .bool (x.getLsbD 1), .bool (x.getLsbD 2), .bool (x.getLsbD 3), .bool (x.getLsbD 4), .bool (x.getLsbD 5), .bool (x.getLsbD 6), .bool (x.getLsbD 7), .bool (x.getLsbD 58), .bool (x.getLsbD 59), .bool (x.getLsbD 60), .bool (x.getLsbD 61), .int .u64 ((getB x 10 44).toNat : Int)]) w) := by
  obtain ⟨SS, LB', LS, LA', LH⟩ := rules5
  have C1 : Hid (∀ W, Calls Tryd.prog 58 #[.int .u64 (x.toNat : Int), .int .i64 10, .int .i64 44] W (Quiet (.int .u64 ((getB x 10 44).toNat : Int)) W)) := hide (fun W => get_any x 10 44 W)
  have C2 : Hid (∀ k, k < 12 -> ∀ W, Calls Tryd.prog 58 #[.int .u64 (x.toNat : Int), .int .i64 (plc k : Int), .int .i64 1] W (Quiet (.int .u64 ((getB x (plc k : Int) 1).toNat : Int)) W)) := hide (fun k _ W => get_any x (plc k : Int) 1 W)
  generalize (getB x 10 44).toNat = F at *
  go_enter Tryd.func26, Tryd.ntmps26
  go_wp2_with (first | (go_at_call 58; (with_reducible refine (C1.out _).mono ?_); rintro e w' ⟨rfl, n1, rfl⟩) | (go_at_call 46; (with_reducible refine (flags_any _ _).mono ?_); rintro e w1 ⟨rfl, hb1⟩; obtain ⟨hr1, hh1, m1, hs1⟩ := bl_all hb1))
  have hT1 : Hid (∀ W, Below w.heap.size w W -> Tab W) := hide (fun W h => hT.behind h)
  have hB1 : Below w.heap.size w w1 := by
    repeat (with_reducible first | assumption | exact Below.refl _ _ | refine Below.drew ?_ | refine below_drewN ?_ _ | refine bw_alloc ?_ _ | (refine bw_set ?_ ?_ _; focus (dsimp only; omega)) | (apply bw_behind; assumption))
  have hO1 : Hid (OfAt w1 (w.heap.size + 1) x F 0) := hide (of_be hb1 (by
    have := of_new (W := (w.alloc (.cells #[.bool false, .bool false, .bool false, .bool false, .bool false, .bool false, .bool false, .bool false, .bool false, .bool false, .bool false, .bool false, .int .u64 0] 32)).drewN n1) (t := 32) (x := x) (F := F)
    simpa [go_sem] using this))
  have hW0 : Own w1 w.heap.size 13 := o_be hb1 (o_al _ (o_dr _ (o_new rfl (Nat.le_refl _))))
  have hW1 : Own w1 (w.heap.size + 1) 13 := o_be hb1 (o_new (by simp [go_sem]) (Nat.le_refl _))
  clear hT hb1 hr1 hh1 hs1 m1
  go_loopw [10] (fun i wr => ∃ k : Nat, k ≤ 12 /\ i = .int .i64 (k : Int) /\ Hid (OfAt wr (w.heap.size + 1) x F k) /\ Own wr w.heap.size 13 /\ Own wr (w.heap.size + 1) 13 /\ Below w.heap.size w wr) (fun i _ => 12 - (intOf i).toNat)
  case atStart => exact ⟨0, by omega, rfl, hO1, hW0, hW1, hB1⟩
  case round =>
    clear hO1 hB1 hW0 hW1
    obtain ⟨k, hk, rfl, hO, hW0, hW1, hB⟩ := hrel
    by_cases h : k < 12
    · have hi := index_ptr (w.heap.size + 1) k h
      have ct := (hT1.out _ hB) k h
      have D2 := hide (C2.out k h)
      have he := getB_one x (plc k) (by unfold plc; split <;> omega)
      have HS := hide (fun m => of_step h (o_dr m hW1) (of_dr m hO.out))
      obtain ⟨v1, hv1⟩ := hW1.val k (by omega)
      have hf1 := hW1.free k (by omega)
      generalize (getB x (plc k : Int) 1).toNat = G at *
      generalize x.getLsbD (plc k) = β at *
      go_wp2_with (first | (go_at_call 58; (with_reducible refine (D2.out _).mono ?_); rintro e w' ⟨rfl, n1, rfl⟩))
      go_roundw
      case rel => exact ⟨k + 1, by omega, by go_num, hide (HS.out n1), o_set (o_dr _ hW0), o_set (o_dr _ hW1), by repeat (with_reducible first | assumption | exact Below.refl _ _ | refine Below.drew ?_ | refine below_drewN ?_ _ | refine bw_alloc ?_ _ | (refine bw_set ?_ ?_ _; focus (dsimp only; omega)) | (apply bw_behind; assumption))⟩
      case measure => simp [intOf]; omega
    · obtain rfl : k = 12 := by omega
      have c0 : wr.cell? ⟨w.heap.size + 1, 0, none⟩ = some (.bool (x.getLsbD 0)) := by simpa [plc] using hO.out.1 0 (by omega)
      have c1 : wr.cell? ⟨w.heap.size + 1, 1, none⟩ = some (.bool (x.getLsbD 1)) := by simpa [plc] using hO.out.1 1 (by omega)
      have c2 : wr.cell? ⟨w.heap.size + 1, 2, none⟩ = some (.bool (x.getLsbD 2)) := by simpa [plc] using hO.out.1 2 (by omega)
      have c3 : wr.cell? ⟨w.heap.size + 1, 3, none⟩ = some (.bool (x.getLsbD 3)) := by simpa [plc] using hO.out.1 3 (by omega)
      have c4 : wr.cell? ⟨w.heap.size + 1, 4, none⟩ = some (.bool (x.getLsbD 4)) := by simpa [plc] using hO.out.1 4 (by omega)
      have c5 : wr.cell? ⟨w.heap.size + 1, 5, none⟩ = some (.bool (x.getLsbD 5)) := by simpa [plc] using hO.out.1 5 (by omega)
      have c6 : wr.cell? ⟨w.heap.size + 1, 6, none⟩ = some (.bool (x.getLsbD 6)) := by simpa [plc] using hO.out.1 6 (by omega)
      have c7 : wr.cell? ⟨w.heap.size + 1, 7, none⟩ = some (.bool (x.getLsbD 7)) := by simpa [plc] using hO.out.1 7 (by omega)
      have c8 : wr.cell? ⟨w.heap.size + 1, 8, none⟩ = some (.bool (x.getLsbD 58)) := by simpa [plc] using hO.out.1 8 (by omega)
      have c9 : wr.cell? ⟨w.heap.size + 1, 9, none⟩ = some (.bool (x.getLsbD 59)) := by simpa [plc] using hO.out.1 9 (by omega)
      have c10 : wr.cell? ⟨w.heap.size + 1, 10, none⟩ = some (.bool (x.getLsbD 60)) := by simpa [plc] using hO.out.1 10 (by omega)
      have c11 : wr.cell? ⟨w.heap.size + 1, 11, none⟩ = some (.bool (x.getLsbD 61)) := by simpa [plc] using hO.out.1 11 (by omega)
      have c12 := hO.out.2
      obtain ⟨v0, hv0⟩ := hW0.val 0 (by omega)
      have hf0 := hW0.free 0 (by omega)
      obtain ⟨v1, hv1⟩ := hW0.val 1 (by omega)
      have hf1 := hW0.free 1 (by omega)
      obtain ⟨v2, hv2⟩ := hW0.val 2 (by omega)
      have hf2 := hW0.free 2 (by omega)
      obtain ⟨v3, hv3⟩ := hW0.val 3 (by omega)
      have hf3 := hW0.free 3 (by omega)
      obtain ⟨v4, hv4⟩ := hW0.val 4 (by omega)
      have hf4 := hW0.free 4 (by omega)
      obtain ⟨v5, hv5⟩ := hW0.val 5 (by omega)
      have hf5 := hW0.free 5 (by omega)
      obtain ⟨v6, hv6⟩ := hW0.val 6 (by omega)
      have hf6 := hW0.free 6 (by omega)
      obtain ⟨v7, hv7⟩ := hW0.val 7 (by omega)
      have hf7 := hW0.free 7 (by omega)
      obtain ⟨v8, hv8⟩ := hW0.val 8 (by omega)
      have hf8 := hW0.free 8 (by omega)
      obtain ⟨v9, hv9⟩ := hW0.val 9 (by omega)
      have hf9 := hW0.free 9 (by omega)
      obtain ⟨v10, hv10⟩ := hW0.val 10 (by omega)
      have hf10 := hW0.free 10 (by omega)
      obtain ⟨v11, hv11⟩ := hW0.val 11 (by omega)
      have hf11 := hW0.free 11 (by omega)
      obtain ⟨v12, hv12⟩ := hW0.val 12 (by omega)
      have hf12 := hW0.free 12 (by omega)
      have SS2 := cell_same
      clear hO hk h
      go_wp2_with fail
      refine bodyPost_ret (v := .agg #[.bool (x.getLsbD 0), .bool (x.getLsbD 1), .bool (x.getLsbD 2), .bool (x.getLsbD 3), .bool (x.getLsbD 4), .bool (x.getLsbD 5), .bool (x.getLsbD 6), .bool (x.getLsbD 7), .bool (x.getLsbD 58), .bool (x.getLsbD 59), .bool (x.getLsbD 60), .bool (x.getLsbD 61), .int .u64 (F : Int)]) (by simp (maxDischargeDepth := 4) [results, Tryd.results26, go_sem, *]) rfl ?_
      refine ⟨rfl, ?_⟩
      repeat (with_reducible first | assumption | exact Below.refl _ _ | refine Below.drew ?_ | refine below_drewN ?_ _ | refine bw_alloc ?_ _ | (refine bw_set ?_ ?_ _; focus (dsimp only; omega)) | (apply bw_behind; assumption))
end Go.Proofs.YtkajndonefkegaaDoor

namespace Go.Proofs.YtkajndonefkegaaDoor
open Go.RowKit Words FieldMath PteMath

theorem eqi_e (b0 b1 b2 b3 b4 b5 b6 b7 b8 b9 b10 b11 : Bool) (N M : Int) : ∀ W, (Op.equalIn 10000 32 (.agg #[.bool b0, .bool b1, .bool b2, .bool b3, .bool b4, .bool b5, .bool b6, .bool b7, .bool b8, .bool b9, .bool b10, .bool b11, .int .u64 N]) (.agg #[.bool b0, .bool b1, .bool b2, .bool b3, .bool b4, .bool b5, .bool b6, .bool b7, .bool b8, .bool b9, .bool b10, .bool b11, .int .u64 M])).run Tryd.prog W = .ok (decide (N = M)) W := by
  intro W
  by_cases h : N = M <;> simp [go_sem, h]
theorem ne_e (b0 b1 b2 b3 b4 b5 b6 b7 b8 b9 b10 b11 : Bool) (N M : Int) : ∀ W, (binOp .neq 32 (.agg #[.bool b0, .bool b1, .bool b2, .bool b3, .bool b4, .bool b5, .bool b6, .bool b7, .bool b8, .bool b9, .bool b10, .bool b11, .int .u64 N]) (.agg #[.bool b0, .bool b1, .bool b2, .bool b3, .bool b4, .bool b5, .bool b6, .bool b7, .bool b8, .bool b9, .bool b10, .bool b11, .int .u64 M])).run Tryd.prog W = .ok (.bool (!decide (N = M))) W := fun W => by
  rw [run_neq_struct, eqi_e]
  rfl

theorem eqi_table (b4 b5 b6 b7 b8 b9 b10 b11 : Bool) (N : Int) : ∀ W, (Op.equalIn 10000 32 (.agg #[.bool true, .bool false, .bool false, .bool false, .bool b4, .bool b5, .bool b6, .bool b7, .bool b8, .bool b9, .bool b10, .bool b11, .int .u64 N]) (.agg #[.bool true, .bool false, .bool false, .bool false, .bool false, .bool b5, .bool false, .bool false, .bool false, .bool false, .bool false, .bool false, .int .u64 N])).run Tryd.prog W = .ok (!b4 && !b6 && !b7 && !b8 && !b9 && !b10 && !b11) W := by
  intro W
  cases b4 with
  | false =>
    cases b6 with
    | false =>
      cases b7 with
      | false =>
        cases b8 with
        | false =>
          cases b9 with
          | false =>
            cases b10 with
            | false =>
              cases b11 with
              | false =>
                simp [go_sem]
              | true =>
                simp [go_sem]
            | true =>
              simp [go_sem]
          | true =>
            simp [go_sem]
        | true =>
          simp [go_sem]
      | true =>
        simp [go_sem]
    | true =>
      simp [go_sem]
  | true =>
    simp [go_sem]

theorem eq_table (b4 b5 b6 b7 b8 b9 b10 b11 : Bool) (N : Int) : ∀ W, (binOp .eql 32 (.agg #[.bool true, .bool false, .bool false, .bool false, .bool b4, .bool b5, .bool b6, .bool b7, .bool b8, .bool b9, .bool b10, .bool b11, .int .u64 N]) (.agg #[.bool true, .bool false, .bool false, .bool false, .bool false, .bool b5, .bool false, .bool false, .bool false, .bool false, .bool false, .bool false, .int .u64 N])).run Tryd.prog W = .ok (.bool (!b4 && !b6 && !b7 && !b8 && !b9 && !b10 && !b11)) W := fun W => by
  rw [run_eql_struct, eqi_table]
  rfl
end Go.Proofs.YtkajndonefkegaaDoor
