/-
  What Of answers: each flag is a bit of the word, the Frame a field of it.
-/
import Derived.Test.YtnookalplejneaaDoorPteTab
import Derived.Test.YtnookalplejneaaDoorPteFlags
import Derived.Test.YtnookalplejneaaDoorFieldWalks
import Derived.Test.YtnookalplejneaaDoorPteBits
namespace Go.Proofs.YtnookalplejneaaDoor
open Go.RowKit Words FieldMath PteMath

/-- The entry as it is made: the first k flags are set. -/
def OfAt (W : World) (n : Nat) (x : BitVec 64) (F : Nat) (k : Nat) : Prop :=
  (∀ j, j < 12 → W.cell? ⟨n, j, none⟩ = some (.bool (decide (j < k) && x.getLsbD (plc j)))) ∧ W.cell? ⟨n, 12, none⟩ = some (.int .u64 (F : Int))
set_option maxRecDepth 100000 in
theorem of_step {W : World} {n k : Nat} {x : BitVec 64} {F : Nat} (hk : k < 12) (ho : Own W n 13) (h : OfAt W n x F k) : OfAt (W.setCell ⟨n, k, none⟩ (.bool (x.getLsbD (plc k)))) n x F (k + 1) := by
  refine ⟨fun j hj => set_at ho (by omega) ?_, set_at ho (by omega) ?_⟩
  · by_cases e : k = j
    · subst e
      rw [if_pos rfl]; simp
    · rw [if_neg e]
      have := h.1 j hj
      rwa [show decide (j < k + 1) = decide (j < k) from decide_eq_decide.mpr (by omega)]
  · rw [if_neg (by omega)]
    exact h.2
set_option maxRecDepth 100000 in
theorem of_dr {W : World} {n k : Nat} {x : BitVec 64} {F : Nat} (m : Nat) (h : OfAt W n x F k) : OfAt (W.drewN m) n x F k := h
set_option maxRecDepth 100000 in
theorem of_be {W W' : World} {n k : Nat} {x : BitVec 64} {F : Nat} (hb : Below W.heap.size W W') (h : OfAt W n x F k) : OfAt W' n x F k := ⟨fun j hj => c_be hb (h.1 j hj), c_be hb h.2⟩
set_option maxRecDepth 100000 in
theorem of_new {W : World} {t : TypeId} {x : BitVec 64} {F : Nat} : OfAt (W.alloc (.cells #[.bool false, .bool false, .bool false, .bool false, .bool false, .bool false, .bool false, .bool false, .bool false, .bool false, .bool false, .bool false, .int .u64 (F : Int)] t)) W.heap.size x F 0 := by
  constructor
  · intro j hj
    match j, hj with
    | 0, _ => simp [go_sem]
    | 1, _ => simp [go_sem]
    | 2, _ => simp [go_sem]
    | 3, _ => simp [go_sem]
    | 4, _ => simp [go_sem]
    | 5, _ => simp [go_sem]
    | 6, _ => simp [go_sem]
    | 7, _ => simp [go_sem]
    | 8, _ => simp [go_sem]
    | 9, _ => simp [go_sem]
    | 10, _ => simp [go_sem]
    | 11, _ => simp [go_sem]
  · simp [go_sem]

set_option maxRecDepth 100000 in
set_option maxHeartbeats 4000000 in
theorem of_any (x : BitVec 64) (w : World) (hT : Tab w) : Calls Tryd.prog 21 #[.int .u64 (x.toNat : Int)] w (Makes (.agg #[.bool (x.getLsbD 0), .bool (x.getLsbD 1), .bool (x.getLsbD 2), .bool (x.getLsbD 3), .bool (x.getLsbD 4), .bool (x.getLsbD 5), .bool (x.getLsbD 6), .bool (x.getLsbD 7), .bool (x.getLsbD 58), .bool (x.getLsbD 59), .bool (x.getLsbD 60), .bool (x.getLsbD 61), .int .u64 ((getB x 10 44).toNat : Int)]) w) := by
  have SS := cell_same
  have LB' := ltB_add
  have LS := ltB_self
  have LA' := alloc_reads
  have LH := alloc_holds
  have C1 : Hid (∀ W, Calls Tryd.prog 45 #[.int .u64 (x.toNat : Int), .int .i64 10, .int .i64 44] W (Quiet (.int .u64 ((getB x 10 44).toNat : Int)) W)) := hide (fun W => get_any x 10 44 W)
  have C2 : Hid (∀ k, k < 12 → ∀ W, Calls Tryd.prog 45 #[.int .u64 (x.toNat : Int), .int .i64 (plc k : Int), .int .i64 1] W (Quiet (.int .u64 ((getB x (plc k : Int) 1).toNat : Int)) W)) := hide (fun k _ W => get_any x (plc k : Int) 1 W)
  generalize (getB x 10 44).toNat = F at *
  go_enter Tryd.func21, Tryd.ntmps21
  go_wp2_with (first | (go_at_call 45; (with_reducible first | refine (C1.out _).mono ?_); rintro e w' ⟨rfl, n1, rfl⟩) | (go_at_call 44; (with_reducible refine (flags_any _ _).mono ?_); rintro e w1 ⟨rfl, hb1⟩; have hr1 := below_reads hb1; have hh1 := below_holds hb1; obtain ⟨m1, hs1⟩ := below_grew hb1))
  have hT1 : Hid (∀ W, Below w.heap.size w W → Tab W) := hide (fun W h => hT.behind h)
  have hB1 : Below w.heap.size w w1 := by
    repeat (first | with_reducible assumption | with_reducible exact Below.refl _ _ | with_reducible refine Below.drew ?_ | with_reducible refine below_drewN ?_ _ | with_reducible refine bw_alloc ?_ _ | (with_reducible refine bw_set ?_ ?_ _; focus (dsimp only; omega)) | (with_reducible apply bw_behind; with_reducible assumption))
  have hO1 : Hid (OfAt w1 (w.heap.size + 1) x F 0) := hide (of_be hb1 (by
    have := of_new (W := (w.alloc (.cells #[.bool false, .bool false, .bool false, .bool false, .bool false, .bool false, .bool false, .bool false, .bool false, .bool false, .bool false, .bool false, .int .u64 0] 32)).drewN n1) (t := 32) (x := x) (F := F)
    simpa [go_sem] using this))
  have hW0 : Own w1 w.heap.size 13 := o_be hb1 (o_al _ (o_dr _ (o_new rfl (Nat.le_refl _))))
  have hW1 : Own w1 (w.heap.size + 1) 13 := o_be hb1 (o_new (by simp [go_sem]) (Nat.le_refl _))
  clear hT hb1 hr1 hh1 hs1 m1
  go_loopw [10] (fun i wr => ∃ k : Nat, k ≤ 12 ∧ i = .int .i64 (k : Int) ∧ Hid (OfAt wr (w.heap.size + 1) x F k) ∧ Own wr w.heap.size 13 ∧ Own wr (w.heap.size + 1) 13 ∧ Below w.heap.size w wr) (fun i _ => 12 - (intOf i).toNat)
  case atStart => exact ⟨0, by omega, rfl, hO1, hW0, hW1, hB1⟩
  case round =>
    clear hO1 hB1 hW0 hW1
    obtain ⟨k, hk, rfl, hO, hW0, hW1, hB⟩ := hrel
    by_cases h : k < 12
    · have hi := index_ptr (w.heap.size + 1) k h
      have ct := (hT1.out _ hB) k h
      have D2 := hide (C2.out k h)
      have he := getB_one x (plc k) (by unfold plc; split <;> omega)
      have HS := hide (fun m => of_step h (o_dr m hW1) (of_dr m hO.out))
      obtain ⟨v1, hv1⟩ := hW1.val k (by omega)
      have hf1 := hW1.free k (by omega)
      generalize (getB x (plc k : Int) 1).toNat = G at *
      generalize x.getLsbD (plc k) = β at *
      go_wp2_with (first | (go_at_call 45; (with_reducible first | refine (D2.out _).mono ?_); rintro e w' ⟨rfl, n1, rfl⟩))
      go_roundw
      case rel => exact ⟨k + 1, by omega, by go_num, hide (HS.out n1), o_set (o_dr _ hW0), o_set (o_dr _ hW1), by repeat (first | with_reducible assumption | with_reducible exact Below.refl _ _ | with_reducible refine Below.drew ?_ | with_reducible refine below_drewN ?_ _ | with_reducible refine bw_alloc ?_ _ | (with_reducible refine bw_set ?_ ?_ _; focus (dsimp only; omega)) | (with_reducible apply bw_behind; with_reducible assumption))⟩
      case measure => simp [intOf]; omega
    · obtain rfl : k = 12 := by omega
      have c0 : wr.cell? ⟨w.heap.size + 1, 0, none⟩ = some (.bool (x.getLsbD 0)) := by simpa [plc] using hO.out.1 0 (by omega)
      have c1 : wr.cell? ⟨w.heap.size + 1, 1, none⟩ = some (.bool (x.getLsbD 1)) := by simpa [plc] using hO.out.1 1 (by omega)
      have c2 : wr.cell? ⟨w.heap.size + 1, 2, none⟩ = some (.bool (x.getLsbD 2)) := by simpa [plc] using hO.out.1 2 (by omega)
      have c3 : wr.cell? ⟨w.heap.size + 1, 3, none⟩ = some (.bool (x.getLsbD 3)) := by simpa [plc] using hO.out.1 3 (by omega)
      have c4 : wr.cell? ⟨w.heap.size + 1, 4, none⟩ = some (.bool (x.getLsbD 4)) := by simpa [plc] using hO.out.1 4 (by omega)
      have c5 : wr.cell? ⟨w.heap.size + 1, 5, none⟩ = some (.bool (x.getLsbD 5)) := by simpa [plc] using hO.out.1 5 (by omega)
      have c6 : wr.cell? ⟨w.heap.size + 1, 6, none⟩ = some (.bool (x.getLsbD 6)) := by simpa [plc] using hO.out.1 6 (by omega)
      have c7 : wr.cell? ⟨w.heap.size + 1, 7, none⟩ = some (.bool (x.getLsbD 7)) := by simpa [plc] using hO.out.1 7 (by omega)
      have c8 : wr.cell? ⟨w.heap.size + 1, 8, none⟩ = some (.bool (x.getLsbD 58)) := by simpa [plc] using hO.out.1 8 (by omega)
      have c9 : wr.cell? ⟨w.heap.size + 1, 9, none⟩ = some (.bool (x.getLsbD 59)) := by simpa [plc] using hO.out.1 9 (by omega)
      have c10 : wr.cell? ⟨w.heap.size + 1, 10, none⟩ = some (.bool (x.getLsbD 60)) := by simpa [plc] using hO.out.1 10 (by omega)
      have c11 : wr.cell? ⟨w.heap.size + 1, 11, none⟩ = some (.bool (x.getLsbD 61)) := by simpa [plc] using hO.out.1 11 (by omega)
      have c12 := hO.out.2
      obtain ⟨v0, hv0⟩ := hW0.val 0 (by omega)
      have hf0 := hW0.free 0 (by omega)
      obtain ⟨v1, hv1⟩ := hW0.val 1 (by omega)
      have hf1 := hW0.free 1 (by omega)
      obtain ⟨v2, hv2⟩ := hW0.val 2 (by omega)
      have hf2 := hW0.free 2 (by omega)
      obtain ⟨v3, hv3⟩ := hW0.val 3 (by omega)
      have hf3 := hW0.free 3 (by omega)
      obtain ⟨v4, hv4⟩ := hW0.val 4 (by omega)
      have hf4 := hW0.free 4 (by omega)
      obtain ⟨v5, hv5⟩ := hW0.val 5 (by omega)
      have hf5 := hW0.free 5 (by omega)
      obtain ⟨v6, hv6⟩ := hW0.val 6 (by omega)
      have hf6 := hW0.free 6 (by omega)
      obtain ⟨v7, hv7⟩ := hW0.val 7 (by omega)
      have hf7 := hW0.free 7 (by omega)
      obtain ⟨v8, hv8⟩ := hW0.val 8 (by omega)
      have hf8 := hW0.free 8 (by omega)
      obtain ⟨v9, hv9⟩ := hW0.val 9 (by omega)
      have hf9 := hW0.free 9 (by omega)
      obtain ⟨v10, hv10⟩ := hW0.val 10 (by omega)
      have hf10 := hW0.free 10 (by omega)
      obtain ⟨v11, hv11⟩ := hW0.val 11 (by omega)
      have hf11 := hW0.free 11 (by omega)
      obtain ⟨v12, hv12⟩ := hW0.val 12 (by omega)
      have hf12 := hW0.free 12 (by omega)
      have SS2 := cell_same
      clear hO hk h
      go_wp2_with fail
      refine bodyPost_ret (v := .agg #[.bool (x.getLsbD 0), .bool (x.getLsbD 1), .bool (x.getLsbD 2), .bool (x.getLsbD 3), .bool (x.getLsbD 4), .bool (x.getLsbD 5), .bool (x.getLsbD 6), .bool (x.getLsbD 7), .bool (x.getLsbD 58), .bool (x.getLsbD 59), .bool (x.getLsbD 60), .bool (x.getLsbD 61), .int .u64 (F : Int)]) (by simp (maxDischargeDepth := 4) [results, Tryd.results21, go_sem, *]) rfl ?_
      refine ⟨rfl, ?_⟩
      repeat (first | with_reducible assumption | with_reducible exact Below.refl _ _ | with_reducible refine Below.drew ?_ | with_reducible refine below_drewN ?_ _ | with_reducible refine bw_alloc ?_ _ | (with_reducible refine bw_set ?_ ?_ _; focus (dsimp only; omega)) | (with_reducible apply bw_behind; with_reducible assumption))
end Go.Proofs.YtnookalplejneaaDoor
