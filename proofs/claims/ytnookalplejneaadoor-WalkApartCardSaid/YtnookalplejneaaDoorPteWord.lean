/-
  What Word answers: each flag that is set is put into the word, one after the other, behind the Frame.
-/
import Derived.Test.YtnookalplejneaaDoorPteTab
import Derived.Test.YtnookalplejneaaDoorPteBits
import Derived.Test.YtnookalplejneaaDoorPteFlags
import Derived.Test.YtnookalplejneaaDoorFieldWalks
namespace Go.Proofs.YtnookalplejneaaDoor
open Go.RowKit Words FieldMath PteMath

set_option maxRecDepth 100000 in
set_option maxHeartbeats 4000000 in
theorem word_any (b0 b1 b2 b3 b4 b5 b6 b7 b8 b9 b10 b11 : Bool) (F : BitVec 64) (w : World) (hT : Tab w) : Calls Tryd.prog 20 #[.agg #[.bool b0, .bool b1, .bool b2, .bool b3, .bool b4, .bool b5, .bool b6, .bool b7, .bool b8, .bool b9, .bool b10, .bool b11, .int .u64 (F.toNat : Int)]] w (Makes (.int .u64 ((wk (bs b0 b1 b2 b3 b4 b5 b6 b7 b8 b9 b10 b11) F 12).toNat : Int)) w) := by
  have SS := cell_same
  have LB' := ltB_add
  have LS := ltB_self
  have LA' := alloc_reads
  have LH := alloc_holds
  have C1 : Hid (∀ W, Calls Tryd.prog 43 #[.int .u64 0, .int .i64 10, .int .i64 44, .int .u64 (F.toNat : Int)] W (Quiet (.int .u64 ((wk (bs b0 b1 b2 b3 b4 b5 b6 b7 b8 b9 b10 b11) F 0).toNat : Int)) W)) := hide (fun W => put_any 0 10 44 F W)
  have C2 : Hid (∀ k, bs b0 b1 b2 b3 b4 b5 b6 b7 b8 b9 b10 b11 k = true → ∀ W, Calls Tryd.prog 43 #[.int .u64 ((wk (bs b0 b1 b2 b3 b4 b5 b6 b7 b8 b9 b10 b11) F k).toNat : Int), .int .i64 (plc k : Int), .int .i64 1, .int .u64 1] W (Quiet (.int .u64 ((wk (bs b0 b1 b2 b3 b4 b5 b6 b7 b8 b9 b10 b11) F (k + 1)).toNat : Int)) W)) :=
    hide (fun k hk W => by have := put_any (wk (bs b0 b1 b2 b3 b4 b5 b6 b7 b8 b9 b10 b11) F k) (plc k : Int) 1 1 W; rw [wk, if_pos hk]; exact this)
  have C3 : Hid (∀ k, bs b0 b1 b2 b3 b4 b5 b6 b7 b8 b9 b10 b11 k = false → wk (bs b0 b1 b2 b3 b4 b5 b6 b7 b8 b9 b10 b11) F (k + 1) = wk (bs b0 b1 b2 b3 b4 b5 b6 b7 b8 b9 b10 b11) F k) := hide (fun k hk => by rw [wk, if_neg (by simp [hk])])
  have HE := hide (entL_at b0 b1 b2 b3 b4 b5 b6 b7 b8 b9 b10 b11 F)
  have HR : Row (w.alloc (.cells (entL b0 b1 b2 b3 b4 b5 b6 b7 b8 b9 b10 b11 F).toArray 32)) w.heap.size (entL b0 b1 b2 b3 b4 b5 b6 b7 b8 b9 b10 b11 F) := row_new rfl rfl
  unfold entL at HR
  have HRH := hide HR
  clear HR
  generalize hq : bs b0 b1 b2 b3 b4 b5 b6 b7 b8 b9 b10 b11 = b at *
  go_enter Tryd.func20, Tryd.ntmps20
  go_wp2_with (first | (go_at_call 43; (with_reducible first | refine (C1.out _).mono ?_); rintro e w' ⟨rfl, n1, rfl⟩) | (go_at_call 44; (with_reducible refine (flags_any _ _).mono ?_); rintro e w1 ⟨rfl, hb1⟩; have hr1 := below_reads hb1; have hh1 := below_holds hb1; obtain ⟨m1, hs1⟩ := below_grew hb1))
  have hT1 : Hid (∀ W, Below w.heap.size w W → Tab W) := hide (fun W h => hT.behind h)
  have hB1 : Below w.heap.size w w1 := by
    repeat (first | with_reducible assumption | with_reducible exact Below.refl _ _ | with_reducible refine Below.drew ?_ | with_reducible refine below_drewN ?_ _ | with_reducible refine bw_alloc ?_ _ | (with_reducible refine bw_set ?_ ?_ _; focus (dsimp only; omega)) | (with_reducible apply bw_behind; with_reducible assumption))
  have hR1 : Hid (Row w1 w.heap.size (entL b0 b1 b2 b3 b4 b5 b6 b7 b8 b9 b10 b11 F)) := hide (k_be hb1 (k_dr _ HRH.out))
  clear hT HRH hb1 hr1 hh1 hs1 m1
  go_loopw [3, 10] (fun x i wr => ∃ k : Nat, k ≤ 12 ∧ x = .int .u64 ((wk b F k).toNat : Int) ∧ i = .int .i64 (k : Int) ∧ Hid (Row wr w.heap.size (entL b0 b1 b2 b3 b4 b5 b6 b7 b8 b9 b10 b11 F)) ∧ Below w.heap.size w wr) (fun _ i _ => 12 - (intOf i).toNat)
  case atStart => exact ⟨0, by omega, rfl, rfl, hR1, hB1⟩
  case round =>
    clear hR1 hB1
    obtain ⟨k, hk, rfl, rfl, hR, hB⟩ := hrel
    by_cases h : k < 12
    · have hi := index_ptr w.heap.size k h
      have cb := hR.out k _ (HE.out k h)
      have ct := (hT1.out _ hB) k h
      have c3 := C3.out k
      have c2 := C2.out k
      cases hbk : b k with
      | true =>
        rw [hbk] at cb
        have D2 := hide (c2 hbk)
        clear c2 c3 hbk
        go_wp2_with (first | (go_at_call 43; (with_reducible first | refine (D2.out _).mono ?_); rintro e w' ⟨rfl, n1, rfl⟩))
        go_roundw
        case rel => exact ⟨k + 1, by omega, rfl, by go_num, hR, by repeat (first | with_reducible assumption | with_reducible exact Below.refl _ _ | with_reducible refine Below.drew ?_ | with_reducible refine below_drewN ?_ _ | with_reducible refine bw_alloc ?_ _ | (with_reducible refine bw_set ?_ ?_ _; focus (dsimp only; omega)) | (with_reducible apply bw_behind; with_reducible assumption))⟩
        case measure => simp [intOf]; omega
      | false =>
        rw [hbk] at cb
        have D3 := c3 hbk
        clear c2 c3 hbk
        go_wp2_with fail
        go_roundw
        case rel => exact ⟨k + 1, by omega, by rw [D3], by go_num, hR, by repeat (first | with_reducible assumption | with_reducible exact Below.refl _ _ | with_reducible refine Below.drew ?_ | with_reducible refine below_drewN ?_ _ | with_reducible refine bw_alloc ?_ _ | (with_reducible refine bw_set ?_ ?_ _; focus (dsimp only; omega)) | (with_reducible apply bw_behind; with_reducible assumption))⟩
        case measure => simp [intOf]; omega
    · obtain rfl : k = 12 := by omega
      go_wp2_with fail
      go_ret
      refine ⟨rfl, ?_⟩
      repeat (first | with_reducible assumption | with_reducible exact Below.refl _ _ | with_reducible refine Below.drew ?_ | with_reducible refine below_drewN ?_ _ | with_reducible refine bw_alloc ?_ _ | (with_reducible refine bw_set ?_ ?_ _; focus (dsimp only; omega)) | (with_reducible apply bw_behind; with_reducible assumption))
end Go.Proofs.YtnookalplejneaaDoor
