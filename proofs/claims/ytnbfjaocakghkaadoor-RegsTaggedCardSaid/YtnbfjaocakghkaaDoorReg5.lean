/-
  Tagged's iterator, called with a function of the statements.
-/
import Derived.Test.YtnbfjaocakghkaaDoorReg4
namespace Go.Proofs.YtnbfjaocakghkaaDoor
open Go.RowKit

set_option maxRecDepth 100000 in
set_option maxHeartbeats 2000000 in
theorem tagged_k (p2 p10 p9 p8 Bc : Nat) (R : Nat → C3) (J Jx : List Reg → World → Prop) (hJ : Stays J) (hY : ∀ (pre : List Reg) (x : Reg) (W : World), J pre W → pre.length < 33 → Calls Tryd.prog 18 #[.int .i64 (x.1 : Int), capV (R x.1), .pointer (some ⟨p2, 0, none⟩), .pointer (some ⟨p10, 0, none⟩), .pointer (some ⟨p9, 0, none⟩), .pointer (some ⟨p8, 0, none⟩)] W fun e W' => (e = .returned (.bool true) ∧ J (pre ++ [x]) W' ∧ (Ctx W Bc R → Ctx W' Bc R)) ∨ (e = .returned (.bool false) ∧ Jx (pre ++ [x]) W'))
    (W : World) (hX0 : Ctx W Bc R) (h0 : J [] W) : Calls Tryd.prog 32 #[.func (.func 18) #[] #[.pointer (some ⟨p2, 0, none⟩), .pointer (some ⟨p10, 0, none⟩), .pointer (some ⟨p9, 0, none⟩), .pointer (some ⟨p8, 0, none⟩)], .pointer (some ⟨Bc, 0, none⟩)] W fun e W' => (∃ v, e = .returned v) ∧ ((∃ ys, ys = tagU R 33 ∧ J ys W') ∨ (∃ pre, pre <+: tagU R 33 ∧ Jx pre W')) := by
  go_enter Tryd.func32, Tryd.ntmps32
  go_wp2
  go_loopw [5] (fun i wr => ∃ k : Nat, k ≤ 32 ∧ i = .int .i64 (k : Int) ∧ Ctx wr Bc R ∧ J (tagU R k) wr) (fun i _ => 32 - (intOf i).toNat)
  case atStart => exact ⟨0, by omega, rfl, hX0, h0⟩
  case round =>
    obtain ⟨k, hk, rfl, hX, hJs⟩ := hrel
    by_cases hlt : k < 32
    · have e1 : (k : Int) < 32 := by omega
      have C1 := hide (fun W => get_all R (k : Int) W)
      obtain ⟨⟨t, m, a⟩, hg⟩ : ∃ c, getR R (k : Int) = c := ⟨_, rfl⟩
      rw [hg] at C1
      unfold capV at C1
      dsimp only at C1
      have HG := hide hg
      clear hg
      go_upto_region 4 with (first | ((refine wpList_load_ctx rfl ctx_p rfl rfl hX ?_)) | (go_at_call 10; (with_reducible refine (C1.out _).mono ?_); rintro e w1 ⟨rfl, hb1⟩))
      have hs1 := hb1.size
      refine wp_abs (fun W2 => Below wr.heap.size wr W2 ∧ W2.cell? ⟨w1.heap.size, 0, none⟩ = some (.bool t) ∧ W2.cell? ⟨w1.heap.size, 1, none⟩ = some (.int .u64 (m : Int)) ∧ W2.cell? ⟨w1.heap.size, 2, none⟩ = some (.int .u64 (a : Int))) ?_ ?_
      · refine ⟨?_, ?_, ?_, ?_⟩
        · repeat (first | with_reducible assumption | with_reducible exact Below.refl _ _ | with_reducible refine Below.drew ?_ | with_reducible refine below_drewN ?_ _ | with_reducible refine bw_alloc ?_ _ | (with_reducible refine bw_set ?_ ?_ _; focus (dsimp only; omega)) | (with_reducible apply bw_behind; with_reducible assumption) | (with_reducible refine bw_sc _ ?_ ?_; focus omega))
        all_goals (simp [go_sem])
      generalize w1.heap.size = N
      clear hb1 hs1
      rintro W2 ⟨hB2, c0, c1, c2⟩
      clear C1
      have hX2 := hX.be hB2
      have hJ2 := hJ _ _ _ hJs hB2
      cases t with
      | false =>
        have hm := tagU_miss R k (getR_miss hlt HG.out)
        have HM := hide hm
        clear hm
        go_wp2
        go_roundw
        case rel => exact ⟨k + 1, by omega, by go_num, hX2, by rw [HM.out]; exact hJ2⟩
        case measure => simp [intOf]; omega
      | true =>
        obtain ⟨hk1, hRk⟩ := getR_hit hlt HG.out
        have HH := hide (tagU_hit R k hk1 (by rw [hRk]))
        have hy := hY (tagU R k) ⟨k, hk1⟩ W2 hJ2 (by have := tagU_len R k; omega)
        dsimp only [capV] at hy
        rw [hRk] at hy
        dsimp only at hy
        have HYY := hide hy
        clear hy
        go_wp2_with (first | (go_at_call 18; refine HYY.out.mono ?_))
        rintro e W3 (⟨rfl, hJ3, hk3⟩ | ⟨rfl, hJx3⟩)
        · have hX3 := hk3 hX2
          go_wp2
          go_wp2
          go_roundw
          case rel => exact ⟨k + 1, by omega, by go_num, hX3, by rw [HH.out]; exact hJ3⟩
          case measure => simp [intOf]; omega
        · go_wp2
          go_wp2
          refine bodyPost_ret (results_none rfl _ _ _) rfl ?_
          exact ⟨⟨_, rfl⟩, .inr ⟨_, by rw [← HH.out]; exact tagU_pre R (by omega), hJx3⟩⟩
    · obtain rfl : k = 32 := by omega
      have c0 := hX.c0 (i := 32) (by omega)
      have c1 := hX.c1 (i := 32) (by omega)
      have c2 := hX.c2 (i := 32) (by omega)
      have hHIT := fun h => tagU_hit R 32 (by omega) h
      have hMIS := fun h => tagU_miss R 32 h
      obtain ⟨⟨t, m, a⟩, hg⟩ : ∃ c, R 32 = c := ⟨_, rfl⟩
      rw [hg] at c0 c1 c2 hHIT hMIS
      dsimp only at c0 c1 c2
      have hJ2 := hJs
      cases t with
      | false =>
        have HM := hide (hMIS (fun h => by cases h.2))
        clear hHIT hMIS
        go_wp2
        go_end0
        exact ⟨⟨_, rfl⟩, .inl ⟨_, rfl, by rw [HM.out]; exact hJ2⟩⟩
      | true =>
        have HH := hide (hHIT rfl)
        clear hHIT hMIS
        go_upto_region 7 with fail
        have hy := hY (tagU R 32) ⟨32, by omega⟩ wr hJ2 (by have := tagU_len R 32; omega)
        dsimp only [capV] at hy
        rw [hg] at hy
        dsimp only at hy
        simp only [show ((32 : Nat) : Int) = 32 from rfl] at hy
        have HYY := hide hy
        clear hy
        go_wp2_with (first | (go_at_call 18; refine HYY.out.mono ?_))
        rintro e W3 (⟨rfl, hJ3, hk3⟩ | ⟨rfl, hJx3⟩)
        · go_wp2
          go_wp2
          go_end0
          exact ⟨⟨_, rfl⟩, .inl ⟨_, rfl, by rw [HH.out]; exact hJ3⟩⟩
        · go_wp2
          go_wp2
          go_end0
          exact ⟨⟨_, rfl⟩, .inr ⟨_, by rw [← HH.out]; exact List.prefix_refl _, hJx3⟩⟩

set_option maxRecDepth 100000 in
set_option maxHeartbeats 2000000 in
theorem tagged_m (p11 p3 Bc : Nat) (R : Nat → C3) (J Jx : List Reg → World → Prop) (hJ : Stays J) (hY : ∀ (pre : List Reg) (x : Reg) (W : World), J pre W → pre.length < 33 → Calls Tryd.prog 19 #[.int .i64 (x.1 : Int), capV (R x.1), .pointer (some ⟨p11, 0, none⟩), .pointer (some ⟨p3, 0, none⟩)] W fun e W' => (e = .returned (.bool true) ∧ J (pre ++ [x]) W' ∧ (Ctx W Bc R → Ctx W' Bc R)) ∨ (e = .returned (.bool false) ∧ Jx (pre ++ [x]) W'))
    (W : World) (hX0 : Ctx W Bc R) (h0 : J [] W) : Calls Tryd.prog 32 #[.func (.func 19) #[] #[.pointer (some ⟨p11, 0, none⟩), .pointer (some ⟨p3, 0, none⟩)], .pointer (some ⟨Bc, 0, none⟩)] W fun e W' => (∃ v, e = .returned v) ∧ ((∃ ys, ys = tagU R 33 ∧ J ys W') ∨ (∃ pre, pre <+: tagU R 33 ∧ Jx pre W')) := by
  go_enter Tryd.func32, Tryd.ntmps32
  go_wp2
  go_loopw [5] (fun i wr => ∃ k : Nat, k ≤ 32 ∧ i = .int .i64 (k : Int) ∧ Ctx wr Bc R ∧ J (tagU R k) wr) (fun i _ => 32 - (intOf i).toNat)
  case atStart => exact ⟨0, by omega, rfl, hX0, h0⟩
  case round =>
    obtain ⟨k, hk, rfl, hX, hJs⟩ := hrel
    by_cases hlt : k < 32
    · have e1 : (k : Int) < 32 := by omega
      have C1 := hide (fun W => get_all R (k : Int) W)
      obtain ⟨⟨t, m, a⟩, hg⟩ : ∃ c, getR R (k : Int) = c := ⟨_, rfl⟩
      rw [hg] at C1
      unfold capV at C1
      dsimp only at C1
      have HG := hide hg
      clear hg
      go_upto_region 4 with (first | ((refine wpList_load_ctx rfl ctx_p rfl rfl hX ?_)) | (go_at_call 10; (with_reducible refine (C1.out _).mono ?_); rintro e w1 ⟨rfl, hb1⟩))
      have hs1 := hb1.size
      refine wp_abs (fun W2 => Below wr.heap.size wr W2 ∧ W2.cell? ⟨w1.heap.size, 0, none⟩ = some (.bool t) ∧ W2.cell? ⟨w1.heap.size, 1, none⟩ = some (.int .u64 (m : Int)) ∧ W2.cell? ⟨w1.heap.size, 2, none⟩ = some (.int .u64 (a : Int))) ?_ ?_
      · refine ⟨?_, ?_, ?_, ?_⟩
        · repeat (first | with_reducible assumption | with_reducible exact Below.refl _ _ | with_reducible refine Below.drew ?_ | with_reducible refine below_drewN ?_ _ | with_reducible refine bw_alloc ?_ _ | (with_reducible refine bw_set ?_ ?_ _; focus (dsimp only; omega)) | (with_reducible apply bw_behind; with_reducible assumption) | (with_reducible refine bw_sc _ ?_ ?_; focus omega))
        all_goals (simp [go_sem])
      generalize w1.heap.size = N
      clear hb1 hs1
      rintro W2 ⟨hB2, c0, c1, c2⟩
      clear C1
      have hX2 := hX.be hB2
      have hJ2 := hJ _ _ _ hJs hB2
      cases t with
      | false =>
        have hm := tagU_miss R k (getR_miss hlt HG.out)
        have HM := hide hm
        clear hm
        go_wp2
        go_roundw
        case rel => exact ⟨k + 1, by omega, by go_num, hX2, by rw [HM.out]; exact hJ2⟩
        case measure => simp [intOf]; omega
      | true =>
        obtain ⟨hk1, hRk⟩ := getR_hit hlt HG.out
        have HH := hide (tagU_hit R k hk1 (by rw [hRk]))
        have hy := hY (tagU R k) ⟨k, hk1⟩ W2 hJ2 (by have := tagU_len R k; omega)
        dsimp only [capV] at hy
        rw [hRk] at hy
        dsimp only at hy
        have HYY := hide hy
        clear hy
        go_wp2_with (first | (go_at_call 19; refine HYY.out.mono ?_))
        rintro e W3 (⟨rfl, hJ3, hk3⟩ | ⟨rfl, hJx3⟩)
        · have hX3 := hk3 hX2
          go_wp2
          go_wp2
          go_roundw
          case rel => exact ⟨k + 1, by omega, by go_num, hX3, by rw [HH.out]; exact hJ3⟩
          case measure => simp [intOf]; omega
        · go_wp2
          go_wp2
          refine bodyPost_ret (results_none rfl _ _ _) rfl ?_
          exact ⟨⟨_, rfl⟩, .inr ⟨_, by rw [← HH.out]; exact tagU_pre R (by omega), hJx3⟩⟩
    · obtain rfl : k = 32 := by omega
      have c0 := hX.c0 (i := 32) (by omega)
      have c1 := hX.c1 (i := 32) (by omega)
      have c2 := hX.c2 (i := 32) (by omega)
      have hHIT := fun h => tagU_hit R 32 (by omega) h
      have hMIS := fun h => tagU_miss R 32 h
      obtain ⟨⟨t, m, a⟩, hg⟩ : ∃ c, R 32 = c := ⟨_, rfl⟩
      rw [hg] at c0 c1 c2 hHIT hMIS
      dsimp only at c0 c1 c2
      have hJ2 := hJs
      cases t with
      | false =>
        have HM := hide (hMIS (fun h => by cases h.2))
        clear hHIT hMIS
        go_wp2
        go_end0
        exact ⟨⟨_, rfl⟩, .inl ⟨_, rfl, by rw [HM.out]; exact hJ2⟩⟩
      | true =>
        have HH := hide (hHIT rfl)
        clear hHIT hMIS
        go_upto_region 7 with fail
        have hy := hY (tagU R 32) ⟨32, by omega⟩ wr hJ2 (by have := tagU_len R 32; omega)
        dsimp only [capV] at hy
        rw [hg] at hy
        dsimp only at hy
        simp only [show ((32 : Nat) : Int) = 32 from rfl] at hy
        have HYY := hide hy
        clear hy
        go_wp2_with (first | (go_at_call 19; refine HYY.out.mono ?_))
        rintro e W3 (⟨rfl, hJ3, hk3⟩ | ⟨rfl, hJx3⟩)
        · go_wp2
          go_wp2
          go_end0
          exact ⟨⟨_, rfl⟩, .inl ⟨_, rfl, by rw [HH.out]; exact hJ3⟩⟩
        · go_wp2
          go_wp2
          go_end0
          exact ⟨⟨_, rfl⟩, .inr ⟨_, by rw [← HH.out]; exact List.prefix_refl _, hJx3⟩⟩

set_option maxRecDepth 100000 in
set_option maxHeartbeats 2000000 in
theorem tagged_l (p14 Bc : Nat) (R : Nat → C3) (J Jx : List Reg → World → Prop) (hJ : Stays J) (hY : ∀ (pre : List Reg) (x : Reg) (W : World), J pre W → pre.length < 33 → Calls Tryd.prog 21 #[.int .i64 (x.1 : Int), capV (R x.1), .pointer (some ⟨p14, 0, none⟩)] W fun e W' => (e = .returned (.bool true) ∧ J (pre ++ [x]) W' ∧ (Ctx W Bc R → Ctx W' Bc R)) ∨ (e = .returned (.bool false) ∧ Jx (pre ++ [x]) W'))
    (W : World) (hX0 : Ctx W Bc R) (h0 : J [] W) : Calls Tryd.prog 32 #[.func (.func 21) #[] #[.pointer (some ⟨p14, 0, none⟩)], .pointer (some ⟨Bc, 0, none⟩)] W fun e W' => (∃ v, e = .returned v) ∧ ((∃ ys, ys = tagU R 33 ∧ J ys W') ∨ (∃ pre, pre <+: tagU R 33 ∧ Jx pre W')) := by
  go_enter Tryd.func32, Tryd.ntmps32
  go_wp2
  go_loopw [5] (fun i wr => ∃ k : Nat, k ≤ 32 ∧ i = .int .i64 (k : Int) ∧ Ctx wr Bc R ∧ J (tagU R k) wr) (fun i _ => 32 - (intOf i).toNat)
  case atStart => exact ⟨0, by omega, rfl, hX0, h0⟩
  case round =>
    obtain ⟨k, hk, rfl, hX, hJs⟩ := hrel
    by_cases hlt : k < 32
    · have e1 : (k : Int) < 32 := by omega
      have C1 := hide (fun W => get_all R (k : Int) W)
      obtain ⟨⟨t, m, a⟩, hg⟩ : ∃ c, getR R (k : Int) = c := ⟨_, rfl⟩
      rw [hg] at C1
      unfold capV at C1
      dsimp only at C1
      have HG := hide hg
      clear hg
      go_upto_region 4 with (first | ((refine wpList_load_ctx rfl ctx_p rfl rfl hX ?_)) | (go_at_call 10; (with_reducible refine (C1.out _).mono ?_); rintro e w1 ⟨rfl, hb1⟩))
      have hs1 := hb1.size
      refine wp_abs (fun W2 => Below wr.heap.size wr W2 ∧ W2.cell? ⟨w1.heap.size, 0, none⟩ = some (.bool t) ∧ W2.cell? ⟨w1.heap.size, 1, none⟩ = some (.int .u64 (m : Int)) ∧ W2.cell? ⟨w1.heap.size, 2, none⟩ = some (.int .u64 (a : Int))) ?_ ?_
      · refine ⟨?_, ?_, ?_, ?_⟩
        · repeat (first | with_reducible assumption | with_reducible exact Below.refl _ _ | with_reducible refine Below.drew ?_ | with_reducible refine below_drewN ?_ _ | with_reducible refine bw_alloc ?_ _ | (with_reducible refine bw_set ?_ ?_ _; focus (dsimp only; omega)) | (with_reducible apply bw_behind; with_reducible assumption) | (with_reducible refine bw_sc _ ?_ ?_; focus omega))
        all_goals (simp [go_sem])
      generalize w1.heap.size = N
      clear hb1 hs1
      rintro W2 ⟨hB2, c0, c1, c2⟩
      clear C1
      have hX2 := hX.be hB2
      have hJ2 := hJ _ _ _ hJs hB2
      cases t with
      | false =>
        have hm := tagU_miss R k (getR_miss hlt HG.out)
        have HM := hide hm
        clear hm
        go_wp2
        go_roundw
        case rel => exact ⟨k + 1, by omega, by go_num, hX2, by rw [HM.out]; exact hJ2⟩
        case measure => simp [intOf]; omega
      | true =>
        obtain ⟨hk1, hRk⟩ := getR_hit hlt HG.out
        have HH := hide (tagU_hit R k hk1 (by rw [hRk]))
        have hy := hY (tagU R k) ⟨k, hk1⟩ W2 hJ2 (by have := tagU_len R k; omega)
        dsimp only [capV] at hy
        rw [hRk] at hy
        dsimp only at hy
        have HYY := hide hy
        clear hy
        go_wp2_with (first | (go_at_call 21; refine HYY.out.mono ?_))
        rintro e W3 (⟨rfl, hJ3, hk3⟩ | ⟨rfl, hJx3⟩)
        · have hX3 := hk3 hX2
          go_wp2
          go_wp2
          go_roundw
          case rel => exact ⟨k + 1, by omega, by go_num, hX3, by rw [HH.out]; exact hJ3⟩
          case measure => simp [intOf]; omega
        · go_wp2
          go_wp2
          refine bodyPost_ret (results_none rfl _ _ _) rfl ?_
          exact ⟨⟨_, rfl⟩, .inr ⟨_, by rw [← HH.out]; exact tagU_pre R (by omega), hJx3⟩⟩
    · obtain rfl : k = 32 := by omega
      have c0 := hX.c0 (i := 32) (by omega)
      have c1 := hX.c1 (i := 32) (by omega)
      have c2 := hX.c2 (i := 32) (by omega)
      have hHIT := fun h => tagU_hit R 32 (by omega) h
      have hMIS := fun h => tagU_miss R 32 h
      obtain ⟨⟨t, m, a⟩, hg⟩ : ∃ c, R 32 = c := ⟨_, rfl⟩
      rw [hg] at c0 c1 c2 hHIT hMIS
      dsimp only at c0 c1 c2
      have hJ2 := hJs
      cases t with
      | false =>
        have HM := hide (hMIS (fun h => by cases h.2))
        clear hHIT hMIS
        go_wp2
        go_end0
        exact ⟨⟨_, rfl⟩, .inl ⟨_, rfl, by rw [HM.out]; exact hJ2⟩⟩
      | true =>
        have HH := hide (hHIT rfl)
        clear hHIT hMIS
        go_upto_region 7 with fail
        have hy := hY (tagU R 32) ⟨32, by omega⟩ wr hJ2 (by have := tagU_len R 32; omega)
        dsimp only [capV] at hy
        rw [hg] at hy
        dsimp only at hy
        simp only [show ((32 : Nat) : Int) = 32 from rfl] at hy
        have HYY := hide hy
        clear hy
        go_wp2_with (first | (go_at_call 21; refine HYY.out.mono ?_))
        rintro e W3 (⟨rfl, hJ3, hk3⟩ | ⟨rfl, hJx3⟩)
        · go_wp2
          go_wp2
          go_end0
          exact ⟨⟨_, rfl⟩, .inl ⟨_, rfl, by rw [HH.out]; exact hJ3⟩⟩
        · go_wp2
          go_wp2
          go_end0
          exact ⟨⟨_, rfl⟩, .inr ⟨_, by rw [← HH.out]; exact List.prefix_refl _, hJx3⟩⟩

end Go.Proofs.YtnbfjaocakghkaaDoor
