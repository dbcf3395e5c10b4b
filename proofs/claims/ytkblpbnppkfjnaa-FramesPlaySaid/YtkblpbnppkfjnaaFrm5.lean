/-
  What Take and Give answer, and what they turn.
-/
import Derived.Test.YtkblpbnppkfjnaaFrm4
import Derived.Deep.DeepCutAuto
namespace Go.Proofs.Ytkblpbnppkfjnaa
open Go.RowKit Words ScaleMath FrmMath

theorem ob_put (W : World) (b : Nat) (u : Value) : OutB b W (W.setCell ⟨b, 1, none⟩ u) := ⟨rfl, rfl, rfl, by simp [World.setCell], fun k _ hne => Below.heap_setCell _ _ _ k hne⟩

set_option maxHeartbeats 1000000 in
theorem take_no (p : Option Addr) (w : World) (cm : Calls Try.prog 17 #[.pointer p] w (Quiet (.bool false) w)) : Calls Try.prog 8 #[.pointer p] w (Makes (.tuple #[.int .i64 0, .int .i64 1]) w) := by
  have C1 := hide cm
  clear cm
  go_enter Try.func8, Try.ntmps8
  go_wp2_with (go_at_call 17; refine C1.out.mono ?_; rintro e w' ⟨rfl, k, rfl⟩)
  go_ret2
  exact ⟨rfl, by repeat (first | with_reducible assumption | with_reducible exact Below.refl _ _ | with_reducible refine Below.drew ?_ | with_reducible refine below_drewN ?_ _ | with_reducible refine bw_alloc ?_ _ | (with_reducible refine bw_set ?_ ?_ _; focus (dsimp only; omega)) | (with_reducible apply bw_behind; with_reducible assumption))⟩

set_option maxHeartbeats 1000000 in
theorem take_full (b : Nat) (A : BitVec 64) (hA : A ≠ 0#64) (w : World) (hp : PoolAt w b A A) : Calls Try.prog 8 #[.pointer (some ⟨b, 0, none⟩)] w (Makes (.tuple #[.int .i64 0, .int .i64 15]) w) := by
  have C1 := hide (made_same b A A hA w hp)
  have c0 := hp.c0
  have c1 := hp.c1
  clear hp hA
  generalize (A.toNat : Int) = a at *
  have he := eqi_p a a a a
  simp only [decide_true, Bool.and_self] at he
  go_enter Try.func8, Try.ntmps8
  go_wp2_with (go_at_call 17; refine C1.out.mono ?_; rintro e w' ⟨rfl, hw⟩; replace hw := hw.symm; subst hw)
  go_quiet (fail)
  go_wp2
  go_ret2
  exact ⟨rfl, by repeat (first | with_reducible assumption | with_reducible exact Below.refl _ _ | with_reducible refine Below.drew ?_ | with_reducible refine below_drewN ?_ _ | with_reducible refine bw_alloc ?_ _ | (with_reducible refine bw_set ?_ ?_ _; focus (dsimp only; omega)) | (with_reducible apply bw_behind; with_reducible assumption))⟩

set_option maxHeartbeats 1000000 in
theorem take_room (b : Nat) (A T : BitVec 64) (hA : A ≠ 0#64) (hne : T ≠ A) (n : Nat) (l : List Int) (hl : onesL (freeW A T) = (n : Int) :: l) (w : World) (hp : PoolAt w b A T) :
    Calls Try.prog 8 #[.pointer (some ⟨b, 0, none⟩)] w fun e w' => e = .returned (.tuple #[.int .i64 (n : Int), .int .i64 0]) ∧ PoolAt w' b A (setW T n) ∧ OutB b w w' := by
  have C1 := hide (made_same b A T hA w hp)
  have CF := fun W hW => frees_at b A T hA W hW
  rw [hl] at CF
  have CF := hide CF
  have C2 : Hid (∀ W : World, Calls Try.prog 16 #[.int .i64 (n : Int)] W fun e W' => e = .returned (.int .u64 ((oneW n).toNat : Int)) ∧ Below W.heap.size W W') := hide (fun W => (bit_let n (by omega) W).mono fun _ _ h => quiet_makes h)
  have c0 := hp.c0
  have c1 := hp.c1
  have he := eqi_p (A.toNat : Int) (T.toNat : Int) (A.toNat : Int) (A.toNat : Int)
  have h0 : decide ((T.toNat : Int) = (A.toNat : Int)) = false := decide_eq_false (fun e => hne (BitVec.eq_of_toNat_eq (by omega)))
  simp only [h0, decide_true, Bool.and_false] at he
  have hor : bits .or .u64 (T.toNat : Int) ((oneW n).toNat : Int) = ((setW T n).toNat : Int) := or_bv _ _
  have HP : Hid (∀ W : World, PoolAt W b A T → PoolAt (W.setCell ⟨b, 1, none⟩ (.int .u64 ((setW T n).toNat : Int))) b A (setW T n)) := hide (fun W h => pool_put h)
  have HB : Hid (PoolAt w b A T) := hide hp
  clear hp hne h0 hl hA
  go_enter Try.func8, Try.ntmps8
  go_wp2_with (go_at_call 17; refine C1.out.mono ?_; rintro e w' ⟨rfl, hw⟩; replace hw := hw.symm; subst hw)
  go_quiet (fail)
  go_upto_region 6 with (go_at_call 18; refine (CF.out _ (by have hp' := HB.out; repeat (first | with_reducible assumption | with_reducible refine pool_dr _ ?_ | with_reducible refine pool_d1 ?_ | with_reducible refine pool_al _ ?_ | (with_reducible apply pool_be; with_reducible assumption)))).mono ?_; rintro e w1 ⟨v, rfl, hrow, hb1⟩; obtain ⟨sa, cap, rfl, hcap, hcell⟩ := hrow.form; obtain ⟨g, rfl, -, -, hg⟩ := hcell 0 (n : Int) rfl)
  refine wp_abs (fun W => PoolAt W b A T ∧ Below w.heap.size w W) ?_ ?_
  · have hp' := HB.out
    exact ⟨by repeat (first | with_reducible assumption | with_reducible refine pool_dr _ ?_ | with_reducible refine pool_d1 ?_ | with_reducible refine pool_al _ ?_ | (with_reducible apply pool_be; with_reducible assumption)), by repeat (first | with_reducible assumption | with_reducible exact Below.refl _ _ | with_reducible refine Below.drew ?_ | with_reducible refine below_drewN ?_ _ | with_reducible refine bw_alloc ?_ _ | (with_reducible refine bw_set ?_ ?_ _; focus (dsimp only; omega)) | (with_reducible apply bw_behind; with_reducible assumption))⟩
  rintro w0 ⟨hp0, hB0⟩
  refine wp_region_tail_lit (C := fun W => ∃ y : Behind w0.heap.size w0, W = y.world) 9 _ rfl (by kernel_rfl) (by kernel_rfl) (by kernel_rfl) ⟨⟨w0.drew, (Below.refl _ _).drew⟩, rfl⟩ ?_
  have yc := behind_cell0 hp0.c1
  have hsome := Behind.any w0
  simp only [List.take_succ_cons, List.take_zero, List.cons_append, List.nil_append, mute]
  repeat (go_big_quiet_step ((go_at_call 16; with_reducible exact Behind.call C2.out _)))
  refine wpQuiet_nil ?_
  rintro _ ⟨y, rfl⟩
  have hp1 := pool_be y.below hp0
  have x1 := hp1.c1
  have xf := hp1.f (i := 1)
  go_wp2
  go_ret2
  exact ⟨rfl, HP.out _ hp1, (OutB.of_below (hB0.trans (y.below.mono hB0.size))).trans (ob_put _ _ _)⟩

set_option maxHeartbeats 1000000 in
theorem give_no (p : Option Addr) (n : Int) (w : World) (cm : Calls Try.prog 17 #[.pointer p] w (Quiet (.bool false) w)) : Calls Try.prog 10 #[.pointer p, .int .i64 n] w (Makes (.int .i64 1) w) := by
  have C1 := hide cm
  clear cm
  go_enter Try.func10, Try.ntmps10
  go_wp2_with (go_at_call 17; refine C1.out.mono ?_; rintro e w' ⟨rfl, k, rfl⟩)
  go_ret
  exact ⟨rfl, by repeat (first | with_reducible assumption | with_reducible exact Below.refl _ _ | with_reducible refine Below.drew ?_ | with_reducible refine below_drewN ?_ _ | with_reducible refine bw_alloc ?_ _ | (with_reducible refine bw_set ?_ ?_ _; focus (dsimp only; omega)) | (with_reducible apply bw_behind; with_reducible assumption))⟩

set_option maxHeartbeats 1000000 in
theorem give_hasnt (b : Nat) (A T : BitVec 64) (hA : A ≠ 0#64) (n : Int) (h : hasB A n = false) (w : World) (hp : PoolAt w b A T) : Calls Try.prog 10 #[.pointer (some ⟨b, 0, none⟩), .int .i64 n] w (Makes (.int .i64 2) w) := by
  have C1 := hide (made_same b A T hA w hp)
  have C2 := has_at b A T hA n w hp
  rw [h] at C2
  have C2 := hide C2
  clear hp hA h
  go_enter Try.func10, Try.ntmps10
  go_wp2_with (first | (go_at_call 17; refine C1.out.mono ?_; rintro e w' ⟨rfl, hw⟩; replace hw := hw.symm; subst hw) | (go_at_call 20; refine C2.out.mono ?_; rintro e w' ⟨rfl, k, rfl⟩))
  go_ret
  exact ⟨rfl, by repeat (first | with_reducible assumption | with_reducible exact Below.refl _ _ | with_reducible refine Below.drew ?_ | with_reducible refine below_drewN ?_ _ | with_reducible refine bw_alloc ?_ _ | (with_reducible refine bw_set ?_ ?_ _; focus (dsimp only; omega)) | (with_reducible apply bw_behind; with_reducible assumption))⟩

set_option maxHeartbeats 1000000 in
theorem give_free (b : Nat) (A T : BitVec 64) (hA : A ≠ 0#64) (n : Int) (h : hasB A n = true) (ht : takenB A T n = false) (w : World) (hp : PoolAt w b A T) : Calls Try.prog 10 #[.pointer (some ⟨b, 0, none⟩), .int .i64 n] w (Makes (.int .i64 13) w) := by
  have C1 := hide (made_same b A T hA w hp)
  have C2 := has_at b A T hA n w hp
  rw [h] at C2
  have C2 := hide C2
  have C3 := fun k => taken_at b A T hA n _ (pool_dr k hp)
  rw [ht] at C3
  have C3 := hide C3
  clear hp hA h ht
  go_enter Try.func10, Try.ntmps10
  go_wp2_with (first | (go_at_call 17; refine C1.out.mono ?_; rintro e w' ⟨rfl, hw⟩; replace hw := hw.symm; subst hw) | (go_at_call 20; refine C2.out.mono ?_; rintro e w' ⟨rfl, k, rfl⟩) | (go_at_call 15; refine (C3.out _).mono ?_; rintro e w' ⟨rfl, k, rfl⟩))
  go_ret
  exact ⟨rfl, by repeat (first | with_reducible assumption | with_reducible exact Below.refl _ _ | with_reducible refine Below.drew ?_ | with_reducible refine below_drewN ?_ _ | with_reducible refine bw_alloc ?_ _ | (with_reducible refine bw_set ?_ ?_ _; focus (dsimp only; omega)) | (with_reducible apply bw_behind; with_reducible assumption))⟩

set_option maxHeartbeats 1000000 in
theorem give_yes (b : Nat) (A T : BitVec 64) (hA : A ≠ 0#64) (n : Int) (h : hasB A n = true) (ht : takenB A T n = true) (w : World) (hp : PoolAt w b A T) :
    Calls Try.prog 10 #[.pointer (some ⟨b, 0, none⟩), .int .i64 n] w fun e w' => e = .returned (.int .i64 0) ∧ PoolAt w' b A (clrW T n) ∧ OutB b w w' := by
  have hn0 : 0 ≤ n := by
    unfold hasB at h
    simp only [Bool.and_eq_true, decide_eq_true_eq] at h
    exact h.1
  have C1 := hide (made_same b A T hA w hp)
  have C4 := has_at b A T hA n w hp
  rw [h] at C4
  have C4 := hide C4
  have C3 := fun k => taken_at b A T hA n _ (pool_dr k hp)
  rw [ht] at C3
  have C3 := hide C3
  have C2 : Hid (∀ W : World, Calls Try.prog 16 #[.int .i64 n] W fun e W' => e = .returned (.int .u64 ((oneW n).toNat : Int)) ∧ Below W.heap.size W W') := hide (fun W => (bit_let n hn0 W).mono fun _ _ h => quiet_makes h)
  have hor : bits .andNot .u64 (T.toNat : Int) ((oneW n).toNat : Int) = ((clrW T n).toNat : Int) := andNot_bv _ _
  have HP : Hid (∀ W : World, PoolAt W b A T → PoolAt (W.setCell ⟨b, 1, none⟩ (.int .u64 ((clrW T n).toNat : Int))) b A (clrW T n)) := hide (fun W h => pool_put h)
  have HB : Hid (PoolAt w b A T) := hide hp
  clear hp h ht hA hn0
  go_enter Try.func10, Try.ntmps10
  go_upto_region 7 with (first | (go_at_call 17; refine C1.out.mono ?_; rintro e w' ⟨rfl, hw⟩; replace hw := hw.symm; subst hw) | (go_at_call 20; refine C4.out.mono ?_; rintro e w' ⟨rfl, k, rfl⟩) | (go_at_call 15; refine (C3.out _).mono ?_; rintro e w' ⟨rfl, k, rfl⟩))
  refine wp_abs (fun W => PoolAt W b A T ∧ Below w.heap.size w W) ?_ ?_
  · have hp' := HB.out
    exact ⟨by repeat (first | with_reducible assumption | with_reducible refine pool_dr _ ?_ | with_reducible refine pool_d1 ?_ | with_reducible refine pool_al _ ?_ | (with_reducible apply pool_be; with_reducible assumption)), by repeat (first | with_reducible assumption | with_reducible exact Below.refl _ _ | with_reducible refine Below.drew ?_ | with_reducible refine below_drewN ?_ _ | with_reducible refine bw_alloc ?_ _ | (with_reducible refine bw_set ?_ ?_ _; focus (dsimp only; omega)) | (with_reducible apply bw_behind; with_reducible assumption))⟩
  rintro w0 ⟨hp0, hB0⟩
  refine wp_region_tail_lit (C := fun W => ∃ y : Behind w0.heap.size w0, W = y.world) 9 _ rfl (by kernel_rfl) (by kernel_rfl) (by kernel_rfl) ⟨⟨w0.drew, (Below.refl _ _).drew⟩, rfl⟩ ?_
  have yc := behind_cell0 hp0.c1
  have hsome := Behind.any w0
  simp only [List.take_succ_cons, List.take_zero, List.cons_append, List.nil_append, mute]
  repeat (go_big_quiet_step ((go_at_call 16; with_reducible exact Behind.call C2.out _)))
  refine wpQuiet_nil ?_
  rintro _ ⟨y, rfl⟩
  have hp1 := pool_be y.below hp0
  have x1 := hp1.c1
  have xf := hp1.f (i := 1)
  go_wp2
  go_ret
  exact ⟨rfl, HP.out _ hp1, (OutB.of_below (hB0.trans (y.below.mono hB0.size))).trans (ob_put _ _ _)⟩
end Go.Proofs.Ytkblpbnppkfjnaa
