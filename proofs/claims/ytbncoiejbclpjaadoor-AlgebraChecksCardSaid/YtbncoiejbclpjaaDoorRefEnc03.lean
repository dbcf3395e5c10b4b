/-
  What the document's own answers of layer 3 (package mintmarkref03) are: Encode, Rounded.
-/
import Derived.Test.YtbncoiejbclpjaaDoorRef03Walks
namespace Go.Proofs.YtbncoiejbclpjaaDoor
open Go.RowKit Words BoundsMath

theorem mod14 (n : Nat) : (n : Int) % 16384 = ((n % 16384 : Nat) : Int) := by omega
theorem mod12 (n : Nat) : (n : Int) % 4096 = ((n % 4096 : Nat) : Int) := by omega
theorem tmod14 (n : Nat) : (n : Int).tmod 16384 = ((n % 16384 : Nat) : Int) := by rw [Int.tmod_eq_emod_of_nonneg (by omega)]; omega
theorem tmod12 (n : Nat) : (n : Int).tmod 4096 = ((n % 4096 : Nat) : Int) := by rw [Int.tmod_eq_emod_of_nonneg (by omega)]; omega
theorem eq_rspan (D U B T : Int) : ∀ W, (binOp .eql 57 (.agg #[.int .u64 D, .int .u64 U]) (.agg #[.int .u64 B, .int .u64 T])).run Tryd.prog W = .ok (.bool (decide (D = B ∧ U = T))) W := by
  intro W
  by_cases h1 : D = B <;> by_cases h2 : U = T <;> simp [go_sem, h1, h2]

set_option maxHeartbeats 2000000 in
theorem rrounded_any (b t e : Nat) (hb : b ≤ t) (ht : t ≤ 281474976710656) (hk : Kept b t e) (w : World) :
    Calls Tryd.prog 47 #[.agg #[.int .u64 (b : Int), .int .u64 (t : Int)]] w
      (Makes (.tuple #[.agg #[.int .u64 ((dn b (e - 1) : Nat) : Int), .int .u64 ((up t (e - 1) : Nat) : Int)], .bool true]) w) := by
  have H1 := hide hk
  have CM := hide (fun W => rmay_yes (b : Int) (t : Int) (by omega) (by omega) W)
  have CS := hide (fun (k : Nat) (hk : k ≤ 37) W => rkept_any b t k hb ht hk W)
  generalize (b : Int) = B at *
  generalize (t : Int) = T at *
  clear hk
  have SS := cell_same
  have LB := ltB_add
  have LS := ltB_self
  have LA := alloc_reads
  have LH := alloc_holds
  go_enter Tryd.func47, Tryd.ntmps47
  go_wp2
  go_loopw [4] (fun i wr => ∃ k : Nat, k ≤ e ∧ i = .int .u64 k ∧ Below (w.heap.size + 2) ((w.alloc (.cells #[.int .u64 B, .int .u64 T] 57)).alloc (.cells #[.int .u64 0, .int .u64 0] 57)) wr) (fun i _ => e - (intOf i).toNat)
  case atStart => exact ⟨0, by omega, rfl, Below.refl _ _⟩
  case round =>
    obtain ⟨k, hk, rfl, hb0⟩ := hrel
    have hk37 : k ≤ 37 := Nat.le_trans hk H1.out.le
    have hb00 : Below w.heap.size w wr := Below.trans (by
      repeat (first | with_reducible assumption | with_reducible exact Below.refl _ _ | with_reducible refine Below.drew ?_ | with_reducible refine below_drewN ?_ _ | with_reducible refine bw_alloc ?_ _ | (with_reducible refine bw_set ?_ ?_ _; focus (dsimp only; omega)) | (with_reducible apply bw_behind; with_reducible assumption))) (hb0.mono (by omega))
    obtain ⟨m0, hs0⟩ := below_grew hb0
    have hr0 := below_reads hb0
    have hh0 := below_holds hb0
    simp only [World.size_alloc] at hs0
    have c1 := CS.out k hk37
    have hf := fits_iff b t k
    have hK : (k : Int) ≤ 37 := by omega
    by_cases hke : k = e
    · subst hke
      rw [hf.2 H1.out.ok] at c1
      have C1 := hide c1
      clear c1 hf hk hk37 H1 CS
      generalize ((dn b (k - 1) : Nat) : Int) = D at *
      generalize ((up t (k - 1) : Nat) : Int) = U at *
      generalize (k : Int) = K at *
      go_wp2_with (first | (go_at_call 81; (with_reducible refine (CM.out _).mono ?_); rintro e w1 ⟨rfl, hb1⟩; have hr1 := below_reads hb1; have hh1 := below_holds hb1; obtain ⟨m1, hs1⟩ := below_grew hb1) | (go_at_call 82; (with_reducible refine (C1.out _).mono ?_); rintro e w1 ⟨rfl, hb1⟩; have hr1 := below_reads hb1; have hh1 := below_holds hb1; obtain ⟨m1, hs1⟩ := below_grew hb1))
      refine bodyPost_ret (v := .tuple #[.agg #[.int .u64 D, .int .u64 U], .bool true]) (by simp (maxDischargeDepth := 4) [results, Tryd.results47, go_sem, *]) rfl ?_
      refine ⟨rfl, ?_⟩
      repeat (first | with_reducible assumption | with_reducible exact Below.refl _ _ | with_reducible refine Below.drew ?_ | with_reducible refine below_drewN ?_ _ | with_reducible refine bw_alloc ?_ _ | (with_reducible refine bw_set ?_ ?_ _; focus (dsimp only; omega)) | (with_reducible apply bw_behind; with_reducible assumption))
    · rw [show fitsB (steps b t (k - 1)) k = false from by
        have := mt hf.1 (H1.out.no k (by omega))
        simpa using this] at c1
      have C1 := hide c1
      have hke2 : k + 1 ≤ e := by omega
      clear c1 hf hk hk37 H1 hke CS
      generalize ((dn b (k - 1) : Nat) : Int) = D at *
      generalize ((up t (k - 1) : Nat) : Int) = U at *
      go_wp2_with (first | (go_at_call 81; (with_reducible refine (CM.out _).mono ?_); rintro e w1 ⟨rfl, hb1⟩; have hr1 := below_reads hb1; have hh1 := below_holds hb1; obtain ⟨m1, hs1⟩ := below_grew hb1) | (go_at_call 82; (with_reducible refine (C1.out _).mono ?_); rintro e w1 ⟨rfl, hb1⟩; have hr1 := below_reads hb1; have hh1 := below_holds hb1; obtain ⟨m1, hs1⟩ := below_grew hb1))
      go_roundw
      case rel => exact ⟨k + 1, hke2, by go_num, by
        repeat (first | assumption | exact Below.refl _ _ | refine Below.setCell ?_ (by simp) _ | refine below_drewN ?_ _ | refine below_alloc ?_ (by simp) _ | refine below_behind ?_ (by simp) (by assumption))⟩
      case measure => simp [intOf]; omega

set_option maxHeartbeats 2000000 in
theorem rencode_any (b t e : Nat) (hb : b ≤ t) (ht : t ≤ 281474976710656) (hk : Kept b t e) (w : World) :
    Calls Tryd.prog 83 #[.agg #[.int .u64 (b : Int), .int .u64 (t : Int)]] w
      (Makes (.tuple #[.agg #[.int .u64 ((dn b (e - 1) / 2 ^ (e - 1) % 16384 : Nat) : Int), .int .u64 ((up t (e - 1) / 2 ^ (e - 1) % 4096 : Nat) : Int), .int .u64 (e : Int)], .bool (decide (dn b (e - 1) = b ∧ up t (e - 1) = t))]) w) := by
  have H1 := hide hk
  have CM := hide (fun W => rmay_yes (b : Int) (t : Int) (by omega) (by omega) W)
  have CS := hide (fun (k : Nat) (hk : k ≤ 37) W => rkept_any b t k hb ht hk W)
  have GB : ∀ k, decide (((dn b (k - 1) : Nat) : Int) = (b : Int) ∧ ((up t (k - 1) : Nat) : Int) = (t : Int)) = decide (dn b (k - 1) = b ∧ up t (k - 1) = t) := fun k => decide_eq_decide.mpr (by omega)
  generalize (b : Int) = B at *
  generalize (t : Int) = T at *
  clear hk
  have SS := cell_same
  have LB := ltB_add
  have LS := ltB_self
  have LA := alloc_reads
  have LH := alloc_holds
  go_enter Tryd.func83, Tryd.ntmps83
  go_wp2
  go_loopw [4] (fun i wr => ∃ k : Nat, k ≤ e ∧ i = .int .u64 k ∧ Below (w.heap.size + 2) ((w.alloc (.cells #[.int .u64 B, .int .u64 T] 57)).alloc (.cells #[.int .u64 0, .int .u64 0, .int .u64 0] 95)) wr) (fun i _ => e - (intOf i).toNat)
  case atStart => exact ⟨0, by omega, rfl, Below.refl _ _⟩
  case round =>
    obtain ⟨k, hk, rfl, hb0⟩ := hrel
    have hk37 : k ≤ 37 := Nat.le_trans hk H1.out.le
    have hb00 : Below w.heap.size w wr := Below.trans (by
      repeat (first | with_reducible assumption | with_reducible exact Below.refl _ _ | with_reducible refine Below.drew ?_ | with_reducible refine below_drewN ?_ _ | with_reducible refine bw_alloc ?_ _ | (with_reducible refine bw_set ?_ ?_ _; focus (dsimp only; omega)) | (with_reducible apply bw_behind; with_reducible assumption))) (hb0.mono (by omega))
    obtain ⟨m0, hs0⟩ := below_grew hb0
    have hr0 := below_reads hb0
    have hh0 := below_holds hb0
    simp only [World.size_alloc] at hs0
    have c1 := CS.out k hk37
    have hf := fits_iff b t k
    have hK : (k : Int) ≤ 37 := by omega
    by_cases hke : k = e
    · subst hke
      rw [hf.2 H1.out.ok] at c1
      have C1 := hide c1
      have C2 := hide (fun W => rexp_any k (by omega) W)
      have g1 : 0 ≤ ((k - 1 : Nat) : Int) := by omega
      have g2 : ((k - 1 : Nat) : Int) ≤ 64 := by omega
      have g3 : ((dn b (k - 1) : Nat) : Int) / 2 ^ ((k - 1 : Nat) : Int).toNat = ((dn b (k - 1) / 2 ^ (k - 1) : Nat) : Int) := by simp
      have g4 : ((up t (k - 1) : Nat) : Int) / 2 ^ ((k - 1 : Nat) : Int).toNat = ((up t (k - 1) / 2 ^ (k - 1) : Nat) : Int) := by simp
      have g5 : ((dn b (k - 1) / 2 ^ (k - 1) : Nat) : Int).tmod 16384 = ((dn b (k - 1) / 2 ^ (k - 1) % 16384 : Nat) : Int) := tmod14 _
      have g6 : ((up t (k - 1) / 2 ^ (k - 1) : Nat) : Int).tmod 4096 = ((up t (k - 1) / 2 ^ (k - 1) % 4096 : Nat) : Int) := tmod12 _
      have g7 : ((dn b (k - 1) / 2 ^ (k - 1) : Nat) : Int) % 16384 = ((dn b (k - 1) / 2 ^ (k - 1) % 16384 : Nat) : Int) := mod14 _
      have g8 : ((up t (k - 1) / 2 ^ (k - 1) : Nat) : Int) % 4096 = ((up t (k - 1) / 2 ^ (k - 1) % 4096 : Nat) : Int) := mod12 _
      have EQ := eq_rspan ((dn b (k - 1) : Nat) : Int) ((up t (k - 1) : Nat) : Int) B T
      rw [GB k] at EQ
      clear c1 hf hk hk37 H1 CS GB
      generalize decide (dn b (k - 1) = b ∧ up t (k - 1) = t) = O at *
      generalize ((dn b (k - 1) / 2 ^ (k - 1) % 16384 : Nat) : Int) = FB at *
      generalize ((up t (k - 1) / 2 ^ (k - 1) % 4096 : Nat) : Int) = FT at *
      generalize ((dn b (k - 1) / 2 ^ (k - 1) : Nat) : Int) = QB at *
      generalize ((up t (k - 1) / 2 ^ (k - 1) : Nat) : Int) = QT at *
      generalize ((dn b (k - 1) : Nat) : Int) = D at *
      generalize ((up t (k - 1) : Nat) : Int) = U at *
      generalize ((k - 1 : Nat) : Int) = X at *
      generalize (k : Int) = K at *
      go_wp2_with (first | (go_at_call 81; (with_reducible refine (CM.out _).mono ?_); rintro e w1 ⟨rfl, hb1⟩; have hr1 := below_reads hb1; have hh1 := below_holds hb1; obtain ⟨m1, hs1⟩ := below_grew hb1) | (go_at_call 82; (with_reducible refine (C1.out _).mono ?_); rintro e w1 ⟨rfl, hb1⟩; have hr1 := below_reads hb1; have hh1 := below_holds hb1; obtain ⟨m1, hs1⟩ := below_grew hb1) | (go_at_call 96; (with_reducible refine (C2.out _).mono ?_); rintro e w' ⟨rfl, n1, rfl⟩))
      go_region
      go_wp2
      refine bodyPost_ret (v := .tuple #[.agg #[.int .u64 FB, .int .u64 FT, .int .u64 K], .bool O]) (by simp (maxDischargeDepth := 4) [results, Tryd.results83, go_sem, *]) rfl ?_
      refine ⟨rfl, ?_⟩
      repeat (first | with_reducible assumption | with_reducible exact Below.refl _ _ | with_reducible refine Below.drew ?_ | with_reducible refine below_drewN ?_ _ | with_reducible refine bw_alloc ?_ _ | (with_reducible refine bw_set ?_ ?_ _; focus (dsimp only; omega)) | (with_reducible apply bw_behind; with_reducible assumption))
    · rw [show fitsB (steps b t (k - 1)) k = false from by
        have := mt hf.1 (H1.out.no k (by omega))
        simpa using this] at c1
      have C1 := hide c1
      have hke2 : k + 1 ≤ e := by omega
      clear c1 hf hk hk37 H1 hke CS
      generalize ((dn b (k - 1) : Nat) : Int) = D at *
      generalize ((up t (k - 1) : Nat) : Int) = U at *
      go_wp2_with (first | (go_at_call 81; (with_reducible refine (CM.out _).mono ?_); rintro e w1 ⟨rfl, hb1⟩; have hr1 := below_reads hb1; have hh1 := below_holds hb1; obtain ⟨m1, hs1⟩ := below_grew hb1) | (go_at_call 82; (with_reducible refine (C1.out _).mono ?_); rintro e w1 ⟨rfl, hb1⟩; have hr1 := below_reads hb1; have hh1 := below_holds hb1; obtain ⟨m1, hs1⟩ := below_grew hb1) | (go_at_call 96; (with_reducible refine (C2.out _).mono ?_); rintro e w' ⟨rfl, n1, rfl⟩))
      go_roundw
      case rel => exact ⟨k + 1, hke2, by go_num, by
        repeat (first | assumption | exact Below.refl _ _ | refine Below.setCell ?_ (by simp) _ | refine below_drewN ?_ _ | refine below_alloc ?_ (by simp) _ | refine below_behind ?_ (by simp) (by assumption))⟩
      case measure => simp [intOf]; omega

set_option maxHeartbeats 400000 in
theorem rrounded_not (B T : Int) (h : ¬ (B ≤ T ∧ T ≤ 281474976710656)) (w : World) :
    Calls Tryd.prog 47 #[.agg #[.int .u64 B, .int .u64 T]] w (Makes (.tuple #[.agg #[.int .u64 0, .int .u64 0], .bool false]) w) := by
  have CM := hide (fun W => rmay_no B T h W)
  clear h
  have SS := cell_same
  have LB := ltB_add
  have LS := ltB_self
  have LA := alloc_reads
  have LH := alloc_holds
  go_enter Tryd.func47, Tryd.ntmps47
  go_wp2
  refine wp_loop_rounds 1 ?_
  rw [rounds_succ]
  go_wp2_with ((go_at_call 81; (with_reducible refine (CM.out _).mono ?_); rintro e w1 ⟨rfl, hb1⟩; have hr1 := below_reads hb1; have hh1 := below_holds hb1; obtain ⟨m1, hs1⟩ := below_grew hb1))
  refine bodyPost_ret (v := .tuple #[.agg #[.int .u64 0, .int .u64 0], .bool false]) (by simp (maxDischargeDepth := 4) [results, Tryd.results47, go_sem, *]) rfl ?_
  refine ⟨rfl, ?_⟩
  repeat (first | with_reducible assumption | with_reducible exact Below.refl _ _ | with_reducible refine Below.drew ?_ | with_reducible refine below_drewN ?_ _ | with_reducible refine bw_alloc ?_ _ | (with_reducible refine bw_set ?_ ?_ _; focus (dsimp only; omega)) | (with_reducible apply bw_behind; with_reducible assumption))

set_option maxHeartbeats 400000 in
theorem rencode_not (B T : Int) (h : ¬ (B ≤ T ∧ T ≤ 281474976710656)) (w : World) :
    Calls Tryd.prog 83 #[.agg #[.int .u64 B, .int .u64 T]] w (Makes (.tuple #[.agg #[.int .u64 0, .int .u64 0, .int .u64 0], .bool false]) w) := by
  have CM := hide (fun W => rmay_no B T h W)
  clear h
  have SS := cell_same
  have LB := ltB_add
  have LS := ltB_self
  have LA := alloc_reads
  have LH := alloc_holds
  go_enter Tryd.func83, Tryd.ntmps83
  go_wp2
  refine wp_loop_rounds 1 ?_
  rw [rounds_succ]
  go_wp2_with ((go_at_call 81; (with_reducible refine (CM.out _).mono ?_); rintro e w1 ⟨rfl, hb1⟩; have hr1 := below_reads hb1; have hh1 := below_holds hb1; obtain ⟨m1, hs1⟩ := below_grew hb1))
  refine bodyPost_ret (v := .tuple #[.agg #[.int .u64 0, .int .u64 0, .int .u64 0], .bool false]) (by simp (maxDischargeDepth := 4) [results, Tryd.results83, go_sem, *]) rfl ?_
  refine ⟨rfl, ?_⟩
  repeat (first | with_reducible assumption | with_reducible exact Below.refl _ _ | with_reducible refine Below.drew ?_ | with_reducible refine below_drewN ?_ _ | with_reducible refine bw_alloc ?_ _ | (with_reducible refine bw_set ?_ ?_ _; focus (dsimp only; omega)) | (with_reducible apply bw_behind; with_reducible assumption))

end Go.Proofs.YtbncoiejbclpjaaDoor
