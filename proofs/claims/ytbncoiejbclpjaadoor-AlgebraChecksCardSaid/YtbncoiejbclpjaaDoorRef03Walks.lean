/-
  What the document's own answers of layer 3 (package mintmarkref03) are: exponent, may, kept, Encode, Rounded.
-/
import Derived.Test.YtbncoiejbclpjaaDoorBoundsWalks
namespace Go.Proofs.YtbncoiejbclpjaaDoor
open Go.RowKit Words BoundsMath

set_option maxHeartbeats 400000 in
theorem rexp_any (e : Nat) (he : e < 9223372036854775808) (w : World) :
    Calls Tryd.prog 96 #[.int .u64 (e : Int)] w (Quiet (.int .u64 ((e - 1 : Nat) : Int)) w) := by
  by_cases h : e = 0
  · subst h
    go_enter Tryd.func96, Tryd.ntmps96
    go_wp2
    go_ret
    exact ⟨ret_int (by omega), 0, rfl⟩
  · have h1 : ¬ (e : Int) = 0 := by omega
    have h2 : (1 : Int) ≤ (e : Int) := by omega
    go_enter Tryd.func96, Tryd.ntmps96
    go_wp2
    go_ret
    exact ⟨ret_int (by omega), 0, rfl⟩

set_option maxHeartbeats 400000 in
theorem rmay_yes (B T : Int) (h1 : B ≤ T) (h2 : T ≤ 281474976710656) (w : World) :
    Calls Tryd.prog 81 #[.agg #[.int .u64 B, .int .u64 T]] w (Makes (.bool true) w) := by
  go_enter Tryd.func81, Tryd.ntmps81
  go_wp2
  go_ret
  refine ⟨ret_bool (by first | rfl | (simp; omega)), ?_⟩
  repeat (first | with_reducible assumption | with_reducible exact Below.refl _ _ | with_reducible refine Below.drew ?_ | with_reducible refine below_drewN ?_ _ | with_reducible refine bw_alloc ?_ _ | (with_reducible refine bw_set ?_ ?_ _; focus (dsimp only; omega)) | (with_reducible apply bw_behind; with_reducible assumption))

set_option maxHeartbeats 400000 in
theorem rmay_no (B T : Int) (h : ¬ (B ≤ T ∧ T ≤ 281474976710656)) (w : World) :
    Calls Tryd.prog 81 #[.agg #[.int .u64 B, .int .u64 T]] w (Makes (.bool false) w) := by
  by_cases h1 : B ≤ T
  · have h2 : ¬ T ≤ 281474976710656 := fun h2 => h ⟨h1, h2⟩
    clear h
    go_enter Tryd.func81, Tryd.ntmps81
    go_wp2
    go_ret
    refine ⟨ret_bool (by first | rfl | (simp; omega)), ?_⟩
    repeat (first | with_reducible assumption | with_reducible exact Below.refl _ _ | with_reducible refine Below.drew ?_ | with_reducible refine below_drewN ?_ _ | with_reducible refine bw_alloc ?_ _ | (with_reducible refine bw_set ?_ ?_ _; focus (dsimp only; omega)) | (with_reducible apply bw_behind; with_reducible assumption))
  · clear h
    go_enter Tryd.func81, Tryd.ntmps81
    go_wp2
    go_ret
    refine ⟨ret_bool (by first | rfl | (simp; omega)), ?_⟩
    repeat (first | with_reducible assumption | with_reducible exact Below.refl _ _ | with_reducible refine Below.drew ?_ | with_reducible refine below_drewN ?_ _ | with_reducible refine bw_alloc ?_ _ | (with_reducible refine bw_set ?_ ?_ _; focus (dsimp only; omega)) | (with_reducible apply bw_behind; with_reducible assumption))

theorem cq_code (t x : Nat) : cq t x = if t / 2 ^ x * 2 ^ x < t then t / 2 ^ x + 1 else t / 2 ^ x := by
  have hp := BoundsMath.pow_pos x
  have h1 := Nat.div_add_mod t (2 ^ x)
  have h2 := Nat.mod_lt t hp
  rw [Nat.mul_comm] at h1
  split
  · rename_i h
    have := (cq_iff t x (t / 2 ^ x + 1)).2 (by rw [Nat.succ_mul]; omega)
    have := (cq_lt_iff t x (t / 2 ^ x)).2 h
    omega
  · rename_i h
    have := (cq_iff t x (t / 2 ^ x)).2 (by omega)
    have := (dq_iff t x (t / 2 ^ x)).1 (Nat.le_refl _)
    have h3 : t / 2 ^ x ≤ cq t x := by
      rcases Nat.lt_or_ge (cq t x) (t / 2 ^ x) with h4 | h4
      · have h5 := up_le t x
        unfold up at h5
        have := Nat.mul_le_mul_right (2 ^ x) (Nat.succ_le_of_lt h4)
        rw [Nat.succ_mul] at this
        omega
      · exact h4
    omega

set_option maxHeartbeats 1000000 in
theorem rkept_zero (b t : Nat) (hb : b ≤ t) (ht : t ≤ 281474976710656) (w : World) :
    Calls Tryd.prog 82 #[.agg #[.int .u64 (b : Int), .int .u64 (t : Int)], .int .u64 0] w
      (Makes (.tuple #[.agg #[.int .u64 (b : Int), .int .u64 (t : Int)], .bool (decide (t - b < 4096))]) w) := by
  have C1 : Hid (∀ W, Calls Tryd.prog 96 #[.int .u64 0] W (Quiet (.int .u64 0) W)) := hide (fun W => rexp_any 0 (by omega) W)
  have g1 : IntKind.u64.wrap (t : Int) = (t : Int) := by rw [IntKind.wrap_u64]; omega
  have g2 : IntKind.u64.wrap ((t : Int) - (b : Int)) = ((t - b : Nat) : Int) := by rw [IntKind.wrap_u64]; omega
  have g3 : decide (t - b < 4096) = decide (((t - b : Nat) : Int) < 4096) := decide_eq_decide.mpr (by omega)
  rw [g3]
  generalize ((t - b : Nat) : Int) = S at *
  generalize (t : Int) = T at *
  generalize (b : Int) = B at *
  clear hb ht g3
  have SS := cell_same
  have LB := ltB_add
  have LS := ltB_self
  have LA := alloc_reads
  have LH := alloc_holds
  go_enter Tryd.func82, Tryd.ntmps82
  go_wp2_with ((go_at_call 96; (with_reducible refine (C1.out _).mono ?_); rintro e w' ⟨rfl, n1, rfl⟩))
  refine bodyPost_ret (v := .tuple #[.agg #[.int .u64 B, .int .u64 T], .bool (decide (S < 4096))]) (by simp (maxDischargeDepth := 4) [results, Tryd.results82, go_sem, *]) rfl ?_
  refine ⟨rfl, ?_⟩
  repeat (first | with_reducible assumption | with_reducible exact Below.refl _ _ | with_reducible refine Below.drew ?_ | with_reducible refine below_drewN ?_ _ | with_reducible refine bw_alloc ?_ _ | (with_reducible refine bw_set ?_ ?_ _; focus (dsimp only; omega)) | (with_reducible apply bw_behind; with_reducible assumption))

structure KeptMet (B T E X QB QT TM QC S D U : Int) : Prop where
  exp : ∀ W, Calls Tryd.prog 96 #[.int .u64 E] W (Quiet (.int .u64 X) W)
  x0 : 0 ≤ X
  x64 : X ≤ 64
  e0 : ¬ E = 0
  qb : B / 2 ^ X.toNat = QB
  qt : T / 2 ^ X.toNat = QT
  tm : IntKind.u64.wrap (QT * 2 ^ X.toNat) = TM
  s : IntKind.u64.wrap (QC - QB) = S
  d : IntKind.u64.wrap (QB * 2 ^ X.toNat) = D
  u : IntKind.u64.wrap (QC * 2 ^ X.toNat) = U
  c : (TM < T ∧ IntKind.u64.wrap (QT + 1) = QC) ∨ (¬ TM < T ∧ QT = QC)
theorem kept_met (b t e : Nat) (hb : b ≤ t) (ht : t ≤ 281474976710656) (he : e ≤ 37) (h0 : e ≠ 0) :
    ∃ X QB QT TM QC, KeptMet b t e X QB QT TM QC ((steps b t (e - 1) : Nat) : Int) ((dn b (e - 1) : Nat) : Int) ((up t (e - 1) : Nat) : Int) := by
  have pw : (2 : Nat) ^ 48 = 281474976710656 := by decide
  have hpos := BoundsMath.pow_pos (e - 1)
  have hwr := fun n : Int => IntKind.wrap_u64 n
  have hub := up_top (t := t) (x := e - 1) (by omega) (by omega)
  have hdb := dn_le b (e - 1)
  have hbq : b / 2 ^ (e - 1) ≤ b := Nat.div_le_self _ _
  have htq : t / 2 ^ (e - 1) ≤ t := Nat.div_le_self _ _
  have hqq : b / 2 ^ (e - 1) ≤ t / 2 ^ (e - 1) := dq_mono _ hb
  have htm : t / 2 ^ (e - 1) * 2 ^ (e - 1) ≤ t := Nat.div_mul_le_self _ _
  have hc := cq_code t (e - 1)
  have hst : steps b t (e - 1) = cq t (e - 1) - b / 2 ^ (e - 1) := rfl
  have hcb : b / 2 ^ (e - 1) ≤ cq t (e - 1) := by rw [hc]; split <;> omega
  have hcu : cq t (e - 1) ≤ up t (e - 1) := Nat.le_mul_of_pos_right _ hpos
  have i1 : ((t / 2 ^ (e - 1) : Nat) : Int) * 2 ^ ((e - 1 : Nat) : Int).toNat = ((t / 2 ^ (e - 1) * 2 ^ (e - 1) : Nat) : Int) := by simp
  have i2 : ((b / 2 ^ (e - 1) : Nat) : Int) * 2 ^ ((e - 1 : Nat) : Int).toNat = ((dn b (e - 1) : Nat) : Int) := by unfold dn; simp
  have i3 : ((cq t (e - 1) : Nat) : Int) * 2 ^ ((e - 1 : Nat) : Int).toNat = ((up t (e - 1) : Nat) : Int) := by unfold up; simp
  refine ⟨((e - 1 : Nat) : Int), ((b / 2 ^ (e - 1) : Nat) : Int), ((t / 2 ^ (e - 1) : Nat) : Int), ((t / 2 ^ (e - 1) * 2 ^ (e - 1) : Nat) : Int), ((cq t (e - 1) : Nat) : Int),
    ⟨fun W => rexp_any e (by omega) W, by omega, by omega, by omega, by simp, by simp, ?_, ?_, ?_, ?_, ?_⟩⟩
  · rw [i1, hwr]; omega
  · rw [hst, hwr]
    clear hc hst i1 i2 i3
    generalize b / 2 ^ (e - 1) = qb at *
    generalize cq t (e - 1) = c at *
    omega
  · rw [i2, hwr]; omega
  · rw [i3, hwr]; omega
  · by_cases h : t / 2 ^ (e - 1) * 2 ^ (e - 1) < t
    · left
      rw [if_pos h] at hc
      refine ⟨by omega, ?_⟩
      rw [hc, hwr]; omega
    · right
      rw [if_neg h] at hc
      refine ⟨by omega, by rw [hc]⟩

set_option maxHeartbeats 1000000 in
theorem rkept_more (B T E X QB QT TM QC S D U : Int) (hm : KeptMet B T E X QB QT TM QC S D U) (w : World) :
    Calls Tryd.prog 82 #[.agg #[.int .u64 B, .int .u64 T], .int .u64 E] w
      (Makes (.tuple #[.agg #[.int .u64 D, .int .u64 U], .bool (decide (4096 ≤ S ∧ S < 8192))]) w) := by
  have C1 := hide hm.exp
  have g1 := hm.x0
  have g2 := hm.x64
  have g3 := hm.e0
  have g4 := hm.qb
  have g5 := hm.qt
  have g6 := hm.tm
  have g7 := hm.s
  have g8 := hm.d
  have g9 := hm.u
  have g10 := hm.c
  clear hm
  have SS := cell_same
  have LB := ltB_add
  have LS := ltB_self
  have LA := alloc_reads
  have LH := alloc_holds
  have key : ∀ V : Bool, V = decide (4096 ≤ S ∧ S < 8192) → Calls Tryd.prog 82 #[.agg #[.int .u64 B, .int .u64 T], .int .u64 E] w
      (Makes (.tuple #[.agg #[.int .u64 D, .int .u64 U], .bool V]) w) := by
    intro V hV
    have HV := hide hV
    clear hV
    by_cases h5 : 4096 ≤ S
    all_goals rcases g10 with ⟨k1, k2⟩ | ⟨k1, rfl⟩
    all_goals first | (have k3 : U = TM := g9.symm.trans g6; subst k3) | skip
    all_goals
      go_enter Tryd.func82, Tryd.ntmps82
      go_wp2_with ((go_at_call 96; (with_reducible refine (C1.out _).mono ?_); rintro e w' ⟨rfl, n1, rfl⟩))
    all_goals
      refine bodyPost_ret (v := .tuple #[.agg #[.int .u64 D, .int .u64 U], .bool V]) (by rw [HV.out]; simp (maxDischargeDepth := 4) [results, Tryd.results82, go_sem, *] <;> omega) rfl ?_
      refine ⟨rfl, ?_⟩
      repeat (first | with_reducible assumption | with_reducible exact Below.refl _ _ | with_reducible refine Below.drew ?_ | with_reducible refine below_drewN ?_ _ | with_reducible refine bw_alloc ?_ _ | (with_reducible refine bw_set ?_ ?_ _; focus (dsimp only; omega)) | (with_reducible apply bw_behind; with_reducible assumption))
  exact key _ rfl
theorem rkept_any (b t e : Nat) (hb : b ≤ t) (ht : t ≤ 281474976710656) (he : e ≤ 37) (w : World) :
    Calls Tryd.prog 82 #[.agg #[.int .u64 (b : Int), .int .u64 (t : Int)], .int .u64 (e : Int)] w
      (Makes (.tuple #[.agg #[.int .u64 ((dn b (e - 1) : Nat) : Int), .int .u64 ((up t (e - 1) : Nat) : Int)], .bool (fitsB (steps b t (e - 1)) e)]) w) := by
  by_cases h : e = 0
  · subst h
    have := rkept_zero b t hb ht w
    rw [show dn b (0 - 1) = b by unfold dn; simp, show up t (0 - 1) = t by unfold up; rw [show 0 - 1 = 0 from rfl, cq_zero]; simp, show fitsB (steps b t (0 - 1)) 0 = decide (t - b < 4096) by unfold fitsB; rw [if_pos rfl, show 0 - 1 = 0 from rfl, steps_zero]]
    exact this
  · obtain ⟨X, QB, QT, TM, QC, hm⟩ := kept_met b t e hb ht he h
    have := rkept_more _ _ _ X QB QT TM QC _ _ _ hm w
    rw [show fitsB (steps b t (e - 1)) e = decide ((4096 : Int) ≤ ((steps b t (e - 1) : Nat) : Int) ∧ ((steps b t (e - 1) : Nat) : Int) < 8192) by unfold fitsB; rw [if_neg h]; exact decide_eq_decide.mpr (by omega)]
    exact this
end Go.Proofs.YtbncoiejbclpjaaDoor
