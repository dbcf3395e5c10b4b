/-
  FieldBack holds: for every x, v and at the law returns true and turns nothing that was there.
-/
import Derived.Test.YtpllegpdiplokaaFieldWalks
import Derived.Test.YtpllegpdiplokaaLawFrame
namespace Go.Proofs.Ytpllegpdiplokaa.FieldBack
open Go.RowKit Words FieldMath

theorem ok_of {a w : Int} (h1 : 0 ≤ w) (h2 : 0 ≤ a) (h3 : a ≤ 63) (h4 : a ≤ 64 - w) : okF a w = true := decide_eq_true ⟨h1, by omega, h2, h4⟩
theorem get_put (x v : BitVec 64) (a w : Int) (h : okF a w = true) : getB (putB x a w v) a w = v &&& maskB w := by
  have hb : 0 ≤ w ∧ w ≤ 64 ∧ 0 ≤ a ∧ a ≤ 64 - w := by simpa [okF] using h
  refine ext64 fun i hi => ?_
  rw [get_bit _ _ _ _ hi, BitVec.getLsbD_and, mask_bit, h]
  by_cases hw : (i : Int) < w
  · have h5 : a.toNat + i < 64 := by omega
    rw [put_bit _ _ _ _ _ h5, if_pos ⟨h, by omega, by omega⟩]
    have e : a.toNat + i - a.toNat = i := by omega
    simp [hw, hi, e]
  · simp [hw]
theorem put_put (x v : BitVec 64) (a w : Int) : putB (putB x a w v) a w v = putB x a w v := by
  refine ext64 fun i hi => ?_
  rw [put_bit _ _ _ _ _ hi]
  split
  · rename_i h; rw [put_bit _ _ _ _ _ hi, if_pos h]
  · rfl
theorem put_back (x v : BitVec 64) (a w : Int) : putB (putB x a w v) a w (getB x a w) = x := by
  refine ext64 fun i hi => ?_
  rw [put_bit _ _ _ _ _ hi]
  split
  · rename_i h
    obtain ⟨h, h5, h6⟩ := h
    have hb : 0 ≤ w ∧ w ≤ 64 ∧ 0 ≤ a ∧ a ≤ 64 - w := by simpa [okF] using h
    rw [get_bit _ _ _ _ (by omega), h]
    have e1 : a.toNat + (i - a.toNat) = i := by omega
    have e2 : ((i - a.toNat : Nat) : Int) < w := by omega
    rw [e1]
    simp only [e2, decide_true, Bool.and_self, Bool.true_and]
  · rename_i h
    rw [put_bit _ _ _ _ _ hi, if_neg h]
theorem get_apart (x v : BitVec 64) (a w b u : Int) (h : a + w ≤ b ∨ b + u ≤ a) : getB (putB x a w v) b u = getB x b u := by
  refine ext64 fun i hi => ?_
  rw [get_bit _ _ _ _ hi, get_bit _ _ _ _ hi]
  by_cases ho : okF b u = true
  · have hb : 0 ≤ u ∧ u ≤ 64 ∧ 0 ≤ b ∧ b ≤ 64 - u := by simpa [okF] using ho
    by_cases hu : (i : Int) < u
    · rw [put_bit _ _ _ _ _ (by omega), if_neg (by rintro ⟨_, h5, h6⟩; omega)]
    · simp [hu]
  · simp [ho]
theorem get_ab : getB (BitVec.ofNat 64 171) 4 4 = BitVec.ofNat 64 10 := by decide

set_option maxHeartbeats 2000000 in
theorem walkAt (x v : BitVec 64) (c0 c1 c2 c3 a d b f W U : Int) (w : World)
    (ha1 : 0 ≤ a) (ha2 : a ≤ 63) (hd1 : 0 ≤ d) (hd2 : d ≤ 63) (hb1 : 0 ≤ b) (hb2 : b ≤ 63) (hf1 : 0 ≤ f) (hf2 : f ≤ 63)
    (ha : bits .and .i64 c0 63 = a) (hd : bits .and .i64 c1 63 = d) (hb : bits .and .i64 c2 63 = b) (hf : bits .and .i64 c3 63 = f)
    (hW : (64 - a < d ∧ W = 64 - a) ∨ (d ≤ 64 - a ∧ W = d)) (hU : (64 - b < f ∧ U = 64 - b) ∨ (f ≤ 64 - b ∧ U = f)) :
    Calls Try.prog 5 #[.int .u64 (x.toNat : Int), .int .u64 (v.toNat : Int), .agg #[.int .i64 c0, .int .i64 c1, .int .i64 c2, .int .i64 c3]] w
      fun e w' => e = .returned (.bool true) ∧ Below w.heap.size w w' := by
  have hok : okF a W = true := ok_of (by omega) ha1 ha2 (by omega)
  have g1 := get_put x v a W hok
  have g2 := put_put x v a W
  have g3 := put_back x v a W
  have g4 := get_apart x v a W b U
  have gm := and_bv v (maskB W)
  have gab : ∀ W, Calls Try.prog 10 #[.int .u64 171, .int .i64 4, .int .i64 4] W (Quiet (.int .u64 10) W) := fun W => by
    have := get_any (BitVec.ofNat 64 171) 4 4 W
    rw [get_ab] at this
    exact this
  have ct := put_any x a W v
  generalize putB x a W v = Y at g1 g2 g3 g4 ct
  have c1 := get_any Y a W
  have c2 := put_any Y a W v
  have c3 := get_any x a W
  have c4 := put_any Y a W (getB x a W)
  have c5 := get_any Y b U
  have c6 := get_any x b U
  rw [g1] at c1
  rw [g2] at c2
  rw [g3] at c4
  generalize v &&& maskB W = M at gm c1
  generalize getB x a W = G at c3 c4
  have C0 := hide ct
  have C1 := hide c1
  have C2 := hide c2
  have C3 := hide c3
  have C4 := hide c4
  have C7 := hide gab
  clear g1 g2 g3 ct c1 c2 c3 c4 gab hok
  by_cases k3 : a + W ≤ b ∨ b + U ≤ a
  · have g5 := g4 k3
    rw [g5] at c5
    have C5 := hide c5
    have C6 := hide c6
    clear g4 g5 c5 c6
    by_cases k4 : a + W ≤ b
    · clear k3
      rcases hW with ⟨k1, rfl⟩ | ⟨k1, rfl⟩ <;> rcases hU with ⟨k2, rfl⟩ | ⟨k2, rfl⟩
      all_goals try (exfalso; omega)
      all_goals
        go_enter Try.func5, Try.ntmps5
        go_wp2
        go_quiet (fail)
        go_wp2_with fail
        go_quiet (fail)
        go_wp2_with (first | (go_at_call 8; refine (mask_any _ _).mono ?_; rintro e w' ⟨rfl, n1, rfl⟩) | (go_at_call 12; ((with_reducible first | refine (C0.out _).mono ?_ | refine (C2.out _).mono ?_ | refine (C4.out _).mono ?_); rintro e w' ⟨rfl, n2, rfl⟩)) | (go_at_call 10; ((with_reducible first | refine (C1.out _).mono ?_ | refine (C3.out _).mono ?_ | refine (C5.out _).mono ?_ | refine (C6.out _).mono ?_ | refine (C7.out _).mono ?_); rintro e w' ⟨rfl, n3, rfl⟩)))
        all_goals (go_ret; exact ⟨rfl, below_drewN ((Below.refl _ _).alloc (Nat.le_refl _) _) _⟩)
    · replace k3 : b + U ≤ a := by omega
      rcases hW with ⟨k1, rfl⟩ | ⟨k1, rfl⟩ <;> rcases hU with ⟨k2, rfl⟩ | ⟨k2, rfl⟩
      all_goals try (exfalso; omega)
      all_goals
        go_enter Try.func5, Try.ntmps5
        go_wp2
        go_quiet (fail)
        go_wp2_with fail
        go_quiet (fail)
        go_wp2_with (first | (go_at_call 8; refine (mask_any _ _).mono ?_; rintro e w' ⟨rfl, n1, rfl⟩) | (go_at_call 12; ((with_reducible first | refine (C0.out _).mono ?_ | refine (C2.out _).mono ?_ | refine (C4.out _).mono ?_); rintro e w' ⟨rfl, n2, rfl⟩)) | (go_at_call 10; ((with_reducible first | refine (C1.out _).mono ?_ | refine (C3.out _).mono ?_ | refine (C5.out _).mono ?_ | refine (C6.out _).mono ?_ | refine (C7.out _).mono ?_); rintro e w' ⟨rfl, n3, rfl⟩)))
        all_goals (go_ret; exact ⟨rfl, below_drewN ((Below.refl _ _).alloc (Nat.le_refl _) _) _⟩)
  · have k4 : ¬ a + W ≤ b := fun h => k3 (.inl h)
    have k5 : ¬ b + U ≤ a := fun h => k3 (.inr h)
    clear g4 k3
    have C5 := hide c5
    have C6 := hide c6
    clear c5 c6
    rcases hW with ⟨k1, rfl⟩ | ⟨k1, rfl⟩ <;> rcases hU with ⟨k2, rfl⟩ | ⟨k2, rfl⟩
    all_goals
        go_enter Try.func5, Try.ntmps5
        go_wp2
        go_quiet (fail)
        go_wp2_with fail
        go_quiet (fail)
        go_wp2_with (first | (go_at_call 8; refine (mask_any _ _).mono ?_; rintro e w' ⟨rfl, n1, rfl⟩) | (go_at_call 12; ((with_reducible first | refine (C0.out _).mono ?_ | refine (C2.out _).mono ?_ | refine (C4.out _).mono ?_); rintro e w' ⟨rfl, n2, rfl⟩)) | (go_at_call 10; ((with_reducible first | refine (C1.out _).mono ?_ | refine (C3.out _).mono ?_ | refine (C5.out _).mono ?_ | refine (C6.out _).mono ?_ | refine (C7.out _).mono ?_); rintro e w' ⟨rfl, n3, rfl⟩)))
        all_goals (go_ret; exact ⟨rfl, below_drewN ((Below.refl _ _).alloc (Nat.le_refl _) _) _⟩)

set_option maxHeartbeats 400000 in
theorem walk (x v : BitVec 64) (c0 c1 c2 c3 : Int) (w : World) :
    Calls Try.prog 5 #[.int .u64 (x.toNat : Int), .int .u64 (v.toNat : Int), .agg #[.int .i64 c0, .int .i64 c1, .int .i64 c2, .int .i64 c3]] w
      fun e w' => e = .returned (.bool true) ∧ Below w.heap.size w w' := by
  obtain ⟨ha1, ha2⟩ := low63 c0
  obtain ⟨hd1, hd2⟩ := low63 c1
  obtain ⟨hb1, hb2⟩ := low63 c2
  obtain ⟨he1, he2⟩ := low63 c3
  refine walkAt x v c0 c1 c2 c3 _ _ _ _ (if 64 - bits .and .i64 c0 63 < bits .and .i64 c1 63 then 64 - bits .and .i64 c0 63 else bits .and .i64 c1 63)
    (if 64 - bits .and .i64 c2 63 < bits .and .i64 c3 63 then 64 - bits .and .i64 c2 63 else bits .and .i64 c3 63) w ha1 ha2 hd1 hd2 hb1 hb2 he1 he2 rfl rfl rfl rfl ?_ ?_
  all_goals split <;> omega

open Go.ChangeShapes Go.WideShapes Go.ChangeAt
theorem walks : Frame.Walks 5 Try.f5 := by
  intro H enc W base args ds ps hval hA
  rw [Try.params5] at hA hval
  obtain ⟨v0, v1, v2, d0, d1, d2, p0, p1, p2, hargs, rfl, rfl, h0, h1, h2⟩ := trodAll_three hA
  obtain rfl : args = #[v0, v1, v2] := by cases args; simp_all
  obtain ⟨x, rfl, rfl, rfl, wx⟩ := open_int Try.underlying22 (hval 0 22 v0 rfl rfl) h0
  obtain ⟨y, rfl, rfl, rfl, wy⟩ := open_int Try.underlying22 (hval 1 22 v1 rfl rfl) h1
  obtain ⟨zs, rfl, hl, _⟩ := Frame.open_arr Try.underlying35 Try.underlying3 (by kernel_rfl) (by kernel_rfl) (hval 2 35 v2 rfl rfl) h2
  obtain ⟨c0, c1, c2, c3, rfl⟩ := Frame.arr4 hl
  obtain ⟨X, rfl⟩ := Frame.wf_u64 wx
  obtain ⟨Y, rfl⟩ := Frame.wf_u64 wy
  exact walk X Y c0 c1 c2 c3 W
set_option maxRecDepth 100000 in
theorem proved : Rows.FieldBackSaid :=
  OpenClaim.holds_of_wide 5 Try.f5 rfl rfl rfl rfl rfl rfl rfl ⟨rfl, rfl, rfl, rfl, rfl⟩ rfl rfl rfl rfl rfl (by kernel_rfl) Try.func5 (by kernel_rfl)
    (of_decide_eq_true (by kernel_rfl)) (by unfold Func.isWrapper; first | (rw [if_pos (by decide +kernel)]; kernel_rfl) | (rw [if_neg (by decide +kernel)]; exact ⟨rfl, rfl⟩))
    (fun os started H enc _ => Frame.lift os started H enc _ _ Rows.fieldBackSpec 4 (by kernel_rfl) Try.func5 Try.underlying4 (by kernel_rfl) rfl (by kernel_rfl)
      (fun ds h => by match ds, h with | [_, _, _], _ => exact ⟨rfl, rfl, rfl⟩)
      (ChangeSpec.witness6 (enc := enc) (C := Try.checked) false ⟨#[], #[.int .u64 0, .int .u64 0, .agg #[.int .i64 0, .int .i64 0, .int .i64 0, .int .i64 0]], []⟩ 8 (by kernel_rfl) (by kernel_rfl) (by kernel_rfl) (by kernel_rfl)) walks)
end Go.Proofs.Ytpllegpdiplokaa.FieldBack
