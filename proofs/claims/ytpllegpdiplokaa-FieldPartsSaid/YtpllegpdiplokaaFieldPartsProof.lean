/-
  FieldParts holds: for every x, v and at the law returns true and turns nothing that was there.
-/
import Derived.Test.YtpllegpdiplokaaLayWalks
import Derived.Test.YtpllegpdiplokaaLawFrame
namespace Go.Proofs.Ytpllegpdiplokaa.FieldParts
open Go.RowKit Words FieldMath

theorem ok_of {a w : Int} (h1 : 0 ≤ w) (h2 : 0 ≤ a) (h4 : a ≤ 64 - w) : okF a w = true := decide_eq_true ⟨h1, by omega, h2, h4⟩
theorem put_cut (x v : BitVec 64) (a w k : Int) (h1 : 0 ≤ a) (h2 : 0 ≤ k) (h3 : k ≤ w) (h4 : a ≤ 64 - w) :
    putB (putB x a k v) (a + k) (w - k) (v >>> k.toNat) = putB x a w v := by
  have o1 : okF a w = true := ok_of (by omega) h1 h4
  have o2 : okF a k = true := ok_of h2 h1 (by omega)
  have o3 : okF (a + k) (w - k) = true := ok_of (by omega) (by omega) (by omega)
  refine ext64 fun i hi => ?_
  rw [put_bit _ _ _ _ _ hi, put_bit _ _ _ _ _ hi, put_bit _ _ _ _ _ hi]
  simp only [o1, o2, o3, true_and]
  by_cases h5 : a + k ≤ i ∧ (i : Int) < a + w
  · rw [if_pos ⟨h5.1, by omega⟩, if_pos ⟨by omega, h5.2⟩, BitVec.getLsbD_ushiftRight]
    congr 1; omega
  · rw [if_neg (by omega)]
    by_cases h6 : a ≤ i ∧ (i : Int) < a + k
    · rw [if_pos h6, if_pos ⟨h6.1, by omega⟩]
    · rw [if_neg h6, if_neg (by omega)]
theorem get_cut (x : BitVec 64) (a w k : Int) (h1 : 0 ≤ a) (h2 : 0 ≤ k) (h3 : k < w) (h4 : a ≤ 64 - w) :
    getB x a k ||| (getB x (a + k) (w - k) <<< k.toNat) = getB x a w := by
  have o1 : okF a w = true := ok_of (by omega) h1 h4
  have o2 : okF a k = true := ok_of h2 h1 (by omega)
  have o3 : okF (a + k) (w - k) = true := ok_of (by omega) (by omega) (by omega)
  refine ext64 fun i hi => ?_
  rw [BitVec.getLsbD_or, BitVec.getLsbD_shiftLeft, get_bit _ _ _ _ hi, get_bit _ _ _ _ hi, o1, o2]
  by_cases h5 : (i : Int) < k
  · have e1 : i < k.toNat := by omega
    have e2 : (i : Int) < w := by omega
    simp [h5, e1, e2]
  · have e1 : ¬ i < k.toNat := by omega
    rw [get_bit _ _ _ _ (by omega), o3]
    have e3 : (a + k).toNat + (i - k.toNat) = a.toNat + i := by omega
    have e4 : ((i - k.toNat : Nat) : Int) < w - k ↔ (i : Int) < w := by omega
    rw [e3]
    simp only [h5, e1, e4, hi, decide_true, decide_false, Bool.not_false, Bool.true_and, Bool.false_and, Bool.false_or]
theorem get_whole (x : BitVec 64) (a : Int) : getB x a 0 = getB x a 0 := rfl
theorem get_ab : getB (BitVec.ofNat 64 171) 4 4 = BitVec.ofNat 64 10 := by decide

theorem at_new2 (w : World) (o o2 : Obj) (n : Nat) : (((w.alloc o).drewN n).alloc o2).heap[w.heap.size + 1]? = some o2 := by
  have := heap_alloc_new ((w.alloc o).drewN n) o2
  have e : ((w.alloc o).drewN n).heap.size = w.heap.size + 1 := by simp
  rwa [e] at this

set_option maxHeartbeats 2000000 in
theorem walkLt (x v : BitVec 64) (c0 c1 c2 a d c W K : Int) (w : World)
    (ha1 : 0 ≤ a) (ha2 : a ≤ 63) (hd1 : 0 ≤ d) (hd2 : d ≤ 63) (hc1 : 0 ≤ c) (hc2 : c ≤ 63)
    (ha : bits .and .i64 c0 63 = a) (hd : bits .and .i64 c1 63 = d) (hc : bits .and .i64 c2 63 = c)
    (hW : (64 - a < d ∧ W = 64 - a ∧ c % (64 - a + 1) = K) ∨ (d ≤ 64 - a ∧ 0 < d ∧ W = d ∧ c % (d + 1) = K) ∨ (d ≤ 64 - a ∧ d = 0 ∧ W = 0 ∧ K = 0)) (hK1 : 0 ≤ K) (k1 : K < W) :
    Calls Try.prog 7 #[.int .u64 (x.toNat : Int), .int .u64 (v.toNat : Int), .agg #[.int .i64 c0, .int .i64 c1, .int .i64 c2]] w
      fun e w' => e = .returned (.bool true) ∧ Below w.heap.size w w' := by
  have hK2 : K ≤ W := by omega
  have g1 := put_cut x v a W K ha1 hK1 hK2 (by omega)
  have hvs := shr_bv v K.toNat
  generalize v >>> K.toNat = V at hvs g1
  have gab : ∀ W, Calls Try.prog 10 #[.int .u64 171, .int .i64 4, .int .i64 4] W (Quiet (.int .u64 10) W) := fun W => by
    have := get_any (BitVec.ofNat 64 171) 4 4 W
    rw [get_ab] at this
    exact this
  have p0 : ∀ w', Calls Try.prog 12 #[.int .u64 0, .int .i64 a, .int .i64 W, .int .u64 (v.toNat : Int)] w' (Quiet (.int .u64 ((putB 0 a W v).toNat : Int)) w') := fun w' => put_any 0 a W v w'
  have c1' := put_any x a W v
  have c2' := put_any x a K v
  have c3' := put_any (putB x a K v) (a + K) (W - K) V
  have c4' := get_any x a K
  have c5' := get_any x (a + K) (W - K)
  have c6' := get_any x a W
  have cl := fun Bk w' => lay_one a W v Bk w'
  rw [g1] at c3'
  clear g1
  generalize putB 0 a W v = Z at p0 cl
  generalize putB x a W v = Y at c1' c3'
  generalize putB x a K v = Y1 at c2' c3'
  have hor := or_bv (getB x a K)
  have g2 := get_cut x a W K ha1 hK1 k1 (by omega)
  have hsl := shl_bv (getB x (a + K) (W - K)) K.toNat
  generalize getB x (a + K) (W - K) <<< K.toNat = S at g2 hsl
  replace hor := hor S
  rw [g2] at hor
  clear g2
  generalize getB x (a + K) (W - K) = G2 at c5' hsl
  generalize getB x a K = G1 at c4' hor
  generalize getB x a W = G at c6' hor
  have C0 := hide gab
  have C1 := hide c1'
  have C2 := hide c2'
  have C3 := hide c3'
  have C4 := hide c4'
  have C5 := hide c5'
  have C6 := hide c6'
  have C7 := hide p0
  have C8 := hide cl
  clear c1' c2' c3' c4' c5' c6' gab p0 cl
  rcases hW with ⟨k2, rfl, hk⟩ | ⟨k2, k3, rfl, hk⟩ | ⟨k2, k3, rfl, rfl⟩
  · go_enter Try.func7, Try.ntmps7
    go_wp2
    go_quiet (fail)
    go_wp2_with (first | (go_at_call 12; ((with_reducible first | refine (C1.out _).mono ?_ | refine (C2.out _).mono ?_ | refine (C3.out _).mono ?_ | refine (C7.out _).mono ?_); rintro e w' ⟨rfl, n2, rfl⟩)) | (go_at_call 10; ((with_reducible first | refine (C4.out _).mono ?_ | refine (C5.out _).mono ?_ | refine (C6.out _).mono ?_ | refine (C0.out _).mono ?_); rintro e w' ⟨rfl, n3, rfl⟩)) | (go_at_call 18; refine (C8.out _ _ (at_new2 _ _ _ _)).mono ?_; rintro e w1 ⟨rfl, hbel⟩))
    go_ret
    exact ⟨rfl, below_drewN (((below_drewN ((Below.refl _ _).alloc (Nat.le_refl _) _) _).alloc (by simp) _).trans (hbel.mono (by simp; omega))) _⟩
  · go_enter Try.func7, Try.ntmps7
    go_wp2
    go_quiet (fail)
    go_wp2_with (first | (go_at_call 12; ((with_reducible first | refine (C1.out _).mono ?_ | refine (C2.out _).mono ?_ | refine (C3.out _).mono ?_ | refine (C7.out _).mono ?_); rintro e w' ⟨rfl, n2, rfl⟩)) | (go_at_call 10; ((with_reducible first | refine (C4.out _).mono ?_ | refine (C5.out _).mono ?_ | refine (C6.out _).mono ?_ | refine (C0.out _).mono ?_); rintro e w' ⟨rfl, n3, rfl⟩)) | (go_at_call 18; refine (C8.out _ _ (at_new2 _ _ _ _)).mono ?_; rintro e w1 ⟨rfl, hbel⟩))
    go_ret
    exact ⟨rfl, below_drewN (((below_drewN ((Below.refl _ _).alloc (Nat.le_refl _) _) _).alloc (by simp) _).trans (hbel.mono (by simp; omega))) _⟩
  · omega

set_option maxHeartbeats 2000000 in
theorem walkEq (x v : BitVec 64) (c0 c1 c2 a d c W : Int) (w : World)
    (ha1 : 0 ≤ a) (ha2 : a ≤ 63) (hd1 : 0 ≤ d) (hd2 : d ≤ 63) (hc1 : 0 ≤ c) (hc2 : c ≤ 63)
    (ha : bits .and .i64 c0 63 = a) (hd : bits .and .i64 c1 63 = d) (hc : bits .and .i64 c2 63 = c)
    (hW : (64 - a < d ∧ W = 64 - a ∧ c % (64 - a + 1) = W) ∨ (d ≤ 64 - a ∧ 0 < d ∧ W = d ∧ c % (d + 1) = W) ∨ (d ≤ 64 - a ∧ d = 0 ∧ W = 0)) (hK1 : 0 ≤ W) :
    Calls Try.prog 7 #[.int .u64 (x.toNat : Int), .int .u64 (v.toNat : Int), .agg #[.int .i64 c0, .int .i64 c1, .int .i64 c2]] w
      fun e w' => e = .returned (.bool true) ∧ Below w.heap.size w w' := by
  have g1 := put_cut x v a W W ha1 hK1 (by omega) (by omega)
  have hvs := shr_bv v W.toNat
  generalize v >>> W.toNat = V at hvs g1
  have gab : ∀ W, Calls Try.prog 10 #[.int .u64 171, .int .i64 4, .int .i64 4] W (Quiet (.int .u64 10) W) := fun W => by
    have := get_any (BitVec.ofNat 64 171) 4 4 W
    rw [get_ab] at this
    exact this
  have p0 : ∀ w', Calls Try.prog 12 #[.int .u64 0, .int .i64 a, .int .i64 W, .int .u64 (v.toNat : Int)] w' (Quiet (.int .u64 ((putB 0 a W v).toNat : Int)) w') := fun w' => put_any 0 a W v w'
  have c1' := put_any x a W v
  have c3' := put_any (putB x a W v) (a + W) (W - W) V
  have c5' := get_any x (a + W) (W - W)
  have c6' := get_any x a W
  have cl := fun Bk w' => lay_one a W v Bk w'
  rw [g1] at c3'
  clear g1
  generalize putB 0 a W v = Z at p0 cl
  generalize putB x a W v = Y at c1' c3'
  have C0 := hide gab
  clear gab
  rcases hW with ⟨k2, rfl, hk⟩ | ⟨k2, k3, rfl, hk⟩ | ⟨k2, rfl, rfl⟩
  · rw [Int.sub_self] at c3' c5'
    have C1 := hide c1'
    have C3 := hide c3'
    have C5 := hide c5'
    have C6 := hide c6'
    have C7 := hide p0
    have C8 := hide cl
    clear c1' c3' c5' c6' p0 cl
    go_enter Try.func7, Try.ntmps7
    go_wp2
    go_quiet (fail)
    go_wp2_with (first | (go_at_call 12; ((with_reducible first | refine (C1.out _).mono ?_ | refine (C3.out _).mono ?_ | refine (C7.out _).mono ?_); rintro e w' ⟨rfl, n2, rfl⟩)) | (go_at_call 10; ((with_reducible first | refine (C5.out _).mono ?_ | refine (C6.out _).mono ?_ | refine (C0.out _).mono ?_); rintro e w' ⟨rfl, n3, rfl⟩)) | (go_at_call 18; refine (C8.out _ _ (at_new2 _ _ _ _)).mono ?_; rintro e w1 ⟨rfl, hbel⟩))
    go_ret
    exact ⟨rfl, below_drewN (((below_drewN ((Below.refl _ _).alloc (Nat.le_refl _) _) _).alloc (by simp) _).trans (hbel.mono (by simp; omega))) _⟩
  · rw [Int.sub_self] at c3' c5'
    have C1 := hide c1'
    have C3 := hide c3'
    have C5 := hide c5'
    have C6 := hide c6'
    have C7 := hide p0
    have C8 := hide cl
    clear c1' c3' c5' c6' p0 cl
    go_enter Try.func7, Try.ntmps7
    go_wp2
    go_quiet (fail)
    go_wp2_with (first | (go_at_call 12; ((with_reducible first | refine (C1.out _).mono ?_ | refine (C3.out _).mono ?_ | refine (C7.out _).mono ?_); rintro e w' ⟨rfl, n2, rfl⟩)) | (go_at_call 10; ((with_reducible first | refine (C5.out _).mono ?_ | refine (C6.out _).mono ?_ | refine (C0.out _).mono ?_); rintro e w' ⟨rfl, n3, rfl⟩)) | (go_at_call 18; refine (C8.out _ _ (at_new2 _ _ _ _)).mono ?_; rintro e w1 ⟨rfl, hbel⟩))
    go_ret
    exact ⟨rfl, below_drewN (((below_drewN ((Below.refl _ _).alloc (Nat.le_refl _) _) _).alloc (by simp) _).trans (hbel.mono (by simp; omega))) _⟩
  · simp only [Int.sub_self, Int.add_zero] at c3' c5'
    have hV : V = v := BitVec.eq_of_toNat_eq (by simp at hvs; omega)
    subst hV
    clear hvs
    have C1 := hide c1'
    have C3 := hide c3'
    have C5 := hide c5'
    have C6 := hide c6'
    have C7 := hide p0
    have C8 := hide cl
    clear c1' c3' c5' c6' p0 cl
    go_enter Try.func7, Try.ntmps7
    go_wp2
    go_quiet (fail)
    go_wp2_with (first | (go_at_call 12; ((with_reducible first | refine (C1.out _).mono ?_ | refine (C3.out _).mono ?_ | refine (C7.out _).mono ?_); rintro e w' ⟨rfl, n2, rfl⟩)) | (go_at_call 10; ((with_reducible first | refine (C5.out _).mono ?_ | refine (C6.out _).mono ?_ | refine (C0.out _).mono ?_); rintro e w' ⟨rfl, n3, rfl⟩)) | (go_at_call 18; refine (C8.out _ _ (at_new2 _ _ _ _)).mono ?_; rintro e w1 ⟨rfl, hbel⟩))
    go_ret
    exact ⟨rfl, below_drewN (((below_drewN ((Below.refl _ _).alloc (Nat.le_refl _) _) _).alloc (by simp) _).trans (hbel.mono (by simp; omega))) _⟩

theorem walk (x v : BitVec 64) (c0 c1 c2 : Int) (w : World) :
    Calls Try.prog 7 #[.int .u64 (x.toNat : Int), .int .u64 (v.toNat : Int), .agg #[.int .i64 c0, .int .i64 c1, .int .i64 c2]] w
      fun e w' => e = .returned (.bool true) ∧ Below w.heap.size w w' := by
  obtain ⟨ha1, ha2⟩ := low63 c0
  obtain ⟨hd1, hd2⟩ := low63 c1
  obtain ⟨hc1, hc2⟩ := low63 c2
  obtain ⟨a, ha⟩ : ∃ d, bits .and .i64 c0 63 = d := ⟨_, rfl⟩
  obtain ⟨d, hd⟩ : ∃ d, bits .and .i64 c1 63 = d := ⟨_, rfl⟩
  obtain ⟨c, hc⟩ : ∃ d, bits .and .i64 c2 63 = d := ⟨_, rfl⟩
  rw [ha] at ha1 ha2
  rw [hd] at hd1 hd2
  rw [hc] at hc1 hc2
  by_cases k1 : 64 - a < d
  · have m1 := Int.emod_nonneg c (show 64 - a + 1 ≠ 0 by omega)
    have m2 := Int.emod_lt_of_pos c (show 0 < 64 - a + 1 by omega)
    by_cases k2 : c % (64 - a + 1) = 64 - a
    · exact walkEq x v c0 c1 c2 a d c (64 - a) w ha1 ha2 hd1 hd2 hc1 hc2 ha hd hc (.inl ⟨k1, rfl, k2⟩) (by omega)
    · exact walkLt x v c0 c1 c2 a d c (64 - a) _ w ha1 ha2 hd1 hd2 hc1 hc2 ha hd hc (.inl ⟨k1, rfl, rfl⟩) m1 (by omega)
  · by_cases k3 : 0 < d
    · have m1 := Int.emod_nonneg c (show d + 1 ≠ 0 by omega)
      have m2 := Int.emod_lt_of_pos c (show 0 < d + 1 by omega)
      by_cases k2 : c % (d + 1) = d
      · exact walkEq x v c0 c1 c2 a d c d w ha1 ha2 hd1 hd2 hc1 hc2 ha hd hc (.inr (.inl ⟨by omega, k3, rfl, k2⟩)) (by omega)
      · exact walkLt x v c0 c1 c2 a d c d _ w ha1 ha2 hd1 hd2 hc1 hc2 ha hd hc (.inr (.inl ⟨by omega, k3, rfl, rfl⟩)) m1 (by omega)
    · exact walkEq x v c0 c1 c2 a d c 0 w ha1 ha2 hd1 hd2 hc1 hc2 ha hd hc (.inr (.inr ⟨by omega, by omega, rfl⟩)) (by omega)

open Go.ChangeShapes Go.WideShapes Go.ChangeAt
theorem walks : Frame.Walks 7 Try.f7 := by
  intro H enc W base args ds ps hval hA
  rw [Try.params7] at hA hval
  obtain ⟨v0, v1, v2, d0, d1, d2, p0, p1, p2, hargs, rfl, rfl, h0, h1, h2⟩ := trodAll_three hA
  obtain rfl : args = #[v0, v1, v2] := by cases args; simp_all
  obtain ⟨x, rfl, rfl, rfl, wx⟩ := open_int Try.underlying22 (hval 0 22 v0 rfl rfl) h0
  obtain ⟨y, rfl, rfl, rfl, wy⟩ := open_int Try.underlying22 (hval 1 22 v1 rfl rfl) h1
  obtain ⟨zs, rfl, hl, _⟩ := Frame.open_arr Try.underlying38 Try.underlying3 (by kernel_rfl) (by kernel_rfl) (hval 2 38 v2 rfl rfl) h2
  obtain ⟨c0, c1, c2, rfl⟩ := Frame.arr3 hl
  obtain ⟨X, rfl⟩ := Frame.wf_u64 wx
  obtain ⟨Y, rfl⟩ := Frame.wf_u64 wy
  exact walk X Y c0 c1 c2 W
set_option maxRecDepth 100000 in
theorem proved : Rows.FieldPartsSaid :=
  OpenClaim.holds_of_wide 7 Try.f7 rfl rfl rfl rfl rfl rfl rfl ⟨rfl, rfl, rfl, rfl, rfl⟩ rfl rfl rfl rfl rfl (by kernel_rfl) Try.func7 (by kernel_rfl)
    (of_decide_eq_true (by kernel_rfl)) (by unfold Func.isWrapper; first | (rw [if_pos (by decide +kernel)]; kernel_rfl) | (rw [if_neg (by decide +kernel)]; exact ⟨rfl, rfl⟩))
    (fun os started H enc _ => Frame.lift os started H enc _ _ Rows.fieldPartsSpec 4 (by kernel_rfl) Try.func7 Try.underlying4 (by kernel_rfl) rfl (by kernel_rfl)
      (fun ds h => by match ds, h with | [_, _, _], _ => exact ⟨rfl, rfl, rfl⟩)
      (ChangeSpec.witness6 (enc := enc) (C := Try.checked) false ⟨#[], #[.int .u64 0, .int .u64 0, .agg #[.int .i64 0, .int .i64 0, .int .i64 0]], []⟩ 8 (by kernel_rfl) (by kernel_rfl) (by kernel_rfl) (by kernel_rfl)) walks)
end Go.Proofs.Ytpllegpdiplokaa.FieldParts
