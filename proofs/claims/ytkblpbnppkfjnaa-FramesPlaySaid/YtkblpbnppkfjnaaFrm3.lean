/-
  The numbers of a pool for which a closure tells true, in a list of one's own: those that are taken, those that are free.
-/
import Derived.Test.YtkblpbnppkfjnaaFrm2
import Derived.Test.YtkblpbnppkfjnaaOnesWalks
namespace Go.Proofs.Ytkblpbnppkfjnaa
open Go.RowKit Go.Shelf Words ScaleMath FrmMath

attribute [local go_sem] Oper.semAt_some

theorem infoInt : (Try.prog.info? 3).map (fun i => (i.zero, i.size, i.bytes)) = some (some (.int .i64 0), 1, 8) := by kernel_rfl

set_option maxHeartbeats 400000 in
theorem made_same (b : Nat) (A T : BitVec 64) (hA : A ≠ 0#64) (w : World) (hp : PoolAt w b A T) : Calls Try.prog 17 #[.pointer (some ⟨b, 0, none⟩)] w fun e w' => e = .returned (.bool true) ∧ w' = w := by
  have hne := ne_p (A.toNat : Int) (T.toNat : Int) 0 0
  have h0 : decide ((A.toNat : Int) = 0) = false := decide_eq_false (fun e => hA (BitVec.eq_of_toNat_eq (by simpa using e)))
  rw [h0] at hne
  have c0 := hp.c0
  have c1 := hp.c1
  clear hp hA h0
  generalize (A.toNat : Int) = a at *
  generalize (T.toNat : Int) = t at *
  go_enter Try.func17, Try.ntmps17
  go_wp2
  go_ret
  exact ⟨rfl, rfl⟩

theorem keeps_drewN (W : World) (k : Nat) : KeepsOthers W (W.drewN k) := ⟨Nat.le_refl _, fun _ _ h _ => h⟩

set_option maxRecDepth 100000 in
set_option maxHeartbeats 2000000 in
theorem those_taken (b : Nat) (A T : BitVec 64) (hA : A ≠ 0#64) (w : World) (hp : PoolAt w b A T) :
    Calls Try.prog 21 #[.pointer (some ⟨b, 0, none⟩), .func (.func 15) #[.pointer (some ⟨b, 0, none⟩)] #[]] w
      fun e W' => ∃ v, e = .returned v ∧ W'.ownsRow w.heap.size 3 1 v ((onesL A).filter (takenB A T)).length (((onesL A).filter (takenB A T)).map (Value.int .i64)) ∧ Below w.heap.size w W' := by
  refine (callsIn_wide (n := 4)).1 ?_
  obtain ⟨i0, hi, hz0, hz1, hz2⟩ := info_parts infoInt
  have hlen : (onesL A).length ≤ 64 := onesTo_length A 64
  have CM := hide (fun W hW => made_same b A T hA W hW)
  have CT : Hid (∀ (y : Int) (W : World), Below w.heap.size w W → Calls Try.prog 15 #[.pointer (some ⟨b, 0, none⟩), .int .i64 y] W (Quiet (.bool (takenB A T y)) W)) := hide (fun y W hB => taken_at b A T hA y W (pool_be hB hp))
  generalize takenB A T = S at *
  have hro : Fence.wide.round = none := rfl
  have h17 : Fence.wide.fn 17 := trivial
  have h23 : Fence.wide.fn 23 := trivial
  have h24 : Fence.wide.fn 24 := trivial
  have h15 : Fence.wide.fn 15 := trivial
  refine callsIn_of_wp_marks Try.func21 rfl trivial ?_ rfl
  simp only [Try.ntmps21, List.size_toArray, List.length_cons, List.length_nil, Nat.reduceAdd, Nat.reduceSub, Array.replicate_succ, Array.replicate_zero, List.push_toArray, List.append_toArray, List.nil_append, List.cons_append]
  have c0 := hp.c0
  have hlt := hp.lt
  gi_wp2_with (first | (gi_at_call 17; refine (callsIn_wide.2 (CM.out _ (pool_al _ hp))).mono ?_; rintro e w' ⟨rfl, rfl⟩) | (gi_at_call 23; refine (ones_in Fence.wide 3 trivial rfl _ _).mono ?_; rintro e w' ⟨rfl, rfl⟩))
  have bC := ((Boxed.new w 38 (.func (.func 15) #[.pointer (some ⟨b, 0, none⟩)] #[])).alloc (.cells #[.slice none 0 0] 22)).alloc (.cells #[.int .u64 (A.toNat : Int)] 40)
  have bO := (Boxed.new (w.alloc (.cells #[.func (.func 15) #[.pointer (some ⟨b, 0, none⟩)] #[]] 38)) 22 (.slice none 0 0)).alloc (.cells #[.int .u64 (A.toNat : Int)] 40)
  have bX := Boxed.new ((w.alloc (.cells #[.func (.func 15) #[.pointer (some ⟨b, 0, none⟩)] #[]] 38)).alloc (.cells #[.slice none 0 0] 22)) 40 (.int .u64 (A.toNat : Int))
  rw [World.size_alloc] at bO
  rw [World.size_alloc, World.size_alloc] at bX
  have hB0 : Below w.heap.size w (((w.alloc (.cells #[.func (.func 15) #[.pointer (some ⟨b, 0, none⟩)] #[]] 38)).alloc (.cells #[.slice none 0 0] 22)).alloc (.cells #[.int .u64 (A.toNat : Int)] 40)) := (((Below.refl _ w).alloc (Nat.le_refl _) _).alloc (by simp) _).alloc (by simp; omega) _
  refine wpIn_rangeFunc_ownF hro (by decide) (gf := 24) (lb := #[.pointer (some ⟨w.heap.size + 1 + 1, 0, none⟩)]) rfl h24 (enters_of Try.func24 (by kernel_rfl) rfl)
    (ones_stops Fence.wide 3 h24 hro (by decide) (w.heap.size + 1 + 1) A _ bX) keepsBox_t keepsBox_b (Below.refl _ _) (fun _ => rfl)
    (fun pre W => ((∃ v, Boxed W (w.heap.size + 1) 22 v ∧ W.ownsRow w.heap.size 3 1 v (pre.filter S).length ((pre.filter S).map (Value.int .i64)) ∧ True) ∧ Boxed W w.heap.size 38 (.func (.func 15) #[.pointer (some ⟨b, 0, none⟩)] #[])) ∧ Below w.heap.size w W)
    (fun _ _ _ => False)
    (OwnFrom.and (OwnFrom.and (Own.from (holdsRow_own w.heap.size (w.heap.size + 1) 22 3 1 (fun pre : List Int => (pre.filter S).length) (fun pre => (pre.filter S).map (Value.int .i64)) (fun _ _ => True)) _) (Own.from (boxed_own _ _ (fun _ => _)) _)) (ownFrom_below (Nat.le_refl _) (by simp; omega)))
    (fun _ _ _ _ _ hs _ _ => hs)
    ⟨⟨⟨_, bO, World.ownsRow_nil _ _ _ _, trivial⟩, bC⟩, hB0⟩
    (fun y => { tmps := #[.pointer (some ⟨b, 0, none⟩), .func (.func 15) #[.pointer (some ⟨b, 0, none⟩)] #[], undef, .pointer (some ⟨w.heap.size, 0, none⟩), .slice none 0 0, .pointer (some ⟨w.heap.size + 1, 0, none⟩), .int .i64 y, .pointer (some ⟨b, 0, none⟩), .bool true, .bool false, .pointer (some ⟨b, 0, none⟩), .pointer (some ⟨b, 0, none⟩), .pointer (some ⟨b, 0, none⟩), .int .u64 (A.toNat : Int), .func (.func 24) #[] #[.pointer (some ⟨w.heap.size + 1 + 1, 0, none⟩)], .int .i64 y, undef, undef, undef, undef, undef, undef, undef, undef], defers := [] }) ?assign ?body ?done ?stop
  case assign =>
    intro l y W K hK
    gi_wp2
    exact hK
  case body =>
    rintro l pre y W ⟨⟨⟨v, hv, hrow, -⟩, hC⟩, hBw⟩ hlt'
    have hcc := hC.cell
    have hcv := hv.cell
    have hfil := filter_snoc S pre y
    have hfl : (pre.filter S).length ≤ pre.length := List.length_filter_le _ _
    have hS := CT.out y W hBw
    cases hs : S y with
    | true =>
      rw [hs] at hS hfil
      have HF := hide hfil
      have HS := hide hS
      clear hfil hs hS
      gi_wp2_with (first | (gi_at_call 15; refine (CallsIn.inRound l (callsIn_wide.2 HS.out)).mono ?_; rintro e w' ⟨rfl, k, rfl⟩) | (gi_at_builtin; refine wpListIn_append_own _ rfl _ _ 22 rfl w.heap.size 3 i0 (.int .i64 0) 1 8 Try.underlying22 hi hz0 hz1 hz2 rfl (by decide) _ _ _ rfl ((show (W.drewN _).ownsRow _ _ _ _ _ _ from hrow).alloc _) ⟨W.heap.size, 0, none⟩ 1 1 [.int .i64 y] rfl rfl (cell_one_new _ _ _) (by simp [Value.oneCell']) (by unfold maxLen; omega) (by omega) (by have := hBw.size; simp; omega) ?_; intro v' w1 hown' hgrow _; obtain ⟨g', cap', rfl⟩ := ownsRow_succ hown'; obtain ⟨hv1, hv2, hr2, hk2, hb2⟩ := Boxed.appended (show Boxed (W.drewN _) (w.heap.size + 1) 22 v from hv) (by decide) (show (W.drewN _).ownsRow w.heap.size 3 1 v _ _ from hrow) hBw.size (by omega) hown' hgrow; have hc1 := hv1.cell; have hf1 := hv1.frozen))
      refine ⟨(keeps_drewN W _).trans hk2, fun hbx => (((show Boxed (W.drewN _) _ _ _ from hbx).alloc _).kept hgrow (hbx.not_row (by decide) hrow)).other (by omega) _, ⟨⟨_, hv2, ?_, trivial⟩, (((show Boxed (W.drewN _) _ _ _ from hC).alloc _).kept hgrow (hC.not_row (by decide) hrow)).other (by omega) _⟩, (below_drewN hBw _).trans hb2⟩
      rw [HF.out]
      simpa using hr2
    | false =>
      rw [hs] at hS hfil
      have HF := hide hfil
      have HS := hide hS
      clear hfil hs hS
      gi_wp2_with (first | (gi_at_call 15; refine (CallsIn.inRound l (callsIn_wide.2 HS.out)).mono ?_; rintro e w' ⟨rfl, k, rfl⟩))
      refine ⟨keeps_drewN W _, fun hbx => hbx, ⟨⟨_, hv, ?_, trivial⟩, hC⟩, below_drewN hBw _⟩
      rw [HF.out]
      simpa using owns_dr k hrow
  case done =>
    rintro D ys W hD rfl ⟨⟨⟨v, hv, hrow, -⟩, hC⟩, hBw⟩ hK
    have hc := hv.cell
    gi_wp2
    refine ⟨by simp, .inl ⟨_, _, rfl, run_takeDeferred hK, ?_⟩⟩
    exact ⟨_, results_tmp rfl _ _ _, v, rfl, ownsRow_putObj hrow _ hK rfl, hBw.trans (belowK_b (w := w) (Nat.le_refl _) W D _ _ (by simp at hD; omega) hK rfl rfl)⟩
  case stop =>
    rintro D c pre W _ _ h _
    exact h.elim

set_option maxRecDepth 100000 in
set_option maxHeartbeats 2000000 in
theorem those_free (b c : Nat) (A T : BitVec 64) (hA : A ≠ 0#64) (w : World) (hp : PoolAt w b A T) (hq : w.cell? ⟨c, 0, none⟩ = some (.pointer (some ⟨b, 0, none⟩))) :
    Calls Try.prog 21 #[.pointer (some ⟨b, 0, none⟩), .func (.func 22) #[] #[.pointer (some ⟨c, 0, none⟩)]] w
      fun e W' => ∃ v, e = .returned v ∧ W'.ownsRow w.heap.size 3 1 v ((onesL A).filter ((fun y => !takenB A T y))).length (((onesL A).filter ((fun y => !takenB A T y))).map (Value.int .i64)) ∧ Below w.heap.size w W' := by
  refine (callsIn_wide (n := 4)).1 ?_
  obtain ⟨i0, hi, hz0, hz1, hz2⟩ := info_parts infoInt
  have hlen : (onesL A).length ≤ 64 := onesTo_length A 64
  have CM := hide (fun W hW => made_same b A T hA W hW)
  have CT : Hid (∀ (y : Int) (W : World), Below w.heap.size w W → Calls Try.prog 22 #[.int .i64 y, .pointer (some ⟨c, 0, none⟩)] W (Quiet (.bool ((fun y => !takenB A T y) y)) W)) := hide (fun y W hB => isfree_at b c A T hA y W (pool_be hB hp) (c_be hB hq))
  generalize (fun y => !takenB A T y) = S at *
  have hro : Fence.wide.round = none := rfl
  have h17 : Fence.wide.fn 17 := trivial
  have h23 : Fence.wide.fn 23 := trivial
  have h24 : Fence.wide.fn 24 := trivial
  have h15 : Fence.wide.fn 22 := trivial
  refine callsIn_of_wp_marks Try.func21 rfl trivial ?_ rfl
  simp only [Try.ntmps21, List.size_toArray, List.length_cons, List.length_nil, Nat.reduceAdd, Nat.reduceSub, Array.replicate_succ, Array.replicate_zero, List.push_toArray, List.append_toArray, List.nil_append, List.cons_append]
  have c0 := hp.c0
  have hlt := hp.lt
  gi_wp2_with (first | (gi_at_call 17; refine (callsIn_wide.2 (CM.out _ (pool_al _ hp))).mono ?_; rintro e w' ⟨rfl, rfl⟩) | (gi_at_call 23; refine (ones_in Fence.wide 3 trivial rfl _ _).mono ?_; rintro e w' ⟨rfl, rfl⟩))
  have bC := ((Boxed.new w 38 (.func (.func 22) #[] #[.pointer (some ⟨c, 0, none⟩)])).alloc (.cells #[.slice none 0 0] 22)).alloc (.cells #[.int .u64 (A.toNat : Int)] 40)
  have bO := (Boxed.new (w.alloc (.cells #[.func (.func 22) #[] #[.pointer (some ⟨c, 0, none⟩)]] 38)) 22 (.slice none 0 0)).alloc (.cells #[.int .u64 (A.toNat : Int)] 40)
  have bX := Boxed.new ((w.alloc (.cells #[.func (.func 22) #[] #[.pointer (some ⟨c, 0, none⟩)]] 38)).alloc (.cells #[.slice none 0 0] 22)) 40 (.int .u64 (A.toNat : Int))
  rw [World.size_alloc] at bO
  rw [World.size_alloc, World.size_alloc] at bX
  have hB0 : Below w.heap.size w (((w.alloc (.cells #[.func (.func 22) #[] #[.pointer (some ⟨c, 0, none⟩)]] 38)).alloc (.cells #[.slice none 0 0] 22)).alloc (.cells #[.int .u64 (A.toNat : Int)] 40)) := (((Below.refl _ w).alloc (Nat.le_refl _) _).alloc (by simp) _).alloc (by simp; omega) _
  refine wpIn_rangeFunc_ownF hro (by decide) (gf := 24) (lb := #[.pointer (some ⟨w.heap.size + 1 + 1, 0, none⟩)]) rfl h24 (enters_of Try.func24 (by kernel_rfl) rfl)
    (ones_stops Fence.wide 3 h24 hro (by decide) (w.heap.size + 1 + 1) A _ bX) keepsBox_t keepsBox_b (Below.refl _ _) (fun _ => rfl)
    (fun pre W => ((∃ v, Boxed W (w.heap.size + 1) 22 v ∧ W.ownsRow w.heap.size 3 1 v (pre.filter S).length ((pre.filter S).map (Value.int .i64)) ∧ True) ∧ Boxed W w.heap.size 38 (.func (.func 22) #[] #[.pointer (some ⟨c, 0, none⟩)])) ∧ Below w.heap.size w W)
    (fun _ _ _ => False)
    (OwnFrom.and (OwnFrom.and (Own.from (holdsRow_own w.heap.size (w.heap.size + 1) 22 3 1 (fun pre : List Int => (pre.filter S).length) (fun pre => (pre.filter S).map (Value.int .i64)) (fun _ _ => True)) _) (Own.from (boxed_own _ _ (fun _ => _)) _)) (ownFrom_below (Nat.le_refl _) (by simp; omega)))
    (fun _ _ _ _ _ hs _ _ => hs)
    ⟨⟨⟨_, bO, World.ownsRow_nil _ _ _ _, trivial⟩, bC⟩, hB0⟩
    (fun y => { tmps := #[.pointer (some ⟨b, 0, none⟩), .func (.func 22) #[] #[.pointer (some ⟨c, 0, none⟩)], undef, .pointer (some ⟨w.heap.size, 0, none⟩), .slice none 0 0, .pointer (some ⟨w.heap.size + 1, 0, none⟩), .int .i64 y, .pointer (some ⟨b, 0, none⟩), .bool true, .bool false, .pointer (some ⟨b, 0, none⟩), .pointer (some ⟨b, 0, none⟩), .pointer (some ⟨b, 0, none⟩), .int .u64 (A.toNat : Int), .func (.func 24) #[] #[.pointer (some ⟨w.heap.size + 1 + 1, 0, none⟩)], .int .i64 y, undef, undef, undef, undef, undef, undef, undef, undef], defers := [] }) ?assign ?body ?done ?stop
  case assign =>
    intro l y W K hK
    gi_wp2
    exact hK
  case body =>
    rintro l pre y W ⟨⟨⟨v, hv, hrow, -⟩, hC⟩, hBw⟩ hlt'
    have hcc := hC.cell
    have hcv := hv.cell
    have hfil := filter_snoc S pre y
    have hfl : (pre.filter S).length ≤ pre.length := List.length_filter_le _ _
    have hS := CT.out y W hBw
    cases hs : S y with
    | true =>
      rw [hs] at hS hfil
      have HF := hide hfil
      have HS := hide hS
      clear hfil hs hS
      gi_wp2_with (first | (gi_at_call 22; refine (CallsIn.inRound l (callsIn_wide.2 HS.out)).mono ?_; rintro e w' ⟨rfl, k, rfl⟩) | (gi_at_builtin; refine wpListIn_append_own _ rfl _ _ 22 rfl w.heap.size 3 i0 (.int .i64 0) 1 8 Try.underlying22 hi hz0 hz1 hz2 rfl (by decide) _ _ _ rfl ((show (W.drewN _).ownsRow _ _ _ _ _ _ from hrow).alloc _) ⟨W.heap.size, 0, none⟩ 1 1 [.int .i64 y] rfl rfl (cell_one_new _ _ _) (by simp [Value.oneCell']) (by unfold maxLen; omega) (by omega) (by have := hBw.size; simp; omega) ?_; intro v' w1 hown' hgrow _; obtain ⟨g', cap', rfl⟩ := ownsRow_succ hown'; obtain ⟨hv1, hv2, hr2, hk2, hb2⟩ := Boxed.appended (show Boxed (W.drewN _) (w.heap.size + 1) 22 v from hv) (by decide) (show (W.drewN _).ownsRow w.heap.size 3 1 v _ _ from hrow) hBw.size (by omega) hown' hgrow; have hc1 := hv1.cell; have hf1 := hv1.frozen))
      refine ⟨(keeps_drewN W _).trans hk2, fun hbx => (((show Boxed (W.drewN _) _ _ _ from hbx).alloc _).kept hgrow (hbx.not_row (by decide) hrow)).other (by omega) _, ⟨⟨_, hv2, ?_, trivial⟩, (((show Boxed (W.drewN _) _ _ _ from hC).alloc _).kept hgrow (hC.not_row (by decide) hrow)).other (by omega) _⟩, (below_drewN hBw _).trans hb2⟩
      rw [HF.out]
      simpa using hr2
    | false =>
      rw [hs] at hS hfil
      have HF := hide hfil
      have HS := hide hS
      clear hfil hs hS
      gi_wp2_with (first | (gi_at_call 22; refine (CallsIn.inRound l (callsIn_wide.2 HS.out)).mono ?_; rintro e w' ⟨rfl, k, rfl⟩))
      refine ⟨keeps_drewN W _, fun hbx => hbx, ⟨⟨_, hv, ?_, trivial⟩, hC⟩, below_drewN hBw _⟩
      rw [HF.out]
      simpa using owns_dr k hrow
  case done =>
    rintro D ys W hD rfl ⟨⟨⟨v, hv, hrow, -⟩, hC⟩, hBw⟩ hK
    have hc := hv.cell
    gi_wp2
    refine ⟨by simp, .inl ⟨_, _, rfl, run_takeDeferred hK, ?_⟩⟩
    exact ⟨_, results_tmp rfl _ _ _, v, rfl, ownsRow_putObj hrow _ hK rfl, hBw.trans (belowK_b (w := w) (Nat.le_refl _) W D _ _ (by simp at hD; omega) hK rfl rfl)⟩
  case stop =>
    rintro D c pre W _ _ h _
    exact h.elim
end Go.Proofs.Ytkblpbnppkfjnaa
