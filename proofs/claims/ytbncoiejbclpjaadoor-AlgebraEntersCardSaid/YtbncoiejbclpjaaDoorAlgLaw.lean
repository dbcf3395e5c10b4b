/-
  What law 6's 'one' answers; the two tables together; what Check answers; what the laws of layer 6 want of numbers and of Bound.
-/
import Derived.Test.YtbncoiejbclpjaaDoorAlg5
import Derived.Test.YtbncoiejbclpjaaDoorPermTab
namespace Go.Proofs.YtbncoiejbclpjaaDoor
open Go.RowKit Words FieldMath BoundsMath

set_option maxRecDepth 100000 in
set_option maxHeartbeats 4000000 in
theorem one_let (MA M6 : Int) (c1 : ∀ W, Tab W → Calls Tryd.prog 51 #[.agg #[.int .u64 0, .int .u64 281474976710656], .int .u64 511] W (Makes (.tuple #[.agg #[.bool true, .int .u64 MA, .int .u64 0], .bool true]) W)) (c2 : ∀ W, Tab W → Calls Tryd.prog 12 #[.agg #[.bool true, .int .u64 MA, .int .u64 0], .int .u64 4096] W (Makes (.agg #[.bool true, .int .u64 MA, .int .u64 4096]) W)) (c3 : ∀ W, Tab W → Calls Tryd.prog 15 #[.agg #[.bool true, .int .u64 MA, .int .u64 4096], .int .u64 16, .bool true] W (Makes (.agg #[.bool true, .int .u64 M6, .int .u64 4096]) W)) (c4 : ∀ W, Tab W → Calls Tryd.prog 36 #[.agg #[.bool true, .int .u64 M6, .int .u64 4096]] W (Makes (.int .u64 4096) W)) (c5 : ∀ W, Tab W → Calls Tryd.prog 52 #[.agg #[.bool true, .int .u64 M6, .int .u64 4096]] W (Makes (.int .u64 4112) W)) (w : World) (hT : Tab w) :
    Calls Tryd.prog 19 #[] w (Makes (.bool true) w) := by
  have Cc1 := hide c1
  have Cc2 := hide c2
  have Cc3 := hide c3
  have Cc4 := hide c4
  have Cc5 := hide c5
  clear c1 c2 c3 c4 c5
  have SS := cell_same
  have LB' := ltB_add
  have LS := ltB_self
  have LA' := alloc_reads
  have LH := alloc_holds
  go_enter Tryd.func19, Tryd.ntmps19
  go_wp2_with (first | (go_at_call 51; (first | ((with_reducible refine (Cc1.out _ ?_).mono ?_); (refine hT.behind ?_; repeat (first | with_reducible assumption | with_reducible exact Below.refl _ _ | with_reducible refine Below.drew ?_ | with_reducible refine below_drewN ?_ _ | with_reducible refine bw_alloc ?_ _ | (with_reducible refine bw_set ?_ ?_ _; focus (dsimp only; omega)) | (with_reducible apply bw_behind; with_reducible assumption))))); rintro e wa ⟨rfl, hba⟩; have hra := below_reads hba; have hha := below_holds hba; obtain ⟨ma, hsa⟩ := below_grew hba) | (go_at_call 12; (first | ((with_reducible refine (Cc2.out _ ?_).mono ?_); (refine hT.behind ?_; repeat (first | with_reducible assumption | with_reducible exact Below.refl _ _ | with_reducible refine Below.drew ?_ | with_reducible refine below_drewN ?_ _ | with_reducible refine bw_alloc ?_ _ | (with_reducible refine bw_set ?_ ?_ _; focus (dsimp only; omega)) | (with_reducible apply bw_behind; with_reducible assumption))))); rintro e wb ⟨rfl, hbb⟩; have hrb := below_reads hbb; have hhb := below_holds hbb; obtain ⟨mb, hsb⟩ := below_grew hbb) | (go_at_call 15; (first | ((with_reducible refine (Cc3.out _ ?_).mono ?_); (refine hT.behind ?_; repeat (first | with_reducible assumption | with_reducible exact Below.refl _ _ | with_reducible refine Below.drew ?_ | with_reducible refine below_drewN ?_ _ | with_reducible refine bw_alloc ?_ _ | (with_reducible refine bw_set ?_ ?_ _; focus (dsimp only; omega)) | (with_reducible apply bw_behind; with_reducible assumption))))); rintro e wd ⟨rfl, hbd⟩; have hrd := below_reads hbd; have hhd := below_holds hbd; obtain ⟨md, hsd⟩ := below_grew hbd) | (go_at_call 36; (first | ((with_reducible refine (Cc4.out _ ?_).mono ?_); (refine hT.behind ?_; repeat (first | with_reducible assumption | with_reducible exact Below.refl _ _ | with_reducible refine Below.drew ?_ | with_reducible refine below_drewN ?_ _ | with_reducible refine bw_alloc ?_ _ | (with_reducible refine bw_set ?_ ?_ _; focus (dsimp only; omega)) | (with_reducible apply bw_behind; with_reducible assumption))))); rintro e we ⟨rfl, hbe⟩; have hre := below_reads hbe; have hhe := below_holds hbe; obtain ⟨me, hse⟩ := below_grew hbe) | (go_at_call 52; (first | ((with_reducible refine (Cc5.out _ ?_).mono ?_); (refine hT.behind ?_; repeat (first | with_reducible assumption | with_reducible exact Below.refl _ _ | with_reducible refine Below.drew ?_ | with_reducible refine below_drewN ?_ _ | with_reducible refine bw_alloc ?_ _ | (with_reducible refine bw_set ?_ ?_ _; focus (dsimp only; omega)) | (with_reducible apply bw_behind; with_reducible assumption))))); rintro e wf ⟨rfl, hbf⟩; have hrf := below_reads hbf; have hhf := below_holds hbf; obtain ⟨mf, hsf⟩ := below_grew hbf))
  refine bodyPost_ret (v := .bool true) (by simp (maxDischargeDepth := 4) [results, Tryd.results19, go_sem, *]) rfl ?_
  refine ⟨rfl, ?_⟩
  repeat (first | with_reducible assumption | with_reducible exact Below.refl _ _ | with_reducible refine Below.drew ?_ | with_reducible refine below_drewN ?_ _ | with_reducible refine bw_alloc ?_ _ | (with_reducible refine bw_set ?_ ?_ _; focus (dsimp only; omega)) | (with_reducible apply bw_behind; with_reducible assumption))

theorem kept_16 : Kept 4096 (4096 + 16) 0 := ⟨by omega, by unfold keeps; rw [if_pos rfl, steps_zero]; decide, fun k hk => by omega⟩
theorem one_any (w : World) (hT : Tab w) : Calls Tryd.prog 19 #[] w (Makes (.bool true) w) := by
  have hb : Bnd (metaN (wordN 0 0 37) 511 0) 4096 16 0 4096 4112 (metaN (wordN 4096 16 0) 511 0) := ⟨by omega, kept_16, by decide, by decide, by decide +kernel⟩
  obtain ⟨b1, b2, b3, b4, b5, b6, b7⟩ := hb.made
  have hm := metaN_lt (wordN 0 0 37) 511 0
  have c2 := fun W hW => address_any true (metaN (wordN 0 0 37) 511 0) 0 4096 hm W hW
  rw [show addrQ true (metaN (wordN 0 0 37) 511 0) 0 4096 = true by decide +kernel] at c2
  have c3 := fun W hW => bound_yes true true _ _ _ _ _ _ _ hm hb W hW
  rw [show bndQ true (metaN (wordN 0 0 37) 511 0) 4096 16 true 4096 4112 = true by decide +kernel] at c3
  have c4 := fun W hW => base_any true _ 4096 b7 W hW
  have c5 := fun W hW => top_any true _ 4096 b7 W hW
  rw [b2] at c4
  rw [b3] at c5
  exact one_let _ _ (fun W hW => root_all W hW) c2 c3 c4 c5 w hT

/-- Both tables. -/
structure Tabs (W : World) : Prop where
  t : Tab W
  a : TabA W
theorem Tabs.behind {W W' : World} (h : Tabs W) (hb : Below W.heap.size W W') : Tabs W' := ⟨h.t.behind hb, h.a.behind hb⟩
theorem behind_calls {f : FuncId} {args : Array Value} {v : Value} {w0 : World} (c : ∀ W, Tabs W → Calls Tryd.prog f args W (Makes v W)) (hT : Tabs w0) (y : Behind w0.heap.size w0) :
    Calls Tryd.prog f args y.world fun e w'' => e = .returned v ∧ ∃ z : Behind w0.heap.size w0, w'' = z.world :=
  (c _ (hT.behind y.below)).mono fun _ _ ⟨he, hb⟩ => ⟨he, ⟨_, y.below.trans (hb.mono y.below.size)⟩, rfl⟩
def needsN (k : Int) : Nat := (needsI k).toNat
theorem needsN_eq (k : Int) : needsI k = ((needsN k : Nat) : Int) := by
  unfold needsN needsI
  repeat' split
  all_goals rfl
theorem needsN_lt (k : Int) : needsN k < 512 := by
  unfold needsN needsI
  repeat' split
  all_goals decide

set_option maxHeartbeats 4000000 in
theorem check_let (q : Bool) (M A K N X R : Int) (c1 : ∀ W, Tabs W → Calls Tryd.prog 70 #[.int .i64 K] W (Makes (.int .u64 N) W)) (c2 : ∀ W, Tabs W → Calls Tryd.prog 69 #[.agg #[.bool q, .int .u64 M, .int .u64 A], .int .u64 N, .int .u64 X] W (Makes (.int .i64 R) W)) (w : World) (hT : Tabs w) :
    Calls Tryd.prog 32 #[.agg #[.bool q, .int .u64 M, .int .u64 A], .int .i64 K, .int .u64 X] w (Makes (.int .i64 R) w) := by
  have Cc1 := hide c1
  have Cc2 := hide c2
  clear c1 c2
  have SS := cell_same
  have LB' := ltB_add
  have LS := ltB_self
  have LA' := alloc_reads
  have LH := alloc_holds
  go_enter Tryd.func32, Tryd.ntmps32
  go_upto_region 1 with fail
  refine wp_abs (fun W => Tabs W ∧ Below w.heap.size w W ∧ W.cell? ⟨w.heap.size, 0, none⟩ = some (.bool q) ∧ W.cell? ⟨w.heap.size, 1, none⟩ = some (.int .u64 M) ∧ W.cell? ⟨w.heap.size, 2, none⟩ = some (.int .u64 A)) ?_ ?_
  · refine ⟨?_, ?_, ?_, ?_, ?_⟩
    all_goals (first | with_reducible assumption | ((repeat (first | with_reducible assumption | with_reducible refine c_dr _ ?_ | with_reducible refine c_d1 ?_ | with_reducible refine c_al _ ?_ | (with_reducible refine c_set ?_ ?_; focus (dsimp only; omega)) | (with_reducible apply c_be; with_reducible assumption))); done) | ((repeat (first | with_reducible assumption | with_reducible refine o_dr _ ?_ | with_reducible refine o_d1 ?_ | with_reducible refine o_set ?_ | (with_reducible refine o_new ?_ ?_; (focus (simp)); (focus (simp))) | with_reducible refine o_al _ ?_ | (with_reducible apply o_be; with_reducible assumption))); done) | ((repeat (first | with_reducible assumption | with_reducible exact Below.refl _ _ | with_reducible refine Below.drew ?_ | with_reducible refine below_drewN ?_ _ | with_reducible refine bw_alloc ?_ _ | (with_reducible refine bw_set ?_ ?_ _; focus (dsimp only; omega)) | (with_reducible apply bw_behind; with_reducible assumption))); done) | (refine hT.behind ?_; (repeat (first | with_reducible assumption | with_reducible exact Below.refl _ _ | with_reducible refine Below.drew ?_ | with_reducible refine below_drewN ?_ _ | with_reducible refine bw_alloc ?_ _ | (with_reducible refine bw_set ?_ ?_ _; focus (dsimp only; omega)) | (with_reducible apply bw_behind; with_reducible assumption))); done) | (simp [go_sem, *]; omega) | (simp (maxDischargeDepth := 4) [go_sem, *]; done))
  rintro w0 ⟨hT0, hB0, c0, c1, c2⟩
  have y0 := behind_cell0 c0
  have y1 := behind_cell0 c1
  have y2 := behind_cell0 c2
  have hsome := Behind.any w0
  clear c0 c1 c2
  refine wp_region_behind w0 (by kernel_rfl) (by kernel_rfl) (Below.refl _ _) ?_
  repeat (go_big_quiet_step (first | (go_at_call 70; with_reducible first | exact behind_calls Cc1.out hT0 _) | (go_at_call 69; with_reducible first | exact behind_calls Cc2.out hT0 _)))
  refine wpQuiet_nil ?_
  rintro _ ⟨y, rfl⟩
  have hTy := hT0.behind y.below
  have hBy := bw_behind y.below hB0
  have x0 := y0 y
  have x1 := y1 y
  have x2 := y2 y
  clear hsome y0 y1 y2
  obtain ⟨w1, hw1⟩ : ∃ W, W = y.world := ⟨_, rfl⟩
  rw [← hw1] at hTy hBy x0 x1 x2 ⊢
  clear hw1 y hT0 hB0
  go_wp2
  refine bodyPost_ret (v := .int .i64 R) (by simp (maxDischargeDepth := 4) [results, Tryd.results32, go_sem, *]) rfl ?_
  refine ⟨rfl, ?_⟩
  repeat (first | with_reducible assumption | with_reducible exact Below.refl _ _ | with_reducible refine Below.drew ?_ | with_reducible refine below_drewN ?_ _ | with_reducible refine bw_alloc ?_ _ | (with_reducible refine bw_set ?_ ?_ _; focus (dsimp only; omega)) | (with_reducible apply bw_behind; with_reducible assumption))

theorem check_any (q : Bool) (m a : Nat) (k : Int) (n : Nat) (hm : m < 18446744073709551616) (ha : a < 18446744073709551616) (hn : n < 18446744073709551616) (w : World) (hT : Tabs w) :
    Calls Tryd.prog 32 #[.agg #[.bool (q), .int .u64 ((m : Nat) : Int), .int .u64 ((a : Nat) : Int)], .int .i64 k, .int .u64 ((n : Nat) : Int)] w (Makes (.int .i64 ((checkN q m a (needsN k) n : Nat) : Int)) w) := by
  have hl := needsN_lt k
  refine check_let _ _ _ _ _ _ _ (fun W hW => ?_) (fun W hW => fault_any q m a (needsN k) n hm ha (by omega) hn W hW.t) w hT
  rw [← needsN_eq]
  exact (needs_any k W hW.a).mono fun _ _ h => ⟨h.1, by rw [← h.2]; exact Below.refl _ _⟩

theorem bits_and {a b : Nat} (ha : a < 18446744073709551616) (hb : b < 18446744073709551616) : bits .and .u64 (a : Int) (b : Int) = ((a &&& b : Nat) : Int) := by
  obtain ⟨A, rfl⟩ := bv_of ha
  obtain ⟨B, rfl⟩ := bv_of hb
  rw [and_bv, BitVec.toNat_and]
theorem bit_all : ((List.range 512).all fun p => ((p &&& 64 == 64) && subN 64 p || (p &&& 64 == 0) && !subN 64 p) && ((p &&& 4 == 4) && subN 4 p || (p &&& 4 == 0) && !subN 4 p)) = true := by decide +kernel
theorem bit_six {p : Nat} (h : p < 512) : ((p &&& 64) = 64 ∧ subN 64 p = true) ∨ ((p &&& 64) = 0 ∧ subN 64 p = false) := by
  have := List.all_eq_true.1 bit_all p (List.mem_range.2 h)
  simp only [Bool.and_eq_true, Bool.or_eq_true, beq_iff_eq, Bool.not_eq_true'] at this
  exact this.1
theorem bit_two {p : Nat} (h : p < 512) : ((p &&& 4) = 4 ∧ subN 4 p = true) ∨ ((p &&& 4) = 0 ∧ subN 4 p = false) := by
  have := List.all_eq_true.1 bit_all p (List.mem_range.2 h)
  simp only [Bool.and_eq_true, Bool.or_eq_true, beq_iff_eq, Bool.not_eq_true'] at this
  exact this.2
theorem mP_lt (m : Nat) : mP m < 512 := by unfold mP; omega
theorem mK_lt (m : Nat) : mK m < 4096 := by unfold mK; omega
/-- Bound, whatever is asked: what comes of it has the Addr, and a tag only as it may. -/
theorem bound_any (q x : Bool) (m a n : Nat) (hm : m < 18446744073709551616) (ha : a < 18446744073709551616) (hn : n < 18446744073709551616) :
    (∃ e D U M, Bnd m a n e D U M ∧ ∀ W, Tab W → Calls Tryd.prog 15 #[.agg #[.bool (q), .int .u64 ((m : Nat) : Int), .int .u64 ((a : Nat) : Int)], .int .u64 ((n : Nat) : Int), .bool x] W (Makes (.agg #[.bool (bndQ q m a n x D U), .int .u64 ((M : Nat) : Int), .int .u64 ((a : Nat) : Int)]) W)) ∨
    (¬ (a < 281474976710656 ∧ a + n ≤ 281474976710656) ∧ ∀ W, Tab W → Calls Tryd.prog 15 #[.agg #[.bool (q), .int .u64 ((m : Nat) : Int), .int .u64 ((a : Nat) : Int)], .int .u64 ((n : Nat) : Int), .bool x] W (Makes (.agg #[.bool (false), .int .u64 ((m : Nat) : Int), .int .u64 ((a : Nat) : Int)]) W)) := by
  by_cases h : a < 281474976710656 ∧ a + n ≤ 281474976710656
  · obtain ⟨e, D, U, M, hb⟩ := bnd_ex m a n h
    exact .inl ⟨e, D, U, M, hb, fun W hW => bound_yes q x m a n e D U M hm hb W hW⟩
  · exact .inr ⟨h, fun W hW => bound_no q x m a n hm ha hn h W hW⟩
/-- Nothing is done with what is not open. -/
theorem bound_shut (q x : Bool) (m a n : Nat) (hm : m < 18446744073709551616) (ha : a < 18446744073709551616) (hn : n < 18446744073709551616) (h : openB q m a = false) :
    ∃ M : Nat, ∀ W, Tab W → Calls Tryd.prog 15 #[.agg #[.bool (q), .int .u64 ((m : Nat) : Int), .int .u64 ((a : Nat) : Int)], .int .u64 ((n : Nat) : Int), .bool x] W (Makes (.agg #[.bool (false), .int .u64 ((M : Nat) : Int), .int .u64 ((a : Nat) : Int)]) W) := by
  rcases bound_any q x m a n hm ha hn with ⟨e, D, U, M, hb, c⟩ | ⟨_, c⟩
  · refine ⟨M, fun W hW => ?_⟩
    have := c W hW
    rw [show bndQ q m a n x D U = false by unfold bndQ; rw [h, Bool.false_and]] at this
    exact this
  · exact ⟨m, c⟩
theorem addr_shut {q : Bool} {m a n : Nat} (h : openB q m a = false) : addrQ q m a n = false := by unfold addrQ; rw [h, Bool.false_and]
theorem enter_shut {q : Bool} {m a : Nat} (h : openB q m a = false) : enterQ q m a = false := by unfold enterQ; rw [h, Bool.false_and]
theorem seal_shut {q : Bool} {m a : Nat} {r : Bool} {n b : Nat} (h : openB q m a = false) : sealQ q m a r n b = false := by unfold sealQ; rw [h, Bool.false_and]
theorem open_typed {m a k : Nat} (h : mK m = k) (hk : k ≠ 0) : openB true m a = false := by
  unfold openB
  rw [decide_eq_false (by omega), Bool.and_false]
theorem check_typed {m a k p n : Nat} (hr : rightB m a = true) (h : mK m = k) (hk : k ≠ 0) : checkN true m a p n = 2 := by
  unfold checkN liveB
  rw [hr, decide_eq_false (show ¬ mK m = 0 by omega)]
  rfl
end Go.Proofs.YtbncoiejbclpjaaDoor
