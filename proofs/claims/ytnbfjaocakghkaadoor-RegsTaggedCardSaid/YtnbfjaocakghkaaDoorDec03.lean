/-
  What bounds.Decode and Near answer.
-/
import Derived.Test.YtnbfjaocakghkaaDoorCode03
namespace Go.Proofs.YtnbfjaocakghkaaDoor
open Go.RowKit Words FieldMath BoundsMath

/-- Decode's answer: the base, the top, and whether there is a span. -/
def lenN (b t e : Nat) : Nat := (t + 16384 - b) % 4096 + (if e = 0 then 0 else 4096)
def backN (b e a : Nat) : Nat := (a / 2 ^ (e - 1) + 4096 + 16384 - b) % 16384
def baseN (b e a : Nat) : Nat := a / 2 ^ (e - 1) + 4096 - backN b e a
def goodF (b t e a : Nat) : Prop := b < 16384 ∧ t < 4096 ∧ e ≤ 37 ∧ a < 281474976710656
def decOk (b t e a : Nat) : Prop := goodF b t e a ∧ backN b e a ≤ a / 2 ^ (e - 1) + 4096 ∧ (baseN b e a + lenN b t e) * 2 ^ (e - 1) ≤ 281474976710656

theorem eq_fields (D U E B T F : Int) : ∀ W, (Op.equalIn 10000 84 (.agg #[.int .u64 D, .int .u64 U, .int .u64 E]) (.agg #[.int .u64 B, .int .u64 T, .int .u64 F])).run Tryd.prog W = .ok (decide (D = B ∧ U = T ∧ E = F)) W := by
  intro W
  by_cases h1 : D = B <;> by_cases h2 : U = T <;> by_cases h3 : E = F <;> simp [go_sem, h1, h2, h3]
theorem behind_call {P : Program} {f : FuncId} {args : Array Value} {v : Value} {w0 : World} (c : ∀ W : World, Tab W → Calls P f args W (Makes v W)) (hT : Tab w0) (y : Behind w0.heap.size w0) :
    Calls P f args y.world fun e w'' => e = .returned v ∧ ∃ z : Behind w0.heap.size w0, w'' = z.world :=
  (c _ (hT.behind y.below)).mono fun _ _ ⟨he, hb⟩ => ⟨he, ⟨_, y.below.trans (hb.mono y.below.size)⟩, rfl⟩
theorem behind_reads {w0 : World} : ∀ (y : Behind w0.heap.size w0) b i, ltB b w0.heap.size = true → y.world.cell? ⟨b, i, none⟩ = w0.cell? ⟨b, i, none⟩ := fun y => below_reads y.below

set_option maxHeartbeats 2000000 in
theorem decode_low (b t e a : Nat) (hb : b < 18446744073709551616) (ht : t < 18446744073709551616) (he : e < 18446744073709551616) (hg : ¬ (b < 16384 ∧ t < 4096 ∧ e < 64)) (w : World) (hT : Tab w) :
    Calls Tryd.prog 41 #[.agg #[.int .u64 (b : Int), .int .u64 (t : Int), .int .u64 (e : Int)], .int .u64 (a : Int)] w
      (Makes (.tuple #[.agg #[.int .u64 0, .int .u64 0], .bool false]) w) := by
  have C1 := hide (fun W hW => word_any b t e hb ht he W hW)
  have C2 := hide (fun W hW => of_any (wordN b t e) (by have := word_lt b t e; omega) W hW)
  have EQ := eq_fields (b : Int) (t : Int) (e : Int) ((wordN b t e % 16384 : Nat) : Int) ((wordN b t e / 16384 % 4096 : Nat) : Int) ((wordN b t e / 67108864 % 64 : Nat) : Int)
  rw [show decide ((b : Int) = ((wordN b t e % 16384 : Nat) : Int) ∧ (t : Int) = ((wordN b t e / 16384 % 4096 : Nat) : Int) ∧ (e : Int) = ((wordN b t e / 67108864 % 64 : Nat) : Int)) = false from decide_eq_false (by omega)] at EQ
  generalize ((wordN b t e % 16384 : Nat) : Int) = GB at *
  generalize ((wordN b t e / 16384 % 4096 : Nat) : Int) = GT at *
  generalize ((wordN b t e / 67108864 % 64 : Nat) : Int) = GE at *
  generalize ((wordN b t e : Nat) : Int) = R at *
  generalize (b : Int) = B at *
  generalize (t : Int) = T at *
  generalize (e : Int) = E at *
  generalize (a : Int) = A at *
  clear hb ht he hg
  have SS := cell_same
  have LB' := ltB_add
  have LS := ltB_self
  have LA' := alloc_reads
  have LH := alloc_holds
  go_enter Tryd.func41, Tryd.ntmps41
  go_wp2
  have hsome := Behind.any ((w.alloc (.cells #[.int .u64 B, .int .u64 T, .int .u64 E] 84)).alloc (.cells #[.int .u64 0, .int .u64 0] 66))
  have hsome2 : Nonempty (Behind (w.heap.size + 1 + 1) ((w.alloc (.cells #[.int .u64 B, .int .u64 T, .int .u64 E] 84)).alloc (.cells #[.int .u64 0, .int .u64 0] 66))) := ⟨⟨_, Below.refl _ _⟩⟩
  have hY := @behind_reads ((w.alloc (.cells #[.int .u64 B, .int .u64 T, .int .u64 E] 84)).alloc (.cells #[.int .u64 0, .int .u64 0] 66))
  have hT2 : Tab ((w.alloc (.cells #[.int .u64 B, .int .u64 T, .int .u64 E] 84)).alloc (.cells #[.int .u64 0, .int .u64 0] 66)) := hT.behind (by repeat (first | with_reducible assumption | with_reducible exact Below.refl _ _ | with_reducible refine Below.drew ?_ | with_reducible refine below_drewN ?_ _ | with_reducible refine bw_alloc ?_ _ | (with_reducible refine bw_set ?_ ?_ _; focus (dsimp only; omega)) | (with_reducible apply bw_behind; with_reducible assumption)))
  refine wp_region_behind ((w.alloc (.cells #[.int .u64 B, .int .u64 T, .int .u64 E] 84)).alloc (.cells #[.int .u64 0, .int .u64 0] 66)) (by kernel_rfl) (by kernel_rfl) (Below.refl _ _) ?_
  repeat (go_big_quiet_step (first | (go_at_call 45; with_reducible exact behind_call C1.out hT2 _) | (go_at_call 42; with_reducible exact behind_call C2.out hT2 _)))
  refine wpQuiet_nil ?_
  rintro _ ⟨y, rfl⟩
  obtain ⟨w1, hb1, hy⟩ : ∃ W, Below ((w.alloc (.cells #[.int .u64 B, .int .u64 T, .int .u64 E] 84)).alloc (.cells #[.int .u64 0, .int .u64 0] 66)).heap.size ((w.alloc (.cells #[.int .u64 B, .int .u64 T, .int .u64 E] 84)).alloc (.cells #[.int .u64 0, .int .u64 0] 66)) W ∧ y.world = W := ⟨_, y.below, rfl⟩
  rw [hy]
  clear hy y hY hsome hsome2 hT2
  have hr1 := below_reads hb1
  have hh1 := below_holds hb1
  obtain ⟨m1, hs1⟩ := below_grew hb1
  go_wp2
  refine bodyPost_ret (v := .tuple #[.agg #[.int .u64 0, .int .u64 0], .bool false]) (by simp (maxDischargeDepth := 4) [results, Tryd.results41, go_sem, *]) rfl ?_
  refine ⟨rfl, ?_⟩
  repeat (first | with_reducible assumption | with_reducible exact Below.refl _ _ | with_reducible refine Below.drew ?_ | with_reducible refine below_drewN ?_ _ | with_reducible refine bw_alloc ?_ _ | (with_reducible refine bw_set ?_ ?_ _; focus (dsimp only; omega)) | (with_reducible apply bw_behind; with_reducible assumption))

theorem of_word (b t e : Nat) (hb : b < 16384) (ht : t < 4096) (he : e < 64) (W : World) (hT : Tab W) :
    Calls Tryd.prog 42 #[.int .u64 ((wordN b t e : Nat) : Int)] W (Makes (.agg #[.int .u64 (b : Int), .int .u64 (t : Int), .int .u64 (e : Int)]) W) := by
  have h := of_any (wordN b t e) (by have := word_lt b t e; omega) W hT
  rwa [show wordN b t e % 16384 = b by unfold wordN; omega, show wordN b t e / 16384 % 4096 = t by unfold wordN; omega, show wordN b t e / 67108864 % 64 = e by unfold wordN; omega] at h

set_option maxHeartbeats 2000000 in
theorem decode_e (b t e a : Nat) (hb : b < 16384) (ht : t < 4096) (hg : 38 ≤ e) (he : e < 64) (w : World) (hT : Tab w) :
    Calls Tryd.prog 41 #[.agg #[.int .u64 (b : Int), .int .u64 (t : Int), .int .u64 (e : Int)], .int .u64 (a : Int)] w
      (Makes (.tuple #[.agg #[.int .u64 0, .int .u64 0], .bool false]) w) := by
  have C1 := hide (fun W hW => word_any b t e (by omega) (by omega) (by omega) W hW)
  have C2 := hide (fun W hW => of_word b t e hb ht (by omega) W hW)
  have EQ := eq_fields (b : Int) (t : Int) (e : Int) (b : Int) (t : Int) (e : Int)
  rw [decide_eq_true ⟨rfl, rfl, rfl⟩] at EQ
  have hE : decide (37 < (e : Int)) = true := decide_eq_true (by omega)
  generalize ((wordN b t e : Nat) : Int) = R at *
  generalize (b : Int) = B at *
  generalize (t : Int) = T at *
  generalize (e : Int) = E at *
  generalize (a : Int) = A at *
  clear hb ht he hg
  have SS := cell_same
  have LB' := ltB_add
  have LS := ltB_self
  have LA' := alloc_reads
  have LH := alloc_holds
  go_enter Tryd.func41, Tryd.ntmps41
  go_wp2
  have hsome := Behind.any ((w.alloc (.cells #[.int .u64 B, .int .u64 T, .int .u64 E] 84)).alloc (.cells #[.int .u64 0, .int .u64 0] 66))
  have hsome2 : Nonempty (Behind (w.heap.size + 1 + 1) ((w.alloc (.cells #[.int .u64 B, .int .u64 T, .int .u64 E] 84)).alloc (.cells #[.int .u64 0, .int .u64 0] 66))) := ⟨⟨_, Below.refl _ _⟩⟩
  have hY := @behind_reads ((w.alloc (.cells #[.int .u64 B, .int .u64 T, .int .u64 E] 84)).alloc (.cells #[.int .u64 0, .int .u64 0] 66))
  have hT2 : Tab ((w.alloc (.cells #[.int .u64 B, .int .u64 T, .int .u64 E] 84)).alloc (.cells #[.int .u64 0, .int .u64 0] 66)) := hT.behind (by repeat (first | with_reducible assumption | with_reducible exact Below.refl _ _ | with_reducible refine Below.drew ?_ | with_reducible refine below_drewN ?_ _ | with_reducible refine bw_alloc ?_ _ | (with_reducible refine bw_set ?_ ?_ _; focus (dsimp only; omega)) | (with_reducible apply bw_behind; with_reducible assumption)))
  refine wp_region_behind ((w.alloc (.cells #[.int .u64 B, .int .u64 T, .int .u64 E] 84)).alloc (.cells #[.int .u64 0, .int .u64 0] 66)) (by kernel_rfl) (by kernel_rfl) (Below.refl _ _) ?_
  repeat (go_big_quiet_step (first | (go_at_call 45; with_reducible exact behind_call C1.out hT2 _) | (go_at_call 42; with_reducible exact behind_call C2.out hT2 _)))
  refine wpQuiet_nil ?_
  rintro _ ⟨y, rfl⟩
  obtain ⟨w1, hb1, hy⟩ : ∃ W, Below ((w.alloc (.cells #[.int .u64 B, .int .u64 T, .int .u64 E] 84)).alloc (.cells #[.int .u64 0, .int .u64 0] 66)).heap.size ((w.alloc (.cells #[.int .u64 B, .int .u64 T, .int .u64 E] 84)).alloc (.cells #[.int .u64 0, .int .u64 0] 66)) W ∧ y.world = W := ⟨_, y.below, rfl⟩
  rw [hy]
  clear hy y hY hsome hsome2 hT2
  have hr1 := below_reads hb1
  have hh1 := below_holds hb1
  obtain ⟨m1, hs1⟩ := below_grew hb1
  go_wp2
  refine bodyPost_ret (v := .tuple #[.agg #[.int .u64 0, .int .u64 0], .bool false]) (by simp (maxDischargeDepth := 4) [results, Tryd.results41, go_sem, *]) rfl ?_
  refine ⟨rfl, ?_⟩
  repeat (first | with_reducible assumption | with_reducible exact Below.refl _ _ | with_reducible refine Below.drew ?_ | with_reducible refine below_drewN ?_ _ | with_reducible refine bw_alloc ?_ _ | (with_reducible refine bw_set ?_ ?_ _; focus (dsimp only; omega)) | (with_reducible apply bw_behind; with_reducible assumption))

set_option maxHeartbeats 2000000 in
theorem decode_a (b t e a : Nat) (hb : b < 16384) (ht : t < 4096) (he : e ≤ 37) (hg : 281474976710656 ≤ a) (w : World) (hT : Tab w) :
    Calls Tryd.prog 41 #[.agg #[.int .u64 (b : Int), .int .u64 (t : Int), .int .u64 (e : Int)], .int .u64 (a : Int)] w
      (Makes (.tuple #[.agg #[.int .u64 0, .int .u64 0], .bool false]) w) := by
  have C1 := hide (fun W hW => word_any b t e (by omega) (by omega) (by omega) W hW)
  have C2 := hide (fun W hW => of_word b t e hb ht (by omega) W hW)
  have EQ := eq_fields (b : Int) (t : Int) (e : Int) (b : Int) (t : Int) (e : Int)
  rw [decide_eq_true ⟨rfl, rfl, rfl⟩] at EQ
  have hE : decide (37 < (e : Int)) = false := decide_eq_false (by omega)
  have hA : decide (281474976710656 ≤ (a : Int)) = true := decide_eq_true (by omega)
  generalize ((wordN b t e : Nat) : Int) = R at *
  generalize (b : Int) = B at *
  generalize (t : Int) = T at *
  generalize (e : Int) = E at *
  generalize (a : Int) = A at *
  clear hb ht he hg
  have SS := cell_same
  have LB' := ltB_add
  have LS := ltB_self
  have LA' := alloc_reads
  have LH := alloc_holds
  go_enter Tryd.func41, Tryd.ntmps41
  go_wp2
  have hsome := Behind.any ((w.alloc (.cells #[.int .u64 B, .int .u64 T, .int .u64 E] 84)).alloc (.cells #[.int .u64 0, .int .u64 0] 66))
  have hsome2 : Nonempty (Behind (w.heap.size + 1 + 1) ((w.alloc (.cells #[.int .u64 B, .int .u64 T, .int .u64 E] 84)).alloc (.cells #[.int .u64 0, .int .u64 0] 66))) := ⟨⟨_, Below.refl _ _⟩⟩
  have hY := @behind_reads ((w.alloc (.cells #[.int .u64 B, .int .u64 T, .int .u64 E] 84)).alloc (.cells #[.int .u64 0, .int .u64 0] 66))
  have hT2 : Tab ((w.alloc (.cells #[.int .u64 B, .int .u64 T, .int .u64 E] 84)).alloc (.cells #[.int .u64 0, .int .u64 0] 66)) := hT.behind (by repeat (first | with_reducible assumption | with_reducible exact Below.refl _ _ | with_reducible refine Below.drew ?_ | with_reducible refine below_drewN ?_ _ | with_reducible refine bw_alloc ?_ _ | (with_reducible refine bw_set ?_ ?_ _; focus (dsimp only; omega)) | (with_reducible apply bw_behind; with_reducible assumption)))
  refine wp_region_behind ((w.alloc (.cells #[.int .u64 B, .int .u64 T, .int .u64 E] 84)).alloc (.cells #[.int .u64 0, .int .u64 0] 66)) (by kernel_rfl) (by kernel_rfl) (Below.refl _ _) ?_
  repeat (go_big_quiet_step (first | (go_at_call 45; with_reducible exact behind_call C1.out hT2 _) | (go_at_call 42; with_reducible exact behind_call C2.out hT2 _)))
  refine wpQuiet_nil ?_
  rintro _ ⟨y, rfl⟩
  obtain ⟨w1, hb1, hy⟩ : ∃ W, Below ((w.alloc (.cells #[.int .u64 B, .int .u64 T, .int .u64 E] 84)).alloc (.cells #[.int .u64 0, .int .u64 0] 66)).heap.size ((w.alloc (.cells #[.int .u64 B, .int .u64 T, .int .u64 E] 84)).alloc (.cells #[.int .u64 0, .int .u64 0] 66)) W ∧ y.world = W := ⟨_, y.below, rfl⟩
  rw [hy]
  clear hy y hY hsome hsome2 hT2
  have hr1 := below_reads hb1
  have hh1 := below_holds hb1
  obtain ⟨m1, hs1⟩ := below_grew hb1
  go_wp2
  refine bodyPost_ret (v := .tuple #[.agg #[.int .u64 0, .int .u64 0], .bool false]) (by simp (maxDischargeDepth := 4) [results, Tryd.results41, go_sem, *]) rfl ?_
  refine ⟨rfl, ?_⟩
  repeat (first | with_reducible assumption | with_reducible exact Below.refl _ _ | with_reducible refine Below.drew ?_ | with_reducible refine below_drewN ?_ _ | with_reducible refine bw_alloc ?_ _ | (with_reducible refine bw_set ?_ ?_ _; focus (dsimp only; omega)) | (with_reducible apply bw_behind; with_reducible assumption))

/-- The calls of Decode behind its tests, and what comes of them. -/
structure DecMet (b t e a : Nat) (B T E A R TB L0 L AQ LA LB K BS BL RB RT X : Int) : Prop where
  word : ∀ W, Tab W → Calls Tryd.prog 45 #[.agg #[.int .u64 B, .int .u64 T, .int .u64 E]] W (Makes (.int .u64 R) W)
  of : ∀ W, Tab W → Calls Tryd.prog 42 #[.int .u64 R] W (Makes (.agg #[.int .u64 B, .int .u64 T, .int .u64 E]) W)
  exp : ∀ W, Calls Tryd.prog 46 #[.int .u64 E] W (Quiet (.int .i64 X) W)
  low1 : ∀ W, Tab W → Calls Tryd.prog 47 #[.int .u64 TB, .int .i64 1] W (Quiet (.int .u64 L0) W)
  low0 : ∀ W, Tab W → Calls Tryd.prog 47 #[.int .u64 LB, .int .i64 0] W (Quiet (.int .u64 K) W)
  bigE : decide (37 < E) = false
  bigA : decide (281474976710656 ≤ A) = false
  tb : IntKind.u64.wrap (T - B) = TB
  x0 : 0 ≤ X
  x64 : X ≤ 64
  aq : A / 2 ^ X.toNat = AQ
  la : IntKind.u64.wrap (AQ + 4096) = LA
  lb : IntKind.u64.wrap (LA - B) = LB
  bs : IntKind.u64.wrap (LA - K) = BS
  rb : IntKind.u64.wrap (BS * 2 ^ X.toNat) = RB
  bl : IntKind.u64.wrap (BS + L) = BL
  rt : IntKind.u64.wrap (BL * 2 ^ X.toNat) = RT
  eb : B = (b : Int)
  et : T = (t : Int)
  ee : E = (e : Int)
  ea : A = (a : Int)
  back : LA < K ↔ ¬ backN b e a ≤ a / 2 ^ (e - 1) + 4096
  zero : e = 0 → L = L0
  more : e ≠ 0 → IntKind.u64.wrap (L0 + 4096) = L
  base : backN b e a ≤ a / 2 ^ (e - 1) + 4096 → RB = ((baseN b e a * 2 ^ (e - 1) : Nat) : Int) ∧ RT = (((baseN b e a + lenN b t e) * 2 ^ (e - 1) : Nat) : Int)

theorem dec_met (b t e a : Nat) (h : goodF b t e a) : ∃ B T E A R TB L0 L AQ LA LB K BS BL RB RT X, DecMet b t e a B T E A R TB L0 L AQ LA LB K BS BL RB RT X := by
  obtain ⟨hb, ht, he, ha⟩ := h
  have hq : a / 2 ^ (e - 1) ≤ a := Nat.div_le_self _ _
  have hqx : a / 2 ^ (e - 1) * 2 ^ (e - 1) ≤ a := Nat.div_mul_le_self _ _
  have hp : 2 ^ (e - 1) ≤ 2 ^ 36 := Nat.pow_le_pow_right (by decide) (by omega)
  have hpos := Nat.two_pow_pos (e - 1)
  obtain ⟨q, hqe⟩ : ∃ q, a / 2 ^ (e - 1) = q := ⟨_, rfl⟩
  have hw := fun n : Int => IntKind.wrap_u64 n
  have hbk : backN b e a = (q + 4096 + 16384 - b) % 16384 := by unfold backN; rw [hqe]
  have hl := lowest_any (((t + 18446744073709551616 - b) % 18446744073709551616)) 1 (by omega) (by omega)
  have hl0 := lowest_any ((q + 4096 + 18446744073709551616 - b) % 18446744073709551616) 0 (by omega) (by omega)
  rw [show (t + 18446744073709551616 - b) % 18446744073709551616 % 2 ^ wid 1 = (t + 16384 - b) % 4096 by show _ % 2 ^ 12 = _; omega] at hl
  rw [show (q + 4096 + 18446744073709551616 - b) % 18446744073709551616 % 2 ^ wid 0 = backN b e a by rw [hbk]; show _ % 2 ^ 14 = _; omega] at hl0
  refine ⟨b, t, e, a, ((wordN b t e : Nat) : Int), (((t + 18446744073709551616 - b) % 18446744073709551616 : Nat) : Int), (((t + 16384 - b) % 4096 : Nat) : Int), ((lenN b t e : Nat) : Int), (q : Int), ((q + 4096 : Nat) : Int),
    (((q + 4096 + 18446744073709551616 - b) % 18446744073709551616 : Nat) : Int), ((backN b e a : Nat) : Int), _, _, _, _, ((e - 1 : Nat) : Int),
    ⟨fun W hW => word_any b t e (by omega) (by omega) (by omega) W hW, fun W hW => of_word b t e hb ht (by omega) W hW, fun W => exponent_any e (by omega) W, hl, hl0,
      decide_eq_false (by omega), decide_eq_false (by omega), by rw [hw]; omega, by omega, by omega, ?_, by rw [hw]; omega, by rw [hw]; omega, rfl, rfl, rfl, rfl, rfl, rfl, rfl, rfl, by rw [hqe]; omega, ?_, ?_, ?_⟩⟩
  · rw [← hqe]; simp
  · intro h0; unfold lenN; rw [if_pos h0]; omega
  · intro h0; unfold lenN; rw [if_neg h0, hw]; omega
  · intro hk
    rw [hqe] at hk
    have hB : IntKind.u64.wrap (((q + 4096 : Nat) : Int) - ((backN b e a : Nat) : Int)) = ((baseN b e a : Nat) : Int) := by
      rw [hw]; unfold baseN; rw [hqe]; omega
    have hbase : baseN b e a ≤ q + 4096 := by unfold baseN; rw [hqe]; omega
    have hlen : lenN b t e ≤ 8191 := by unfold lenN; split <;> omega
    have hqp : q * 2 ^ (e - 1) ≤ a := by rw [← hqe]; exact hqx
    have m1 : (baseN b e a + lenN b t e) * 2 ^ (e - 1) ≤ (q + 12287) * 2 ^ (e - 1) := Nat.mul_le_mul_right _ (by omega)
    have m2 : (q + 12287) * 2 ^ (e - 1) = q * 2 ^ (e - 1) + 12287 * 2 ^ (e - 1) := Nat.add_mul _ _ _
    have m3 : baseN b e a * 2 ^ (e - 1) ≤ (baseN b e a + lenN b t e) * 2 ^ (e - 1) := Nat.mul_le_mul_right _ (by omega)
    have hBL : IntKind.u64.wrap (((baseN b e a : Nat) : Int) + ((lenN b t e : Nat) : Int)) = ((baseN b e a + lenN b t e : Nat) : Int) := by rw [hw]; omega
    have c1 : ((baseN b e a : Nat) : Int) * 2 ^ ((e - 1 : Nat) : Int).toNat = ((baseN b e a * 2 ^ (e - 1) : Nat) : Int) := by simp
    have c2 : ((baseN b e a + lenN b t e : Nat) : Int) * 2 ^ ((e - 1 : Nat) : Int).toNat = (((baseN b e a + lenN b t e) * 2 ^ (e - 1) : Nat) : Int) := by simp
    rw [hB, hBL, c1, c2, hw, hw]
    omega

set_option maxHeartbeats 2000000 in
theorem walk_back0 (b t e a : Nat) (B T A R TB L0 AQ LA LB K BS BL RB RT X : Int) (hm : DecMet b t e a B T 0 A R TB L0 L0 AQ LA LB K BS BL RB RT X) (f0 : decide (LA < K) = true) (w : World) (hT : Tab w) :
    Calls Tryd.prog 41 #[.agg #[.int .u64 B, .int .u64 T, .int .u64 0], .int .u64 A] w
      (Makes (.tuple #[.agg #[.int .u64 0, .int .u64 0], .bool false]) w) := by
  have CM := hide hm
  have EQ := eq_fields B T 0 B T 0
  rw [decide_eq_true ⟨rfl, rfl, rfl⟩] at EQ
  have g1 := hm.bigE
  have g2 := hm.bigA
  have g3 := hm.tb
  have g4 := hm.x0
  have g5 := hm.x64
  have g6 := hm.aq
  have g7 := hm.la
  have g8 := hm.lb
  have g9 := hm.bs
  have g10 := hm.rb
  have g11 := hm.bl
  have g12 := hm.rt
  clear hm
  have SS := cell_same
  have LB' := ltB_add
  have LS := ltB_self
  have LA' := alloc_reads
  have LH := alloc_holds
  go_enter Tryd.func41, Tryd.ntmps41
  go_wp2
  have hsome := Behind.any ((w.alloc (.cells #[.int .u64 B, .int .u64 T, .int .u64 0] 84)).alloc (.cells #[.int .u64 0, .int .u64 0] 66))
  have hsome2 : Nonempty (Behind (w.heap.size + 1 + 1) ((w.alloc (.cells #[.int .u64 B, .int .u64 T, .int .u64 0] 84)).alloc (.cells #[.int .u64 0, .int .u64 0] 66))) := ⟨⟨_, Below.refl _ _⟩⟩
  have hY := @behind_reads ((w.alloc (.cells #[.int .u64 B, .int .u64 T, .int .u64 0] 84)).alloc (.cells #[.int .u64 0, .int .u64 0] 66))
  have hT2 : Tab ((w.alloc (.cells #[.int .u64 B, .int .u64 T, .int .u64 0] 84)).alloc (.cells #[.int .u64 0, .int .u64 0] 66)) := hT.behind (by repeat (first | with_reducible assumption | with_reducible exact Below.refl _ _ | with_reducible refine Below.drew ?_ | with_reducible refine below_drewN ?_ _ | with_reducible refine bw_alloc ?_ _ | (with_reducible refine bw_set ?_ ?_ _; focus (dsimp only; omega)) | (with_reducible apply bw_behind; with_reducible assumption)))
  refine wp_region_behind ((w.alloc (.cells #[.int .u64 B, .int .u64 T, .int .u64 0] 84)).alloc (.cells #[.int .u64 0, .int .u64 0] 66)) (by kernel_rfl) (by kernel_rfl) (Below.refl _ _) ?_
  repeat (go_big_quiet_step (first | (go_at_call 45; with_reducible exact behind_call CM.out.word hT2 _) | (go_at_call 42; with_reducible exact behind_call CM.out.of hT2 _)))
  refine wpQuiet_nil ?_
  rintro _ ⟨y, rfl⟩
  obtain ⟨w1, hb1, hy⟩ : ∃ W, Below ((w.alloc (.cells #[.int .u64 B, .int .u64 T, .int .u64 0] 84)).alloc (.cells #[.int .u64 0, .int .u64 0] 66)).heap.size ((w.alloc (.cells #[.int .u64 B, .int .u64 T, .int .u64 0] 84)).alloc (.cells #[.int .u64 0, .int .u64 0] 66)) W ∧ y.world = W := ⟨_, y.below, rfl⟩
  rw [hy]
  clear hy y hY hsome hsome2 hT2
  have hr1 := below_reads hb1
  have hh1 := below_holds hb1
  obtain ⟨m1, hs1⟩ := below_grew hb1
  go_wp2_with (first | (go_at_call 46; (with_reducible refine (CM.out.exp _).mono ?_); rintro e w' ⟨rfl, n1, rfl⟩) | (go_at_call 47; (with_reducible first | refine (CM.out.low1 _ ?_).mono ?_ | refine (CM.out.low0 _ ?_).mono ?_); (refine hT.behind ?_; repeat (first | with_reducible assumption | with_reducible exact Below.refl _ _ | with_reducible refine Below.drew ?_ | with_reducible refine below_drewN ?_ _ | with_reducible refine bw_alloc ?_ _ | (with_reducible refine bw_set ?_ ?_ _; focus (dsimp only; omega)) | (with_reducible apply bw_behind; with_reducible assumption))); rintro e w' ⟨rfl, n1, rfl⟩))
  refine bodyPost_ret (v := .tuple #[.agg #[.int .u64 0, .int .u64 0], .bool false]) (by simp (maxDischargeDepth := 4) [results, Tryd.results41, go_sem, *]) rfl ?_
  refine ⟨rfl, ?_⟩
  repeat (first | with_reducible assumption | with_reducible exact Below.refl _ _ | with_reducible refine Below.drew ?_ | with_reducible refine below_drewN ?_ _ | with_reducible refine bw_alloc ?_ _ | (with_reducible refine bw_set ?_ ?_ _; focus (dsimp only; omega)) | (with_reducible apply bw_behind; with_reducible assumption))

set_option maxHeartbeats 2000000 in
theorem walk_top0 (b t e a : Nat) (B T A R TB L0 AQ LA LB K BS BL RB RT X : Int) (hm : DecMet b t e a B T 0 A R TB L0 L0 AQ LA LB K BS BL RB RT X) (f0 : decide (LA < K) = false) (f1 : decide (281474976710656 < RT) = true) (w : World) (hT : Tab w) :
    Calls Tryd.prog 41 #[.agg #[.int .u64 B, .int .u64 T, .int .u64 0], .int .u64 A] w
      (Makes (.tuple #[.agg #[.int .u64 0, .int .u64 0], .bool false]) w) := by
  have CM := hide hm
  have EQ := eq_fields B T 0 B T 0
  rw [decide_eq_true ⟨rfl, rfl, rfl⟩] at EQ
  have g1 := hm.bigE
  have g2 := hm.bigA
  have g3 := hm.tb
  have g4 := hm.x0
  have g5 := hm.x64
  have g6 := hm.aq
  have g7 := hm.la
  have g8 := hm.lb
  have g9 := hm.bs
  have g10 := hm.rb
  have g11 := hm.bl
  have g12 := hm.rt
  clear hm
  have SS := cell_same
  have LB' := ltB_add
  have LS := ltB_self
  have LA' := alloc_reads
  have LH := alloc_holds
  go_enter Tryd.func41, Tryd.ntmps41
  go_wp2
  have hsome := Behind.any ((w.alloc (.cells #[.int .u64 B, .int .u64 T, .int .u64 0] 84)).alloc (.cells #[.int .u64 0, .int .u64 0] 66))
  have hsome2 : Nonempty (Behind (w.heap.size + 1 + 1) ((w.alloc (.cells #[.int .u64 B, .int .u64 T, .int .u64 0] 84)).alloc (.cells #[.int .u64 0, .int .u64 0] 66))) := ⟨⟨_, Below.refl _ _⟩⟩
  have hY := @behind_reads ((w.alloc (.cells #[.int .u64 B, .int .u64 T, .int .u64 0] 84)).alloc (.cells #[.int .u64 0, .int .u64 0] 66))
  have hT2 : Tab ((w.alloc (.cells #[.int .u64 B, .int .u64 T, .int .u64 0] 84)).alloc (.cells #[.int .u64 0, .int .u64 0] 66)) := hT.behind (by repeat (first | with_reducible assumption | with_reducible exact Below.refl _ _ | with_reducible refine Below.drew ?_ | with_reducible refine below_drewN ?_ _ | with_reducible refine bw_alloc ?_ _ | (with_reducible refine bw_set ?_ ?_ _; focus (dsimp only; omega)) | (with_reducible apply bw_behind; with_reducible assumption)))
  refine wp_region_behind ((w.alloc (.cells #[.int .u64 B, .int .u64 T, .int .u64 0] 84)).alloc (.cells #[.int .u64 0, .int .u64 0] 66)) (by kernel_rfl) (by kernel_rfl) (Below.refl _ _) ?_
  repeat (go_big_quiet_step (first | (go_at_call 45; with_reducible exact behind_call CM.out.word hT2 _) | (go_at_call 42; with_reducible exact behind_call CM.out.of hT2 _)))
  refine wpQuiet_nil ?_
  rintro _ ⟨y, rfl⟩
  obtain ⟨w1, hb1, hy⟩ : ∃ W, Below ((w.alloc (.cells #[.int .u64 B, .int .u64 T, .int .u64 0] 84)).alloc (.cells #[.int .u64 0, .int .u64 0] 66)).heap.size ((w.alloc (.cells #[.int .u64 B, .int .u64 T, .int .u64 0] 84)).alloc (.cells #[.int .u64 0, .int .u64 0] 66)) W ∧ y.world = W := ⟨_, y.below, rfl⟩
  rw [hy]
  clear hy y hY hsome hsome2 hT2
  have hr1 := below_reads hb1
  have hh1 := below_holds hb1
  obtain ⟨m1, hs1⟩ := below_grew hb1
  go_wp2_with (first | (go_at_call 46; (with_reducible refine (CM.out.exp _).mono ?_); rintro e w' ⟨rfl, n1, rfl⟩) | (go_at_call 47; (with_reducible first | refine (CM.out.low1 _ ?_).mono ?_ | refine (CM.out.low0 _ ?_).mono ?_); (refine hT.behind ?_; repeat (first | with_reducible assumption | with_reducible exact Below.refl _ _ | with_reducible refine Below.drew ?_ | with_reducible refine below_drewN ?_ _ | with_reducible refine bw_alloc ?_ _ | (with_reducible refine bw_set ?_ ?_ _; focus (dsimp only; omega)) | (with_reducible apply bw_behind; with_reducible assumption))); rintro e w' ⟨rfl, n1, rfl⟩))
  go_region
  go_wp2
  refine bodyPost_ret (v := .tuple #[.agg #[.int .u64 0, .int .u64 0], .bool false]) (by simp (maxDischargeDepth := 4) [results, Tryd.results41, go_sem, *]) rfl ?_
  refine ⟨rfl, ?_⟩
  repeat (first | with_reducible assumption | with_reducible exact Below.refl _ _ | with_reducible refine Below.drew ?_ | with_reducible refine below_drewN ?_ _ | with_reducible refine bw_alloc ?_ _ | (with_reducible refine bw_set ?_ ?_ _; focus (dsimp only; omega)) | (with_reducible apply bw_behind; with_reducible assumption))

set_option maxHeartbeats 2000000 in
theorem walk_ok0 (b t e a : Nat) (B T A R TB L0 AQ LA LB K BS BL RB RT X : Int) (hm : DecMet b t e a B T 0 A R TB L0 L0 AQ LA LB K BS BL RB RT X) (f0 : decide (LA < K) = false) (f1 : decide (281474976710656 < RT) = false) (w : World) (hT : Tab w) :
    Calls Tryd.prog 41 #[.agg #[.int .u64 B, .int .u64 T, .int .u64 0], .int .u64 A] w
      (Makes (.tuple #[.agg #[.int .u64 RB, .int .u64 RT], .bool true]) w) := by
  have CM := hide hm
  have EQ := eq_fields B T 0 B T 0
  rw [decide_eq_true ⟨rfl, rfl, rfl⟩] at EQ
  have g1 := hm.bigE
  have g2 := hm.bigA
  have g3 := hm.tb
  have g4 := hm.x0
  have g5 := hm.x64
  have g6 := hm.aq
  have g7 := hm.la
  have g8 := hm.lb
  have g9 := hm.bs
  have g10 := hm.rb
  have g11 := hm.bl
  have g12 := hm.rt
  clear hm
  have SS := cell_same
  have LB' := ltB_add
  have LS := ltB_self
  have LA' := alloc_reads
  have LH := alloc_holds
  go_enter Tryd.func41, Tryd.ntmps41
  go_wp2
  have hsome := Behind.any ((w.alloc (.cells #[.int .u64 B, .int .u64 T, .int .u64 0] 84)).alloc (.cells #[.int .u64 0, .int .u64 0] 66))
  have hsome2 : Nonempty (Behind (w.heap.size + 1 + 1) ((w.alloc (.cells #[.int .u64 B, .int .u64 T, .int .u64 0] 84)).alloc (.cells #[.int .u64 0, .int .u64 0] 66))) := ⟨⟨_, Below.refl _ _⟩⟩
  have hY := @behind_reads ((w.alloc (.cells #[.int .u64 B, .int .u64 T, .int .u64 0] 84)).alloc (.cells #[.int .u64 0, .int .u64 0] 66))
  have hT2 : Tab ((w.alloc (.cells #[.int .u64 B, .int .u64 T, .int .u64 0] 84)).alloc (.cells #[.int .u64 0, .int .u64 0] 66)) := hT.behind (by repeat (first | with_reducible assumption | with_reducible exact Below.refl _ _ | with_reducible refine Below.drew ?_ | with_reducible refine below_drewN ?_ _ | with_reducible refine bw_alloc ?_ _ | (with_reducible refine bw_set ?_ ?_ _; focus (dsimp only; omega)) | (with_reducible apply bw_behind; with_reducible assumption)))
  refine wp_region_behind ((w.alloc (.cells #[.int .u64 B, .int .u64 T, .int .u64 0] 84)).alloc (.cells #[.int .u64 0, .int .u64 0] 66)) (by kernel_rfl) (by kernel_rfl) (Below.refl _ _) ?_
  repeat (go_big_quiet_step (first | (go_at_call 45; with_reducible exact behind_call CM.out.word hT2 _) | (go_at_call 42; with_reducible exact behind_call CM.out.of hT2 _)))
  refine wpQuiet_nil ?_
  rintro _ ⟨y, rfl⟩
  obtain ⟨w1, hb1, hy⟩ : ∃ W, Below ((w.alloc (.cells #[.int .u64 B, .int .u64 T, .int .u64 0] 84)).alloc (.cells #[.int .u64 0, .int .u64 0] 66)).heap.size ((w.alloc (.cells #[.int .u64 B, .int .u64 T, .int .u64 0] 84)).alloc (.cells #[.int .u64 0, .int .u64 0] 66)) W ∧ y.world = W := ⟨_, y.below, rfl⟩
  rw [hy]
  clear hy y hY hsome hsome2 hT2
  have hr1 := below_reads hb1
  have hh1 := below_holds hb1
  obtain ⟨m1, hs1⟩ := below_grew hb1
  go_wp2_with (first | (go_at_call 46; (with_reducible refine (CM.out.exp _).mono ?_); rintro e w' ⟨rfl, n1, rfl⟩) | (go_at_call 47; (with_reducible first | refine (CM.out.low1 _ ?_).mono ?_ | refine (CM.out.low0 _ ?_).mono ?_); (refine hT.behind ?_; repeat (first | with_reducible assumption | with_reducible exact Below.refl _ _ | with_reducible refine Below.drew ?_ | with_reducible refine below_drewN ?_ _ | with_reducible refine bw_alloc ?_ _ | (with_reducible refine bw_set ?_ ?_ _; focus (dsimp only; omega)) | (with_reducible apply bw_behind; with_reducible assumption))); rintro e w' ⟨rfl, n1, rfl⟩))
  go_region
  go_wp2
  refine bodyPost_ret (v := .tuple #[.agg #[.int .u64 RB, .int .u64 RT], .bool true]) (by simp (maxDischargeDepth := 4) [results, Tryd.results41, go_sem, *]) rfl ?_
  refine ⟨rfl, ?_⟩
  repeat (first | with_reducible assumption | with_reducible exact Below.refl _ _ | with_reducible refine Below.drew ?_ | with_reducible refine below_drewN ?_ _ | with_reducible refine bw_alloc ?_ _ | (with_reducible refine bw_set ?_ ?_ _; focus (dsimp only; omega)) | (with_reducible apply bw_behind; with_reducible assumption))

set_option maxHeartbeats 2000000 in
theorem walk_back (b t e a : Nat) (B T E A R TB L0 L AQ LA LB K BS BL RB RT X : Int) (hm : DecMet b t e a B T E A R TB L0 L AQ LA LB K BS BL RB RT X) (f0 : decide (LA < K) = true) (hE : ¬ E = 0) (hL : IntKind.u64.wrap (L0 + 4096) = L) (w : World) (hT : Tab w) :
    Calls Tryd.prog 41 #[.agg #[.int .u64 B, .int .u64 T, .int .u64 E], .int .u64 A] w
      (Makes (.tuple #[.agg #[.int .u64 0, .int .u64 0], .bool false]) w) := by
  have CM := hide hm
  have EQ := eq_fields B T E B T E
  rw [decide_eq_true ⟨rfl, rfl, rfl⟩] at EQ
  have g1 := hm.bigE
  have g2 := hm.bigA
  have g3 := hm.tb
  have g4 := hm.x0
  have g5 := hm.x64
  have g6 := hm.aq
  have g7 := hm.la
  have g8 := hm.lb
  have g9 := hm.bs
  have g10 := hm.rb
  have g11 := hm.bl
  have g12 := hm.rt
  clear hm
  have SS := cell_same
  have LB' := ltB_add
  have LS := ltB_self
  have LA' := alloc_reads
  have LH := alloc_holds
  go_enter Tryd.func41, Tryd.ntmps41
  go_wp2
  have hsome := Behind.any ((w.alloc (.cells #[.int .u64 B, .int .u64 T, .int .u64 E] 84)).alloc (.cells #[.int .u64 0, .int .u64 0] 66))
  have hsome2 : Nonempty (Behind (w.heap.size + 1 + 1) ((w.alloc (.cells #[.int .u64 B, .int .u64 T, .int .u64 E] 84)).alloc (.cells #[.int .u64 0, .int .u64 0] 66))) := ⟨⟨_, Below.refl _ _⟩⟩
  have hY := @behind_reads ((w.alloc (.cells #[.int .u64 B, .int .u64 T, .int .u64 E] 84)).alloc (.cells #[.int .u64 0, .int .u64 0] 66))
  have hT2 : Tab ((w.alloc (.cells #[.int .u64 B, .int .u64 T, .int .u64 E] 84)).alloc (.cells #[.int .u64 0, .int .u64 0] 66)) := hT.behind (by repeat (first | with_reducible assumption | with_reducible exact Below.refl _ _ | with_reducible refine Below.drew ?_ | with_reducible refine below_drewN ?_ _ | with_reducible refine bw_alloc ?_ _ | (with_reducible refine bw_set ?_ ?_ _; focus (dsimp only; omega)) | (with_reducible apply bw_behind; with_reducible assumption)))
  refine wp_region_behind ((w.alloc (.cells #[.int .u64 B, .int .u64 T, .int .u64 E] 84)).alloc (.cells #[.int .u64 0, .int .u64 0] 66)) (by kernel_rfl) (by kernel_rfl) (Below.refl _ _) ?_
  repeat (go_big_quiet_step (first | (go_at_call 45; with_reducible exact behind_call CM.out.word hT2 _) | (go_at_call 42; with_reducible exact behind_call CM.out.of hT2 _)))
  refine wpQuiet_nil ?_
  rintro _ ⟨y, rfl⟩
  obtain ⟨w1, hb1, hy⟩ : ∃ W, Below ((w.alloc (.cells #[.int .u64 B, .int .u64 T, .int .u64 E] 84)).alloc (.cells #[.int .u64 0, .int .u64 0] 66)).heap.size ((w.alloc (.cells #[.int .u64 B, .int .u64 T, .int .u64 E] 84)).alloc (.cells #[.int .u64 0, .int .u64 0] 66)) W ∧ y.world = W := ⟨_, y.below, rfl⟩
  rw [hy]
  clear hy y hY hsome hsome2 hT2
  have hr1 := below_reads hb1
  have hh1 := below_holds hb1
  obtain ⟨m1, hs1⟩ := below_grew hb1
  go_wp2_with (first | (go_at_call 46; (with_reducible refine (CM.out.exp _).mono ?_); rintro e w' ⟨rfl, n1, rfl⟩) | (go_at_call 47; (with_reducible first | refine (CM.out.low1 _ ?_).mono ?_ | refine (CM.out.low0 _ ?_).mono ?_); (refine hT.behind ?_; repeat (first | with_reducible assumption | with_reducible exact Below.refl _ _ | with_reducible refine Below.drew ?_ | with_reducible refine below_drewN ?_ _ | with_reducible refine bw_alloc ?_ _ | (with_reducible refine bw_set ?_ ?_ _; focus (dsimp only; omega)) | (with_reducible apply bw_behind; with_reducible assumption))); rintro e w' ⟨rfl, n1, rfl⟩))
  refine bodyPost_ret (v := .tuple #[.agg #[.int .u64 0, .int .u64 0], .bool false]) (by simp (maxDischargeDepth := 4) [results, Tryd.results41, go_sem, *]) rfl ?_
  refine ⟨rfl, ?_⟩
  repeat (first | with_reducible assumption | with_reducible exact Below.refl _ _ | with_reducible refine Below.drew ?_ | with_reducible refine below_drewN ?_ _ | with_reducible refine bw_alloc ?_ _ | (with_reducible refine bw_set ?_ ?_ _; focus (dsimp only; omega)) | (with_reducible apply bw_behind; with_reducible assumption))

set_option maxHeartbeats 2000000 in
theorem walk_top (b t e a : Nat) (B T E A R TB L0 L AQ LA LB K BS BL RB RT X : Int) (hm : DecMet b t e a B T E A R TB L0 L AQ LA LB K BS BL RB RT X) (f0 : decide (LA < K) = false) (f1 : decide (281474976710656 < RT) = true) (hE : ¬ E = 0) (hL : IntKind.u64.wrap (L0 + 4096) = L) (w : World) (hT : Tab w) :
    Calls Tryd.prog 41 #[.agg #[.int .u64 B, .int .u64 T, .int .u64 E], .int .u64 A] w
      (Makes (.tuple #[.agg #[.int .u64 0, .int .u64 0], .bool false]) w) := by
  have CM := hide hm
  have EQ := eq_fields B T E B T E
  rw [decide_eq_true ⟨rfl, rfl, rfl⟩] at EQ
  have g1 := hm.bigE
  have g2 := hm.bigA
  have g3 := hm.tb
  have g4 := hm.x0
  have g5 := hm.x64
  have g6 := hm.aq
  have g7 := hm.la
  have g8 := hm.lb
  have g9 := hm.bs
  have g10 := hm.rb
  have g11 := hm.bl
  have g12 := hm.rt
  clear hm
  have SS := cell_same
  have LB' := ltB_add
  have LS := ltB_self
  have LA' := alloc_reads
  have LH := alloc_holds
  go_enter Tryd.func41, Tryd.ntmps41
  go_wp2
  have hsome := Behind.any ((w.alloc (.cells #[.int .u64 B, .int .u64 T, .int .u64 E] 84)).alloc (.cells #[.int .u64 0, .int .u64 0] 66))
  have hsome2 : Nonempty (Behind (w.heap.size + 1 + 1) ((w.alloc (.cells #[.int .u64 B, .int .u64 T, .int .u64 E] 84)).alloc (.cells #[.int .u64 0, .int .u64 0] 66))) := ⟨⟨_, Below.refl _ _⟩⟩
  have hY := @behind_reads ((w.alloc (.cells #[.int .u64 B, .int .u64 T, .int .u64 E] 84)).alloc (.cells #[.int .u64 0, .int .u64 0] 66))
  have hT2 : Tab ((w.alloc (.cells #[.int .u64 B, .int .u64 T, .int .u64 E] 84)).alloc (.cells #[.int .u64 0, .int .u64 0] 66)) := hT.behind (by repeat (first | with_reducible assumption | with_reducible exact Below.refl _ _ | with_reducible refine Below.drew ?_ | with_reducible refine below_drewN ?_ _ | with_reducible refine bw_alloc ?_ _ | (with_reducible refine bw_set ?_ ?_ _; focus (dsimp only; omega)) | (with_reducible apply bw_behind; with_reducible assumption)))
  refine wp_region_behind ((w.alloc (.cells #[.int .u64 B, .int .u64 T, .int .u64 E] 84)).alloc (.cells #[.int .u64 0, .int .u64 0] 66)) (by kernel_rfl) (by kernel_rfl) (Below.refl _ _) ?_
  repeat (go_big_quiet_step (first | (go_at_call 45; with_reducible exact behind_call CM.out.word hT2 _) | (go_at_call 42; with_reducible exact behind_call CM.out.of hT2 _)))
  refine wpQuiet_nil ?_
  rintro _ ⟨y, rfl⟩
  obtain ⟨w1, hb1, hy⟩ : ∃ W, Below ((w.alloc (.cells #[.int .u64 B, .int .u64 T, .int .u64 E] 84)).alloc (.cells #[.int .u64 0, .int .u64 0] 66)).heap.size ((w.alloc (.cells #[.int .u64 B, .int .u64 T, .int .u64 E] 84)).alloc (.cells #[.int .u64 0, .int .u64 0] 66)) W ∧ y.world = W := ⟨_, y.below, rfl⟩
  rw [hy]
  clear hy y hY hsome hsome2 hT2
  have hr1 := below_reads hb1
  have hh1 := below_holds hb1
  obtain ⟨m1, hs1⟩ := below_grew hb1
  go_wp2_with (first | (go_at_call 46; (with_reducible refine (CM.out.exp _).mono ?_); rintro e w' ⟨rfl, n1, rfl⟩) | (go_at_call 47; (with_reducible first | refine (CM.out.low1 _ ?_).mono ?_ | refine (CM.out.low0 _ ?_).mono ?_); (refine hT.behind ?_; repeat (first | with_reducible assumption | with_reducible exact Below.refl _ _ | with_reducible refine Below.drew ?_ | with_reducible refine below_drewN ?_ _ | with_reducible refine bw_alloc ?_ _ | (with_reducible refine bw_set ?_ ?_ _; focus (dsimp only; omega)) | (with_reducible apply bw_behind; with_reducible assumption))); rintro e w' ⟨rfl, n1, rfl⟩))
  go_region
  go_wp2
  refine bodyPost_ret (v := .tuple #[.agg #[.int .u64 0, .int .u64 0], .bool false]) (by simp (maxDischargeDepth := 4) [results, Tryd.results41, go_sem, *]) rfl ?_
  refine ⟨rfl, ?_⟩
  repeat (first | with_reducible assumption | with_reducible exact Below.refl _ _ | with_reducible refine Below.drew ?_ | with_reducible refine below_drewN ?_ _ | with_reducible refine bw_alloc ?_ _ | (with_reducible refine bw_set ?_ ?_ _; focus (dsimp only; omega)) | (with_reducible apply bw_behind; with_reducible assumption))

set_option maxHeartbeats 2000000 in
theorem walk_ok (b t e a : Nat) (B T E A R TB L0 L AQ LA LB K BS BL RB RT X : Int) (hm : DecMet b t e a B T E A R TB L0 L AQ LA LB K BS BL RB RT X) (f0 : decide (LA < K) = false) (f1 : decide (281474976710656 < RT) = false) (hE : ¬ E = 0) (hL : IntKind.u64.wrap (L0 + 4096) = L) (w : World) (hT : Tab w) :
    Calls Tryd.prog 41 #[.agg #[.int .u64 B, .int .u64 T, .int .u64 E], .int .u64 A] w
      (Makes (.tuple #[.agg #[.int .u64 RB, .int .u64 RT], .bool true]) w) := by
  have CM := hide hm
  have EQ := eq_fields B T E B T E
  rw [decide_eq_true ⟨rfl, rfl, rfl⟩] at EQ
  have g1 := hm.bigE
  have g2 := hm.bigA
  have g3 := hm.tb
  have g4 := hm.x0
  have g5 := hm.x64
  have g6 := hm.aq
  have g7 := hm.la
  have g8 := hm.lb
  have g9 := hm.bs
  have g10 := hm.rb
  have g11 := hm.bl
  have g12 := hm.rt
  clear hm
  have SS := cell_same
  have LB' := ltB_add
  have LS := ltB_self
  have LA' := alloc_reads
  have LH := alloc_holds
  go_enter Tryd.func41, Tryd.ntmps41
  go_wp2
  have hsome := Behind.any ((w.alloc (.cells #[.int .u64 B, .int .u64 T, .int .u64 E] 84)).alloc (.cells #[.int .u64 0, .int .u64 0] 66))
  have hsome2 : Nonempty (Behind (w.heap.size + 1 + 1) ((w.alloc (.cells #[.int .u64 B, .int .u64 T, .int .u64 E] 84)).alloc (.cells #[.int .u64 0, .int .u64 0] 66))) := ⟨⟨_, Below.refl _ _⟩⟩
  have hY := @behind_reads ((w.alloc (.cells #[.int .u64 B, .int .u64 T, .int .u64 E] 84)).alloc (.cells #[.int .u64 0, .int .u64 0] 66))
  have hT2 : Tab ((w.alloc (.cells #[.int .u64 B, .int .u64 T, .int .u64 E] 84)).alloc (.cells #[.int .u64 0, .int .u64 0] 66)) := hT.behind (by repeat (first | with_reducible assumption | with_reducible exact Below.refl _ _ | with_reducible refine Below.drew ?_ | with_reducible refine below_drewN ?_ _ | with_reducible refine bw_alloc ?_ _ | (with_reducible refine bw_set ?_ ?_ _; focus (dsimp only; omega)) | (with_reducible apply bw_behind; with_reducible assumption)))
  refine wp_region_behind ((w.alloc (.cells #[.int .u64 B, .int .u64 T, .int .u64 E] 84)).alloc (.cells #[.int .u64 0, .int .u64 0] 66)) (by kernel_rfl) (by kernel_rfl) (Below.refl _ _) ?_
  repeat (go_big_quiet_step (first | (go_at_call 45; with_reducible exact behind_call CM.out.word hT2 _) | (go_at_call 42; with_reducible exact behind_call CM.out.of hT2 _)))
  refine wpQuiet_nil ?_
  rintro _ ⟨y, rfl⟩
  obtain ⟨w1, hb1, hy⟩ : ∃ W, Below ((w.alloc (.cells #[.int .u64 B, .int .u64 T, .int .u64 E] 84)).alloc (.cells #[.int .u64 0, .int .u64 0] 66)).heap.size ((w.alloc (.cells #[.int .u64 B, .int .u64 T, .int .u64 E] 84)).alloc (.cells #[.int .u64 0, .int .u64 0] 66)) W ∧ y.world = W := ⟨_, y.below, rfl⟩
  rw [hy]
  clear hy y hY hsome hsome2 hT2
  have hr1 := below_reads hb1
  have hh1 := below_holds hb1
  obtain ⟨m1, hs1⟩ := below_grew hb1
  go_wp2_with (first | (go_at_call 46; (with_reducible refine (CM.out.exp _).mono ?_); rintro e w' ⟨rfl, n1, rfl⟩) | (go_at_call 47; (with_reducible first | refine (CM.out.low1 _ ?_).mono ?_ | refine (CM.out.low0 _ ?_).mono ?_); (refine hT.behind ?_; repeat (first | with_reducible assumption | with_reducible exact Below.refl _ _ | with_reducible refine Below.drew ?_ | with_reducible refine below_drewN ?_ _ | with_reducible refine bw_alloc ?_ _ | (with_reducible refine bw_set ?_ ?_ _; focus (dsimp only; omega)) | (with_reducible apply bw_behind; with_reducible assumption))); rintro e w' ⟨rfl, n1, rfl⟩))
  go_region
  go_wp2
  refine bodyPost_ret (v := .tuple #[.agg #[.int .u64 RB, .int .u64 RT], .bool true]) (by simp (maxDischargeDepth := 4) [results, Tryd.results41, go_sem, *]) rfl ?_
  refine ⟨rfl, ?_⟩
  repeat (first | with_reducible assumption | with_reducible exact Below.refl _ _ | with_reducible refine Below.drew ?_ | with_reducible refine below_drewN ?_ _ | with_reducible refine bw_alloc ?_ _ | (with_reducible refine bw_set ?_ ?_ _; focus (dsimp only; omega)) | (with_reducible apply bw_behind; with_reducible assumption))

end Go.Proofs.YtnbfjaocakghkaaDoor
