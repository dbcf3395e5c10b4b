/-
  The table of the fields' places (package bounds), as a walk reads it; and what the functions that read it answer: lowest, part, read, Word, Of.
-/
import Derived.Test.YtnbfjaocakghkaaDoorLayWalks
import Derived.Test.YtnbfjaocakghkaaDoorBoundsWalks
import Derived.Deep.RegionHeld3
namespace Go.Proofs.YtnbfjaocakghkaaDoor
open Go.RowKit Words FieldMath BoundsMath

/-- The table's cells. -/
structure Tab (W : World) : Prop where
  c0 : W.cell? ⟨0, 0, none⟩ = some (.int .i64 0)
  c1 : W.cell? ⟨0, 1, none⟩ = some (.int .i64 14)
  c2 : W.cell? ⟨0, 2, none⟩ = some (.int .i64 14)
  c3 : W.cell? ⟨0, 3, none⟩ = some (.int .i64 12)
  c4 : W.cell? ⟨0, 4, none⟩ = some (.int .i64 26)
  c5 : W.cell? ⟨0, 5, none⟩ = some (.int .i64 6)
theorem Tab.pos {W : World} (h : Tab W) : 0 < W.heap.size := World.block_lt_of_cell? W _ h.c0
theorem Tab.posB {W : World} (h : Tab W) : ltB 0 W.heap.size = true := by unfold ltB; simpa using h.pos
theorem Tab.below {n : Nat} {W W' : World} (h : Tab W) (hb : Below n W W') (hn : 0 < n) : Tab W' :=
  ⟨(hb.cell (p := ⟨0, 0, none⟩) hn).trans h.c0, (hb.cell (p := ⟨0, 1, none⟩) hn).trans h.c1, (hb.cell (p := ⟨0, 2, none⟩) hn).trans h.c2,
   (hb.cell (p := ⟨0, 3, none⟩) hn).trans h.c3, (hb.cell (p := ⟨0, 4, none⟩) hn).trans h.c4, (hb.cell (p := ⟨0, 5, none⟩) hn).trans h.c5⟩
theorem Tab.behind {W W' : World} (h : Tab W) (hb : Below W.heap.size W W') : Tab W' := h.below hb h.pos
theorem Tab.drewN {W : World} (h : Tab W) (n : Nat) : Tab (W.drewN n) := ⟨h.c0, h.c1, h.c2, h.c3, h.c4, h.c5⟩

def wid (k : Nat) : Nat := if k = 0 then 14 else if k = 1 then 12 else 6
def plc (k : Nat) : Nat := if k = 0 then 0 else if k = 1 then 14 else 26
theorem mask_nat (v k : Nat) (hv : v < 18446744073709551616) (hk : k ≤ 64) : ((BitVec.ofNat 64 v) &&& maskB (k : Int)).toNat = v % 2 ^ k := by
  have hp : 2 ^ k ≤ 2 ^ 64 := Nat.pow_le_pow_right (by decide) hk
  have h0 := Nat.two_pow_pos k
  unfold maskB
  rw [BitVec.toNat_and, BitVec.toNat_ofNat, BitVec.toNat_ofNat, Nat.mod_eq_of_lt (show v < 2 ^ 64 from hv), show min ((k : Int)).toNat 64 = k by omega, Nat.mod_eq_of_lt (by omega), Nat.and_two_pow_sub_one_eq_mod]
theorem and_mask (v k : Nat) (hv : v < 18446744073709551616) (hk : k ≤ 64) : bits .and .u64 (v : Int) ((maskB (k : Int)).toNat : Int) = ((v % 2 ^ k : Nat) : Int) := by
  rw [← mask_nat v k hv hk, ← and_bv, nat_bv hv]

set_option maxHeartbeats 400000 in
theorem lowest_any (v k : Nat) (hv : v < 18446744073709551616) (hk : k < 3) (w : World) (hT : Tab w) :
    Calls Tryd.prog 47 #[.int .u64 (v : Int), .int .i64 (k : Int)] w (Quiet (.int .u64 ((v % 2 ^ wid k : Nat) : Int)) w) := by
  obtain ⟨c0, c1, c2, c3, c4, c5⟩ := hT
  have hA := and_mask v (wid k) hv (by unfold wid; split <;> (try split) <;> omega)
  match k, hk with
  | 0, _ =>
    have C1 : Hid (∀ W, Calls Tryd.prog 50 #[.int .i64 14] W (Quiet (.int .u64 ((maskB 14).toNat : Int)) W)) := hide (fun W => mask_any 14 W)
    have HA := hide hA
    clear hA
    go_enter Tryd.func47, Tryd.ntmps47
    go_wp2_with (first | (go_at_call 50; (with_reducible refine (C1.out _).mono ?_); rintro e w' ⟨rfl, n1, rfl⟩))
    go_ret
    exact ⟨ret_int HA.out, _, rfl⟩
  | 1, _ =>
    have C1 : Hid (∀ W, Calls Tryd.prog 50 #[.int .i64 12] W (Quiet (.int .u64 ((maskB 12).toNat : Int)) W)) := hide (fun W => mask_any 12 W)
    have HA := hide hA
    clear hA
    go_enter Tryd.func47, Tryd.ntmps47
    go_wp2_with (first | (go_at_call 50; (with_reducible refine (C1.out _).mono ?_); rintro e w' ⟨rfl, n1, rfl⟩))
    go_ret
    exact ⟨ret_int HA.out, _, rfl⟩
  | 2, _ =>
    have C1 : Hid (∀ W, Calls Tryd.prog 50 #[.int .i64 6] W (Quiet (.int .u64 ((maskB 6).toNat : Int)) W)) := hide (fun W => mask_any 6 W)
    have HA := hide hA
    clear hA
    go_enter Tryd.func47, Tryd.ntmps47
    go_wp2_with (first | (go_at_call 50; (with_reducible refine (C1.out _).mono ?_); rintro e w' ⟨rfl, n1, rfl⟩))
    go_ret
    exact ⟨ret_int HA.out, _, rfl⟩

set_option maxHeartbeats 400000 in
theorem part_any (k : Nat) (V : Int) (hk : k < 3) (w : World) (hT : Tab w) :
    Calls Tryd.prog 52 #[.int .i64 (k : Int), .int .u64 V] w (Makes (.agg #[.int .i64 (plc k : Int), .int .i64 (wid k : Int), .int .u64 V]) w) := by
  have hp := hT.pos
  have hpB := hT.posB
  obtain ⟨c0, c1, c2, c3, c4, c5⟩ := hT
  have LA := alloc_reads
  have LH := alloc_holds
  match k, hk with
  | 0, _ =>
    go_enter Tryd.func52, Tryd.ntmps52
    go_wp2
    go_region
    go_wp2
    refine bodyPost_ret (v := .agg #[.int .i64 0, .int .i64 14, .int .u64 V]) (by simp [results, Tryd.results52, go_sem, *]) rfl ?_
    refine ⟨rfl, ?_⟩
    repeat (first | with_reducible assumption | with_reducible exact Below.refl _ _ | with_reducible refine Below.drew ?_ | with_reducible refine below_drewN ?_ _ | with_reducible refine bw_alloc ?_ _ | (with_reducible refine bw_set ?_ ?_ _; focus (dsimp only; omega)) | (with_reducible apply bw_behind; with_reducible assumption))
  | 1, _ =>
    go_enter Tryd.func52, Tryd.ntmps52
    go_wp2
    go_region
    go_wp2
    refine bodyPost_ret (v := .agg #[.int .i64 14, .int .i64 12, .int .u64 V]) (by simp [results, Tryd.results52, go_sem, *]) rfl ?_
    refine ⟨rfl, ?_⟩
    repeat (first | with_reducible assumption | with_reducible exact Below.refl _ _ | with_reducible refine Below.drew ?_ | with_reducible refine below_drewN ?_ _ | with_reducible refine bw_alloc ?_ _ | (with_reducible refine bw_set ?_ ?_ _; focus (dsimp only; omega)) | (with_reducible apply bw_behind; with_reducible assumption))
  | 2, _ =>
    go_enter Tryd.func52, Tryd.ntmps52
    go_wp2
    go_region
    go_wp2
    refine bodyPost_ret (v := .agg #[.int .i64 26, .int .i64 6, .int .u64 V]) (by simp [results, Tryd.results52, go_sem, *]) rfl ?_
    refine ⟨rfl, ?_⟩
    repeat (first | with_reducible assumption | with_reducible exact Below.refl _ _ | with_reducible refine Below.drew ?_ | with_reducible refine below_drewN ?_ _ | with_reducible refine bw_alloc ?_ _ | (with_reducible refine bw_set ?_ ?_ _; focus (dsimp only; omega)) | (with_reducible apply bw_behind; with_reducible assumption))

theorem get_nat (x : BitVec 64) (a b : Nat) (hb : b ≤ 64) (ha : a ≤ 64 - b) : (getB x (a : Int) (b : Int)).toNat = x.toNat / 2 ^ a % 2 ^ b := by
  have ho : okF (a : Int) (b : Int) = true := by unfold okF; simp; omega
  have hp : 2 ^ b ≤ 2 ^ 64 := Nat.pow_le_pow_right (by decide) hb
  have h0 := Nat.two_pow_pos b
  unfold getB maskB
  rw [if_pos ho, BitVec.toNat_and, BitVec.toNat_ushiftRight, BitVec.toNat_ofNat, show min ((b : Int)).toNat 64 = b by omega, show ((a : Int)).toNat = a by omega, Nat.mod_eq_of_lt (by omega), Nat.and_two_pow_sub_one_eq_mod, Nat.shiftRight_eq_div_pow]
theorem get_call (v a b : Nat) (hv : v < 18446744073709551616) (hb : b ≤ 64) (ha : a ≤ 64 - b) (W : World) :
    Calls Tryd.prog 43 #[.int .u64 (v : Int), .int .i64 (a : Int), .int .i64 (b : Int)] W (Quiet (.int .u64 ((v / 2 ^ a % 2 ^ b : Nat) : Int)) W) := by
  have h := get_any (BitVec.ofNat 64 v) (a : Int) (b : Int) W
  rw [nat_bv hv, get_nat _ a b hb ha, BitVec.toNat_ofNat, Nat.mod_eq_of_lt (show v < 2 ^ 64 from hv)] at h
  exact h

set_option maxHeartbeats 400000 in
theorem read_any (v k : Nat) (hv : v < 18446744073709551616) (hk : k < 3) (w : World) (hT : Tab w) :
    Calls Tryd.prog 48 #[.int .u64 (v : Int), .int .i64 (k : Int)] w (Quiet (.int .u64 ((v / 2 ^ plc k % 2 ^ wid k : Nat) : Int)) w) := by
  obtain ⟨c0, c1, c2, c3, c4, c5⟩ := hT
  match k, hk with
  | 0, _ =>
    have C1 : Hid (∀ W, Calls Tryd.prog 43 #[.int .u64 (v : Int), .int .i64 0, .int .i64 14] W (Quiet (.int .u64 ((v / 2 ^ 0 % 2 ^ 14 : Nat) : Int)) W)) := hide (fun W => get_call v 0 14 hv (by omega) (by omega) W)
    show Calls _ _ _ _ (Quiet (.int .u64 ((v / 2 ^ 0 % 2 ^ 14 : Nat) : Int)) w)
    generalize ((v / 2 ^ 0 % 2 ^ 14 : Nat) : Int) = R at *
    go_enter Tryd.func48, Tryd.ntmps48
    go_wp2
    go_quiet ((go_at_call 43; with_reducible first | exact Quiet.region (fun W => C1.out W) | exact Quiet.regionAdd (fun W => C1.out W)))
    go_wp2
    go_ret
    exact ⟨rfl, _, rfl⟩
  | 1, _ =>
    have C1 : Hid (∀ W, Calls Tryd.prog 43 #[.int .u64 (v : Int), .int .i64 14, .int .i64 12] W (Quiet (.int .u64 ((v / 2 ^ 14 % 2 ^ 12 : Nat) : Int)) W)) := hide (fun W => get_call v 14 12 hv (by omega) (by omega) W)
    show Calls _ _ _ _ (Quiet (.int .u64 ((v / 2 ^ 14 % 2 ^ 12 : Nat) : Int)) w)
    generalize ((v / 2 ^ 14 % 2 ^ 12 : Nat) : Int) = R at *
    go_enter Tryd.func48, Tryd.ntmps48
    go_wp2
    go_quiet ((go_at_call 43; with_reducible first | exact Quiet.region (fun W => C1.out W) | exact Quiet.regionAdd (fun W => C1.out W)))
    go_wp2
    go_ret
    exact ⟨rfl, _, rfl⟩
  | 2, _ =>
    have C1 : Hid (∀ W, Calls Tryd.prog 43 #[.int .u64 (v : Int), .int .i64 26, .int .i64 6] W (Quiet (.int .u64 ((v / 2 ^ 26 % 2 ^ 6 : Nat) : Int)) W)) := hide (fun W => get_call v 26 6 hv (by omega) (by omega) W)
    show Calls _ _ _ _ (Quiet (.int .u64 ((v / 2 ^ 26 % 2 ^ 6 : Nat) : Int)) w)
    generalize ((v / 2 ^ 26 % 2 ^ 6 : Nat) : Int) = R at *
    go_enter Tryd.func48, Tryd.ntmps48
    go_wp2
    go_quiet ((go_at_call 43; with_reducible first | exact Quiet.region (fun W => C1.out W) | exact Quiet.regionAdd (fun W => C1.out W)))
    go_wp2
    go_ret
    exact ⟨rfl, _, rfl⟩

/-- The word of three fields. -/
def wordN (b t e : Nat) : Nat := b % 16384 + t % 4096 * 16384 + e % 64 * 67108864
theorem word_lt (b t e : Nat) : wordN b t e < 4294967296 := by unfold wordN; omega
theorem put0_bit (x : BitVec 64) (a w : Int) (v : BitVec 64) (ho : okF a w = true) (i : Nat) (hi : i < 64) :
    (putB x a w v).getLsbD i = if a ≤ i ∧ (i : Int) < a + w then v.getLsbD (i - a.toNat) else x.getLsbD i := by
  rw [put_bit _ _ _ _ _ hi]; simp [ho]
theorem lay3 (B T E : BitVec 64) : layB [(0, 14, B), (14, 12, T), (26, 6, E)] = (B &&& maskB 14) ||| ((T &&& maskB 12) <<< 14) ||| ((E &&& maskB 6) <<< 26) := by
  refine ext64 fun i hi => ?_
  show (putB (putB (putB 0 0 14 B) 14 12 T) 26 6 E).getLsbD i = _
  rw [put0_bit _ _ _ _ (by decide) i hi, put0_bit _ _ _ _ (by decide) i hi, put0_bit _ _ _ _ (by decide) i hi]
  rw [BitVec.getLsbD_or, BitVec.getLsbD_or, BitVec.getLsbD_and, BitVec.getLsbD_shiftLeft, BitVec.getLsbD_and, BitVec.getLsbD_shiftLeft, BitVec.getLsbD_and, mask_bit, mask_bit, mask_bit]
  by_cases h1 : i < 14
  · have e1 : ¬ ((26 : Int) ≤ i ∧ (i : Int) < 26 + 6) := by omega
    have e2 : ¬ ((14 : Int) ≤ i ∧ (i : Int) < 14 + 12) := by omega
    have e3 : ((0 : Int) ≤ i ∧ (i : Int) < 0 + 14) := by omega
    have e4 : (i : Int) < 14 := by omega
    have e5 : i < 26 := by omega
    rw [if_neg e1, if_neg e2, if_pos e3]
    simp [h1, e4, e5, hi]
  · by_cases h2 : i < 26
    · have e1 : ¬ ((26 : Int) ≤ i ∧ (i : Int) < 26 + 6) := by omega
      have e2 : ((14 : Int) ≤ i ∧ (i : Int) < 14 + 12) := by omega
      have e4 : ¬ (i : Int) < 14 := by omega
      have e5 : ((i - 14 : Nat) : Int) < 12 := by omega
      have e6 : i - 14 < 64 := by omega
      rw [if_neg e1, if_pos e2]
      simp [h1, h2, e4, e5, e6, hi]
    · by_cases h3 : i < 32
      · have e1 : ((26 : Int) ≤ i ∧ (i : Int) < 26 + 6) := by omega
        have e4 : ¬ (i : Int) < 14 := by omega
        have e5 : ¬ ((i - 14 : Nat) : Int) < 12 := by omega
        have e6 : ((i - 26 : Nat) : Int) < 6 := by omega
        have e7 : i - 26 < 64 := by omega
        rw [if_pos e1]
        simp [h1, h2, e4, e5, e6, e7, hi]
      · have e1 : ¬ ((26 : Int) ≤ i ∧ (i : Int) < 26 + 6) := by omega
        have e2 : ¬ ((14 : Int) ≤ i ∧ (i : Int) < 14 + 12) := by omega
        have e3 : ¬ ((0 : Int) ≤ i ∧ (i : Int) < 0 + 14) := by omega
        have e4 : ¬ (i : Int) < 14 := by omega
        have e5 : ¬ ((i - 14 : Nat) : Int) < 12 := by omega
        have e6 : ¬ ((i - 26 : Nat) : Int) < 6 := by omega
        rw [if_neg e1, if_neg e2, if_neg e3]
        simp [h1, h2, e4, e5, e6, hi]
theorem or_add (x y k : Nat) (h : x < 2 ^ k) : x ||| y * 2 ^ k = x + y * 2 ^ k := by
  rw [Nat.or_comm, Nat.mul_comm, ← Nat.two_pow_add_eq_or_of_lt h]
  omega
theorem lay3_nat (b t e : Nat) (hb : b < 18446744073709551616) (ht : t < 18446744073709551616) (he : e < 18446744073709551616) :
    (layB [(0, 14, BitVec.ofNat 64 b), (14, 12, BitVec.ofNat 64 t), (26, 6, BitVec.ofNat 64 e)]).toNat = wordN b t e := by
  have m1 : ((BitVec.ofNat 64 b) &&& maskB 14).toNat = b % 16384 := mask_nat b 14 hb (by omega)
  have m2 : ((BitVec.ofNat 64 t) &&& maskB 12).toNat = t % 4096 := mask_nat t 12 ht (by omega)
  have m3 : ((BitVec.ofNat 64 e) &&& maskB 6).toNat = e % 64 := mask_nat e 6 he (by omega)
  rw [lay3, BitVec.toNat_or, BitVec.toNat_or, BitVec.toNat_shiftLeft, BitVec.toNat_shiftLeft, m1, m2, m3, Nat.shiftLeft_eq, Nat.shiftLeft_eq, Nat.mod_eq_of_lt (show t % 4096 * 2 ^ 14 < 2 ^ 64 by omega), Nat.mod_eq_of_lt (show e % 64 * 2 ^ 26 < 2 ^ 64 by omega),
    or_add (b % 16384) (t % 4096) 14 (by omega), or_add (b % 16384 + t % 4096 * 2 ^ 14) (e % 64) 26 (by omega)]
  unfold wordN
  omega

/-- What stays in the walk of Word: the box of the fields, the table. -/
def Held3 (w0 : World) (n : Nat) (B T E : Int) (W : World) : Prop := W.cell? ⟨n, 0, none⟩ = some (.int .u64 B) ∧ W.cell? ⟨n, 1, none⟩ = some (.int .u64 T) ∧ W.cell? ⟨n, 2, none⟩ = some (.int .u64 E) ∧ Tab W ∧ Below w0.heap.size w0 W
theorem held3_start {w0 : World} (hT : Tab w0) (B T E : Int) (t : TypeId) : Held3 w0 w0.heap.size B T E (w0.alloc (.cells #[.int .u64 B, .int .u64 T, .int .u64 E] t)).drew := by
  have hb : Below w0.heap.size w0 (w0.alloc (.cells #[.int .u64 B, .int .u64 T, .int .u64 E] t)).drew := (below_alloc (Below.refl _ _) (Nat.le_refl _) _).drew
  exact ⟨by simp [go_sem], by simp [go_sem], by simp [go_sem], hT.behind hb, hb⟩
theorem held3_step {w0 W W' : World} {n : Nat} {B T E : Int} (h : Held3 w0 n B T E W) (hb : Below W.heap.size W W') : Held3 w0 n B T E W' :=
  have hn : n < W.heap.size := World.block_lt_of_cell? W _ h.1
  ⟨(hb.cell (p := ⟨n, 0, none⟩) hn).trans h.1, (hb.cell (p := ⟨n, 1, none⟩) hn).trans h.2.1, (hb.cell (p := ⟨n, 2, none⟩) hn).trans h.2.2.1, h.2.2.2.1.behind hb, below_behind h.2.2.2.2 (Nat.le_refl _) hb⟩
theorem held3_alloc {w0 W : World} {n : Nat} {B T E : Int} (h : Held3 w0 n B T E W) (o : Obj) : Held3 w0 n B T E (W.alloc o) := held3_step h (below_alloc (Below.refl _ _) (Nat.le_refl _) _)
theorem lay_call (b t e : Nat) (hb : b < 18446744073709551616) (ht : t < 18446744073709551616) (he : e < 18446744073709551616) (w : World) (Bk : Nat)
    (h : w.heap[Bk]? = some (.cells #[.int .i64 0, .int .i64 14, .int .u64 (b : Int), .int .i64 14, .int .i64 12, .int .u64 (t : Int), .int .i64 26, .int .i64 6, .int .u64 (e : Int)] 95 (0, 0))) :
    Calls Tryd.prog 51 #[.slice (some ⟨Bk, 0, none⟩) 3 3] w (Makes (.int .u64 ((wordN b t e : Nat) : Int)) w) := by
  have hl := lay_any ⟨Bk, 0, none⟩ [(0, 14, BitVec.ofNat 64 b), (14, 12, BitVec.ofNat 64 t), (26, 6, BitVec.ofNat 64 e)] 3 w (by simp) (fun k hk => by
    have : k = 0 ∨ k = 1 ∨ k = 2 := by simp at hk; omega
    rcases this with rfl | rfl | rfl
    · simp [World.cell?, Addr.add, h]; omega
    · simp [World.cell?, Addr.add, h]; omega
    · simp [World.cell?, Addr.add, h]; omega)
  rw [lay3_nat b t e hb ht he] at hl
  exact hl

set_option maxHeartbeats 2000000 in
theorem word_any (b t e : Nat) (hb : b < 18446744073709551616) (ht : t < 18446744073709551616) (he : e < 18446744073709551616) (w : World) (hT : Tab w) :
    Calls Tryd.prog 45 #[.agg #[.int .u64 (b : Int), .int .u64 (t : Int), .int .u64 (e : Int)]] w (Makes (.int .u64 ((wordN b t e : Nat) : Int)) w) := by
  have P0 : Hid (∀ W, Tab W → Calls Tryd.prog 52 #[.int .i64 0, .int .u64 (b : Int)] W (Makes (.agg #[.int .i64 0, .int .i64 14, .int .u64 (b : Int)]) W)) := hide (part_any 0 (b : Int) (by omega))
  have P1 : Hid (∀ W, Tab W → Calls Tryd.prog 52 #[.int .i64 1, .int .u64 (t : Int)] W (Makes (.agg #[.int .i64 14, .int .i64 12, .int .u64 (t : Int)]) W)) := hide (part_any 1 (t : Int) (by omega))
  have P2 : Hid (∀ W, Tab W → Calls Tryd.prog 52 #[.int .i64 2, .int .u64 (e : Int)] W (Makes (.agg #[.int .i64 26, .int .i64 6, .int .u64 (e : Int)]) W)) := hide (part_any 2 (e : Int) (by omega))
  have PL := hide (lay_call b t e hb ht he)
  generalize ((wordN b t e : Nat) : Int) = R at *
  generalize (b : Int) = B at *
  generalize (t : Int) = T at *
  generalize (e : Int) = E at *
  clear hb ht he
  have HS := held3_start hT B T E 84
  have HH := hide HS
  clear HS
  go_enter Tryd.func45, Tryd.ntmps45
  go_wp2
  go_region_held3 (fun w' => w'.cell? ⟨w.heap.size, 0, none⟩ = some (.int .u64 B) ∧ w'.cell? ⟨w.heap.size, 1, none⟩ = some (.int .u64 T) ∧ w'.cell? ⟨w.heap.size, 2, none⟩ = some (.int .u64 E) ∧ Tab w' ∧ Below w.heap.size w w')
    (first | assumption | exact HH.out | exact held3_step (by assumption) (by assumption) | exact held3_alloc (by assumption) _)
    (first | (go_at_call 52; (with_reducible first | refine (P0.out _ ?_).mono ?_ | refine (P1.out _ ?_).mono ?_ | refine (P2.out _ ?_).mono ?_); (first | exact (by assumption : Held3 w _ _ _ _ _).2.2.2.1); rintro e w' ⟨rfl, hb⟩) | (go_at_call 51; (with_reducible refine (PL.out _ _ (heap_alloc_new _ _)).mono ?_); rintro e w' ⟨rfl, hb⟩))
  all_goals
    go_wp2
    go_ret
    exact ⟨rfl, (by assumption : Held3 w w.heap.size B T E _).2.2.2.2⟩

set_option maxHeartbeats 400000 in
theorem of_any (v : Nat) (hv : v < 18446744073709551616) (w : World) (hT : Tab w) :
    Calls Tryd.prog 42 #[.int .u64 (v : Int)] w (Makes (.agg #[.int .u64 ((v % 16384 : Nat) : Int), .int .u64 ((v / 16384 % 4096 : Nat) : Int), .int .u64 ((v / 67108864 % 64 : Nat) : Int)]) w) := by
  have R0 : Hid (∀ W, Tab W → Calls Tryd.prog 48 #[.int .u64 (v : Int), .int .i64 0] W (Quiet (.int .u64 ((v % 16384 : Nat) : Int)) W)) := hide (fun W h => by
    have := read_any v 0 hv (by omega) W h
    rwa [show v / 2 ^ plc 0 % 2 ^ wid 0 = v % 16384 by show v / 2 ^ 0 % 2 ^ 14 = _; omega] at this)
  have R1 : Hid (∀ W, Tab W → Calls Tryd.prog 48 #[.int .u64 (v : Int), .int .i64 1] W (Quiet (.int .u64 ((v / 16384 % 4096 : Nat) : Int)) W)) := hide (fun W h => read_any v 1 hv (by omega) W h)
  have R2 : Hid (∀ W, Tab W → Calls Tryd.prog 48 #[.int .u64 (v : Int), .int .i64 2] W (Quiet (.int .u64 ((v / 67108864 % 64 : Nat) : Int)) W)) := hide (fun W h => read_any v 2 hv (by omega) W h)
  generalize ((v % 16384 : Nat) : Int) = B at *
  generalize ((v / 16384 % 4096 : Nat) : Int) = T at *
  generalize ((v / 67108864 % 64 : Nat) : Int) = E at *
  generalize (v : Int) = V at *
  clear hv
  go_enter Tryd.func42, Tryd.ntmps42
  go_wp2_with ((go_at_call 48; (with_reducible first | refine (R0.out _ ?_).mono ?_ | refine (R1.out _ ?_).mono ?_ | refine (R2.out _ ?_).mono ?_); (refine hT.behind ?_; repeat (first | with_reducible assumption | with_reducible exact Below.refl _ _ | with_reducible refine Below.drew ?_ | with_reducible refine below_drewN ?_ _ | with_reducible refine bw_alloc ?_ _ | (with_reducible refine bw_set ?_ ?_ _; focus (dsimp only; omega)) | (with_reducible apply bw_behind; with_reducible assumption))); rintro e w' ⟨rfl, n1, rfl⟩))
  refine bodyPost_ret (v := .agg #[.int .u64 B, .int .u64 T, .int .u64 E]) (by simp [results, Tryd.results42, go_sem, *]) rfl ?_
  refine ⟨rfl, ?_⟩
  repeat (first | with_reducible assumption | with_reducible exact Below.refl _ _ | with_reducible refine Below.drew ?_ | with_reducible refine below_drewN ?_ _ | with_reducible refine bw_alloc ?_ _ | (with_reducible refine bw_set ?_ ?_ _; focus (dsimp only; omega)) | (with_reducible apply bw_behind; with_reducible assumption))

end Go.Proofs.YtnbfjaocakghkaaDoor
