/-
  The table of the fields' places (package bounds), as a walk reads it; and what the functions that read it answer: lowest, part, read, Word, Of.
-/
import Derived.Test.YtnepnckiciapfaaDoorLayWalks
import Derived.Test.YtnepnckiciapfaaDoorBoundsWalks
import Derived.Deep.RegionHeld3
namespace Go.Proofs.YtnepnckiciapfaaDoor
open Go.RowKit Words FieldMath BoundsMath

/-- The table's cells. -/
structure Tab (W : World) : Prop where
  c0 : W.cell? ⟨0, 0, none⟩ = some (.int .i64 0)
  c1 : W.cell? ⟨0, 1, none⟩ = some (.int .i64 14)
  c2 : W.cell? ⟨0, 2, none⟩ = some (.int .i64 14)
  c3 : W.cell? ⟨0, 3, none⟩ = some (.int .i64 12)
  c4 : W.cell? ⟨0, 4, none⟩ = some (.int .i64 26)
  c5 : W.cell? ⟨0, 5, none⟩ = some (.int .i64 6)
theorem Tab.pos {W : World} (h : Tab W) : 0 < W.heap.size := World.block_lt_of_cell? W _ h.c0
theorem Tab.posB {W : World} (h : Tab W) : ltB 0 W.heap.size = true := by unfold ltB; simpa using h.pos
theorem Tab.below {n : Nat} {W W' : World} (h : Tab W) (hb : Below n W W') (hn : 0 < n) : Tab W' :=
  ⟨(hb.cell (p := ⟨0, 0, none⟩) hn).trans h.c0, (hb.cell (p := ⟨0, 1, none⟩) hn).trans h.c1, (hb.cell (p := ⟨0, 2, none⟩) hn).trans h.c2,
   (hb.cell (p := ⟨0, 3, none⟩) hn).trans h.c3, (hb.cell (p := ⟨0, 4, none⟩) hn).trans h.c4, (hb.cell (p := ⟨0, 5, none⟩) hn).trans h.c5⟩
theorem Tab.behind {W W' : World} (h : Tab W) (hb : Below W.heap.size W W') : Tab W' := h.below hb h.pos
theorem Tab.drewN {W : World} (h : Tab W) (n : Nat) : Tab (W.drewN n) := ⟨h.c0, h.c1, h.c2, h.c3, h.c4, h.c5⟩

def wid (k : Nat) : Nat := if k = 0 then 14 else if k = 1 then 12 else 6
def plc (k : Nat) : Nat := if k = 0 then 0 else if k = 1 then 14 else 26
theorem mask_nat (v k : Nat) (hv : v < 18446744073709551616) (hk : k ≤ 64) : ((BitVec.ofNat 64 v) &&& maskB (k : Int)).toNat = v % 2 ^ k := by
  have hp : 2 ^ k ≤ 2 ^ 64 := Nat.pow_le_pow_right (by decide) hk
  have h0 := Nat.two_pow_pos k
  unfold maskB
  rw [BitVec.toNat_and, BitVec.toNat_ofNat, BitVec.toNat_ofNat, Nat.mod_eq_of_lt (show v < 2 ^ 64 from hv), show min ((k : Int)).toNat 64 = k by omega, Nat.mod_eq_of_lt (by omega), Nat.and_two_pow_sub_one_eq_mod]
theorem and_mask (v k : Nat) (hv : v < 18446744073709551616) (hk : k ≤ 64) : bits .and .u64 (v : Int) ((maskB (k : Int)).toNat : Int) = ((v % 2 ^ k : Nat) : Int) := by
  rw [← mask_nat v k hv hk, ← and_bv, nat_bv hv]

set_option maxHeartbeats 400000 in
theorem lowest_any (v k : Nat) (hv : v < 18446744073709551616) (hk : k < 3) (w : World) (hT : Tab w) :
    Calls Tryd.prog 17 #[.int .u64 (v : Int), .int .i64 (k : Int)] w (Quiet (.int .u64 ((v % 2 ^ wid k : Nat) : Int)) w) := by
  obtain ⟨c0, c1, c2, c3, c4, c5⟩ := hT
  have hA := and_mask v (wid k) hv (by unfold wid; split <;> (try split) <;> omega)
  match k, hk with
  | 0, _ =>
    have C1 : Hid (∀ W, Calls Tryd.prog 30 #[.int .i64 14] W (Quiet (.int .u64 ((maskB 14).toNat : Int)) W)) := hide (fun W => mask_any 14 W)
    have HA := hide hA
    clear hA
    go_enter Tryd.func17, Tryd.ntmps17
    go_wp2_with (first | (go_at_call 30; (with_reducible refine (C1.out _).mono ?_); rintro e w' ⟨rfl, n1, rfl⟩))
    go_ret
    exact ⟨ret_int HA.out, _, rfl⟩
  | 1, _ =>
    have C1 : Hid (∀ W, Calls Tryd.prog 30 #[.int .i64 12] W (Quiet (.int .u64 ((maskB 12).toNat : Int)) W)) := hide (fun W => mask_any 12 W)
    have HA := hide hA
    clear hA
    go_enter Tryd.func17, Tryd.ntmps17
    go_wp2_with (first | (go_at_call 30; (with_reducible refine (C1.out _).mono ?_); rintro e w' ⟨rfl, n1, rfl⟩))
    go_ret
    exact ⟨ret_int HA.out, _, rfl⟩
  | 2, _ =>
    have C1 : Hid (∀ W, Calls Tryd.prog 30 #[.int .i64 6] W (Quiet (.int .u64 ((maskB 6).toNat : Int)) W)) := hide (fun W => mask_any 6 W)
    have HA := hide hA
    clear hA
    go_enter Tryd.func17, Tryd.ntmps17
    go_wp2_with (first | (go_at_call 30; (with_reducible refine (C1.out _).mono ?_); rintro e w' ⟨rfl, n1, rfl⟩))
    go_ret
    exact ⟨ret_int HA.out, _, rfl⟩

/-- The word of three fields. -/
def wordN (b t e : Nat) : Nat := b % 16384 + t % 4096 * 16384 + e % 64 * 67108864
theorem word_lt (b t e : Nat) : wordN b t e < 4294967296 := by unfold wordN; omega
theorem put0_bit (x : BitVec 64) (a w : Int) (v : BitVec 64) (ho : okF a w = true) (i : Nat) (hi : i < 64) :
    (putB x a w v).getLsbD i = if a ≤ i ∧ (i : Int) < a + w then v.getLsbD (i - a.toNat) else x.getLsbD i := by
  rw [put_bit _ _ _ _ _ hi]; simp [ho]
theorem lay3 (B T E : BitVec 64) : layB [(0, 14, B), (14, 12, T), (26, 6, E)] = (B &&& maskB 14) ||| ((T &&& maskB 12) <<< 14) ||| ((E &&& maskB 6) <<< 26) := by
  refine ext64 fun i hi => ?_
  show (putB (putB (putB 0 0 14 B) 14 12 T) 26 6 E).getLsbD i = _
  rw [put0_bit _ _ _ _ (by decide) i hi, put0_bit _ _ _ _ (by decide) i hi, put0_bit _ _ _ _ (by decide) i hi]
  rw [BitVec.getLsbD_or, BitVec.getLsbD_or, BitVec.getLsbD_and, BitVec.getLsbD_shiftLeft, BitVec.getLsbD_and, BitVec.getLsbD_shiftLeft, BitVec.getLsbD_and, mask_bit, mask_bit, mask_bit]
  by_cases h1 : i < 14
  · have e1 : ¬ ((26 : Int) ≤ i ∧ (i : Int) < 26 + 6) := by omega
    have e2 : ¬ ((14 : Int) ≤ i ∧ (i : Int) < 14 + 12) := by omega
    have e3 : ((0 : Int) ≤ i ∧ (i : Int) < 0 + 14) := by omega
    have e4 : (i : Int) < 14 := by omega
    have e5 : i < 26 := by omega
    rw [if_neg e1, if_neg e2, if_pos e3]
    simp [h1, e4, e5, hi]
  · by_cases h2 : i < 26
    · have e1 : ¬ ((26 : Int) ≤ i ∧ (i : Int) < 26 + 6) := by omega
      have e2 : ((14 : Int) ≤ i ∧ (i : Int) < 14 + 12) := by omega
      have e4 : ¬ (i : Int) < 14 := by omega
      have e5 : ((i - 14 : Nat) : Int) < 12 := by omega
      have e6 : i - 14 < 64 := by omega
      rw [if_neg e1, if_pos e2]
      simp [h1, h2, e4, e5, e6, hi]
    · by_cases h3 : i < 32
      · have e1 : ((26 : Int) ≤ i ∧ (i : Int) < 26 + 6) := by omega
        have e4 : ¬ (i : Int) < 14 := by omega
        have e5 : ¬ ((i - 14 : Nat) : Int) < 12 := by omega
        have e6 : ((i - 26 : Nat) : Int) < 6 := by omega
        have e7 : i - 26 < 64 := by omega
        rw [if_pos e1]
        simp [h1, h2, e4, e5, e6, e7, hi]
      · have e1 : ¬ ((26 : Int) ≤ i ∧ (i : Int) < 26 + 6) := by omega
        have e2 : ¬ ((14 : Int) ≤ i ∧ (i : Int) < 14 + 12) := by omega
        have e3 : ¬ ((0 : Int) ≤ i ∧ (i : Int) < 0 + 14) := by omega
        have e4 : ¬ (i : Int) < 14 := by omega
        have e5 : ¬ ((i - 14 : Nat) : Int) < 12 := by omega
        have e6 : ¬ ((i - 26 : Nat) : Int) < 6 := by omega
        rw [if_neg e1, if_neg e2, if_neg e3]
        simp [h1, h2, e4, e5, e6, hi]
theorem or_add (x y k : Nat) (h : x < 2 ^ k) : x ||| y * 2 ^ k = x + y * 2 ^ k := by
  rw [Nat.or_comm, Nat.mul_comm, ← Nat.two_pow_add_eq_or_of_lt h]
  omega
theorem lay3_nat (b t e : Nat) (hb : b < 18446744073709551616) (ht : t < 18446744073709551616) (he : e < 18446744073709551616) :
    (layB [(0, 14, BitVec.ofNat 64 b), (14, 12, BitVec.ofNat 64 t), (26, 6, BitVec.ofNat 64 e)]).toNat = wordN b t e := by
  have m1 : ((BitVec.ofNat 64 b) &&& maskB 14).toNat = b % 16384 := mask_nat b 14 hb (by omega)
  have m2 : ((BitVec.ofNat 64 t) &&& maskB 12).toNat = t % 4096 := mask_nat t 12 ht (by omega)
  have m3 : ((BitVec.ofNat 64 e) &&& maskB 6).toNat = e % 64 := mask_nat e 6 he (by omega)
  rw [lay3, BitVec.toNat_or, BitVec.toNat_or, BitVec.toNat_shiftLeft, BitVec.toNat_shiftLeft, m1, m2, m3, Nat.shiftLeft_eq, Nat.shiftLeft_eq, Nat.mod_eq_of_lt (show t % 4096 * 2 ^ 14 < 2 ^ 64 by omega), Nat.mod_eq_of_lt (show e % 64 * 2 ^ 26 < 2 ^ 64 by omega),
    or_add (b % 16384) (t % 4096) 14 (by omega), or_add (b % 16384 + t % 4096 * 2 ^ 14) (e % 64) 26 (by omega)]
  unfold wordN
  omega

end Go.Proofs.YtnepnckiciapfaaDoor
