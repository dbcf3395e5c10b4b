/-
  What capab.meta, spanWithin and perm.Within answer.
-/
import Derived.Test.YtbncoiejbclpjaaDoorCapMath
import Derived.Test.YtbncoiejbclpjaaDoorKeep
import Derived.Test.YtbncoiejbclpjaaDoorTab03
namespace Go.Proofs.YtbncoiejbclpjaaDoor
open Go.RowKit Words FieldMath BoundsMath

/-- A number put above all that a word has. -/
theorem put_nat (x v : BitVec 64) (a w : Nat) (hx : x.toNat < 2 ^ a) (haw : a + w ≤ 64) : (putB x (a : Int) (w : Int) v).toNat = x.toNat + v.toNat % 2 ^ w * 2 ^ a := by
  have ho : okF (a : Int) (w : Int) = true := by unfold okF; exact decide_eq_true (by omega)
  rw [← or_add _ _ _ hx]
  refine Nat.eq_of_testBit_eq fun i => ?_
  rw [Nat.testBit_or, Nat.testBit_mul_two_pow, Nat.testBit_mod_two_pow, BitVec.testBit_toNat, BitVec.testBit_toNat, BitVec.testBit_toNat]
  by_cases hi : i < 64
  · rw [put0_bit _ _ _ _ ho i hi]
    by_cases h1 : a ≤ i
    · have h0 : x.getLsbD i = false := by
        rw [← BitVec.testBit_toNat]
        exact Nat.testBit_lt_two_pow (Nat.lt_of_lt_of_le hx (Nat.pow_le_pow_right (by decide) h1))
      by_cases h2 : i < a + w
      · rw [if_pos ⟨by omega, by omega⟩]
        have h3 : i - a < w := by omega
        simp [h0, h1, h3]
      · rw [if_neg (by omega)]
        have h3 : ¬ i - a < w := by omega
        simp [h0, h3]
    · rw [if_neg (by omega)]
      simp [h1]
  · have h3 : ¬ i - a < w := by omega
    rw [BitVec.getLsbD_of_ge _ _ (by omega), BitVec.getLsbD_of_ge _ _ (by omega)]
    simp [h3]
theorem lay3m (s p k : Nat) (hs : s < 18446744073709551616) (hp : p < 18446744073709551616) (hk : k < 18446744073709551616) :
    (layB [(0, 32, BitVec.ofNat 64 s), (32, 9, BitVec.ofNat 64 p), (48, 12, BitVec.ofNat 64 k)]).toNat = metaN s p k := by
  show (putB (putB (putB 0 ((0 : Nat) : Int) ((32 : Nat) : Int) (BitVec.ofNat 64 s)) ((32 : Nat) : Int) ((9 : Nat) : Int) (BitVec.ofNat 64 p)) ((48 : Nat) : Int) ((12 : Nat) : Int) (BitVec.ofNat 64 k)).toNat = _
  have e1 := put_nat 0 (BitVec.ofNat 64 s) 0 32 (by decide) (by omega)
  rw [BitVec.toNat_ofNat, Nat.mod_eq_of_lt (show s < 2 ^ 64 from hs), show (0 : BitVec 64).toNat = 0 from rfl] at e1
  have e2 := put_nat (putB 0 ((0 : Nat) : Int) ((32 : Nat) : Int) (BitVec.ofNat 64 s)) (BitVec.ofNat 64 p) 32 9 (by rw [e1]; omega) (by omega)
  rw [e1, BitVec.toNat_ofNat, Nat.mod_eq_of_lt (show p < 2 ^ 64 from hp)] at e2
  have e3 := put_nat _ (BitVec.ofNat 64 k) 48 12 (by rw [e2]; omega) (by omega)
  rw [e2, BitVec.toNat_ofNat, Nat.mod_eq_of_lt (show k < 2 ^ 64 from hk)] at e3
  rw [e3]
  unfold metaN
  omega
theorem lay_meta (s p k : Nat) (hs : s < 18446744073709551616) (hp : p < 18446744073709551616) (hk : k < 18446744073709551616) (w : World) (Bk : Nat)
    (h : w.heap[Bk]? = some (.cells #[.int .i64 0, .int .i64 32, .int .u64 (s : Int), .int .i64 32, .int .i64 9, .int .u64 (p : Int), .int .i64 48, .int .i64 12, .int .u64 (k : Int)] 108 (0, 0))) :
    Calls Tryd.prog 88 #[.slice (some ⟨Bk, 0, none⟩) 3 3] w (Makes (.int .u64 ((metaN s p k : Nat) : Int)) w) := by
  have hl := lay_any ⟨Bk, 0, none⟩ [(0, 32, BitVec.ofNat 64 s), (32, 9, BitVec.ofNat 64 p), (48, 12, BitVec.ofNat 64 k)] 3 w (by simp) (fun k hk => by
    have : k = 0 ∨ k = 1 ∨ k = 2 := by simp at hk; omega
    rcases this with rfl | rfl | rfl
    · simp [World.cell?, Addr.add, h]; omega
    · simp [World.cell?, Addr.add, h]; omega
    · simp [World.cell?, Addr.add, h]; omega)
  rw [lay3m s p k hs hp hk] at hl
  exact hl

set_option maxHeartbeats 1000000 in
theorem meta_any (s p k : Nat) (hs : s < 18446744073709551616) (hp : p < 18446744073709551616) (hk : k < 18446744073709551616) (w : World) :
    Calls Tryd.prog 66 #[.int .u64 (s : Int), .int .u64 (p : Int), .int .u64 (k : Int)] w (Makes (.int .u64 ((metaN s p k : Nat) : Int)) w) := by
  have PL := hide (lay_meta s p k hs hp hk)
  generalize ((metaN s p k : Nat) : Int) = R at *
  generalize (s : Int) = S at *
  generalize (p : Int) = P at *
  generalize (k : Int) = K at *
  clear hs hp hk
  go_enter Tryd.func66, Tryd.ntmps66
  go_wp2_with (first | (go_at_call 88; (with_reducible refine (PL.out _ _ (heap_alloc_new _ _)).mono ?_); rintro e w' ⟨rfl, hb⟩))
  go_ret
  refine ⟨rfl, ?_⟩
  repeat (first | with_reducible assumption | with_reducible exact Below.refl _ _ | with_reducible refine Below.drew ?_ | with_reducible refine below_drewN ?_ _ | with_reducible refine bw_alloc ?_ _ | (with_reducible refine bw_set ?_ ?_ _; focus (dsimp only; omega)) | (with_reducible apply bw_behind; with_reducible assumption))

def pwithinB (x y : BitVec 64) : Bool := x &&& ~~~y == 0#64
theorem pwithinB_iff (x y : BitVec 64) : pwithinB x y = true ↔ ∀ i, i < 64 → x.getLsbD i = true → y.getLsbD i = true := by
  unfold pwithinB
  rw [beq_iff_eq]
  constructor
  · intro h i hi hx
    have := congrArg (fun z => z.getLsbD i) h
    simp [hi, hx] at this
    exact this
  · intro h
    refine ext64 fun i hi => ?_
    have := h i hi
    simp [hi]
    exact this
set_option maxHeartbeats 400000 in
theorem within_bv (x y : BitVec 64) (w : World) : Calls Tryd.prog 68 #[.int .u64 (x.toNat : Int), .int .u64 (y.toNat : Int)] w (Quiet (.bool (pwithinB x y)) w) := by
  have h1 := andNot_bv x y
  have h2 : (((x &&& ~~~y).toNat : Int) == 0) = pwithinB x y := by
    have := bv_eq_iff (x &&& ~~~y) 0#64
    unfold pwithinB
    rw [← this]
    rfl
  generalize pwithinB x y = V at *
  generalize ((x &&& ~~~y).toNat : Int) = Z at *
  generalize (x.toNat : Int) = X at *
  generalize (y.toNat : Int) = Y at *
  go_enter Tryd.func68, Tryd.ntmps68
  go_wp2
  go_ret
  exact ⟨rfl, 0, rfl⟩
/-- Each bit of p is one of q. -/
def subN (p q : Nat) : Bool := decide (p &&& q = p)
theorem sub_within (p q : Nat) (hp : p < 18446744073709551616) (hq : q < 18446744073709551616) : pwithinB (BitVec.ofNat 64 p) (BitVec.ofNat 64 q) = subN p q := by
  have e : pwithinB (BitVec.ofNat 64 p) (BitVec.ofNat 64 q) = true ↔ subN p q = true := by
    rw [pwithinB_iff]
    unfold subN
    rw [decide_eq_true_eq]
    have hx : ∀ n : Nat, n < 18446744073709551616 → ∀ i, i < 64 → (BitVec.ofNat 64 n).getLsbD i = n.testBit i := fun n hn i hi => by rw [← BitVec.testBit_toNat, BitVec.toNat_ofNat, Nat.mod_eq_of_lt (show n < 2 ^ 64 from hn)]
    constructor
    · intro h
      refine Nat.eq_of_testBit_eq fun i => ?_
      rw [Nat.testBit_and]
      by_cases hi : i < 64
      · have := h i hi
        rw [hx p hp i hi, hx q hq i hi] at this
        cases h1 : p.testBit i
        · rfl
        · rw [this h1]; rfl
      · rw [Nat.testBit_lt_two_pow (Nat.lt_of_lt_of_le (show p < 2 ^ 64 from hp) (Nat.pow_le_pow_right (by decide) (by omega)))]; rfl
    · intro h i hi
      rw [hx p hp i hi, hx q hq i hi]
      intro h1
      have := congrArg (fun z => z.testBit i) h
      simp only [Nat.testBit_and, h1, Bool.true_and] at this
      exact this
  cases h1 : subN p q
  · cases h2 : pwithinB (BitVec.ofNat 64 p) (BitVec.ofNat 64 q)
    · rfl
    · rw [e.1 h2] at h1; cases h1
  · exact e.2 h1
theorem within_nat (p q : Nat) (hp : p < 18446744073709551616) (hq : q < 18446744073709551616) (w : World) : Calls Tryd.prog 68 #[.int .u64 (p : Int), .int .u64 (q : Int)] w (Quiet (.bool (subN p q)) w) := by
  have := within_bv (BitVec.ofNat 64 p) (BitVec.ofNat 64 q) w
  rw [sub_within p q hp hq, BitVec.toNat_ofNat, BitVec.toNat_ofNat, Nat.mod_eq_of_lt (show p < 2 ^ 64 from hp), Nat.mod_eq_of_lt (show q < 2 ^ 64 from hq)] at this
  exact this

set_option maxHeartbeats 400000 in
theorem swithin_any (A B C D : Int) (w : World) :
    Calls Tryd.prog 67 #[.agg #[.int .u64 A, .int .u64 B], .agg #[.int .u64 C, .int .u64 D]] w (Makes (.bool (decide (C ≤ A ∧ B ≤ D))) w) := by
  by_cases h1 : C ≤ A
  · by_cases h2 : B ≤ D
    · rw [decide_eq_true ⟨h1, h2⟩]
      go_enter Tryd.func67, Tryd.ntmps67
      go_wp2
      go_ret
      refine ⟨rfl, ?_⟩
      repeat (first | with_reducible assumption | with_reducible exact Below.refl _ _ | with_reducible refine Below.drew ?_ | with_reducible refine below_drewN ?_ _ | with_reducible refine bw_alloc ?_ _ | (with_reducible refine bw_set ?_ ?_ _; focus (dsimp only; omega)) | (with_reducible apply bw_behind; with_reducible assumption))
    · rw [decide_eq_false (fun h => h2 h.2)]
      go_enter Tryd.func67, Tryd.ntmps67
      go_wp2
      go_ret
      refine ⟨rfl, ?_⟩
      repeat (first | with_reducible assumption | with_reducible exact Below.refl _ _ | with_reducible refine Below.drew ?_ | with_reducible refine below_drewN ?_ _ | with_reducible refine bw_alloc ?_ _ | (with_reducible refine bw_set ?_ ?_ _; focus (dsimp only; omega)) | (with_reducible apply bw_behind; with_reducible assumption))
  · rw [decide_eq_false (fun h => h1 h.1)]
    go_enter Tryd.func67, Tryd.ntmps67
    go_wp2
    go_ret
    refine ⟨rfl, ?_⟩
    repeat (first | with_reducible assumption | with_reducible exact Below.refl _ _ | with_reducible refine Below.drew ?_ | with_reducible refine below_drewN ?_ _ | with_reducible refine bw_alloc ?_ _ | (with_reducible refine bw_set ?_ ?_ _; focus (dsimp only; omega)) | (with_reducible apply bw_behind; with_reducible assumption))
end Go.Proofs.YtbncoiejbclpjaaDoor
