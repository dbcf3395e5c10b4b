/-
  What the document's imm answers: the number that the program reads.
-/
import Derived.Test.YtlommbeokbicjaaGreatDoorGIref
import Derived.Test.YtlommbeokbicjaaGreatDoorGIm
namespace Go.Proofs.YtlommbeokbicjaaGreatDoor
open Go.RowKit Words FieldMath InstMath

def rawS (s : Nat) (x : BitVec 64) : BitVec 64 := readL x (partsL s) (fun _ => 0) 3
def immS (s : Nat) (x : BitVec 64) : Int := (if nS s = true then signB (rawS s x) (nW s) else rawS s x).toInt
theorem shl_term (x : BitVec 64) (a n l : Nat) (ha : a + n ≤ 64) (hl : l + n ≤ 32) : getB x (a : Int) (n : Int) <<< l = term l n (x >>> a) := by
  have ok : okF (a : Int) (n : Int) = true := by unfold okF; simp; omega
  refine ext64 fun i hi => ?_
  rw [term_bit _ _ _ _ hi, BitVec.getLsbD_shiftLeft]
  by_cases h : l ≤ i
  · have e1 : ¬ i < l := by omega
    have e2 : i - l < 64 := by omega
    have e3 : (((i - l : Nat) : Int) < (n : Int)) ↔ i < l + n := by omega
    rw [get_bit _ _ _ _ e2, ok, BitVec.getLsbD_ushiftRight]
    simp only [hi, h, e1, e3, decide_true, decide_false, Bool.not_false, Bool.true_and, Int.toNat_natCast]
  · have e1 : i < l := by omega
    simp only [h, e1, decide_true, decide_false, Bool.not_true, Bool.false_and, Bool.and_false]
theorem get_num (x : BitVec 64) (a n : Nat) (ha : a + n ≤ 64) (hn : n ≤ 32) : (getB x (a : Int) (n : Int)).toNat = (x >>> a).toNat % 2 ^ n := by
  have := shl_term x a n 0 ha (by omega)
  have h2 := congrArg BitVec.toNat this
  rw [term_toNat 0 n _ (by omega)] at h2
  simpa using h2
theorem term_dis (l1 n1 l2 n2 : Nat) (u v : BitVec 64) (h : l1 + n1 ≤ l2 ∨ l2 + n2 ≤ l1) : term l1 n1 u &&& term l2 n2 v = 0#64 := by
  refine ext64 fun i hi => ?_
  rw [BitVec.getLsbD_and, term_bit _ _ _ _ hi, term_bit _ _ _ _ hi]
  by_cases h1 : l1 ≤ i ∧ i < l1 + n1
  · by_cases h2 : l2 ≤ i
    · have : ¬ i < l2 + n2 := by omega
      simp [this]
    · simp [h2]
  · by_cases h2 : l1 ≤ i
    · have : ¬ i < l1 + n1 := fun h3 => h1 ⟨h2, h3⟩
      simp [this]
    · simp [h2]
theorem or_dis {a b c : BitVec 64} (h1 : a &&& c = 0#64) (h2 : b &&& c = 0#64) : (a ||| b) &&& c = 0#64 := by
  refine ext64 fun i hi => ?_
  have e1 := congrArg (fun z => z.getLsbD i) h1
  have e2 := congrArg (fun z => z.getLsbD i) h2
  simp only [BitVec.getLsbD_and] at e1 e2
  rw [BitVec.getLsbD_and, BitVec.getLsbD_or, Bool.and_or_distrib_right, e1, e2]
  simp
theorem zero_dis (c : BitVec 64) : 0#64 &&& c = 0#64 := by simp
theorem or_lt {a b : BitVec 64} (ha : a.toNat < 4294967296) (hb : b.toNat < 4294967296) : (a ||| b).toNat < 4294967296 := by
  rw [BitVec.toNat_or]
  exact Nat.or_lt_two_pow (n := 32) ha hb
theorem get_lt (x : BitVec 64) (a n : Nat) (ha : a + n ≤ 64) (hn : n ≤ 32) : (getB x (a : Int) (n : Int)).toNat < 2 ^ n := by
  rw [get_num x a n ha hn]
  exact Nat.mod_lt _ (Nat.two_pow_pos n)

set_option maxHeartbeats 1000000 in
theorem rimm_R (X : Int) (w : World) : Calls Tryz.prog 67 #[.int .u32 X, .int .u8 82] w (Quiet (.int .i64 0) w) := by
  go_enter Tryz.func67, Tryz.ntmps67
  go_wp2
  go_ret
  exact ⟨rfl, 0, rfl⟩
theorem imm_R (x : BitVec 64) (_hx : x.toNat < 4294967296) (w : World) : Calls Tryz.prog 67 #[.int .u32 (x.toNat : Int), .int .u8 82] w (Quiet (.int .i64 (immS 82 x)) w) := by
  have e : immS 82 x = 0 := by
    unfold immS
    rw [show rawS 82 x = 0#64 from rfl, show nS 82 = true from rfl, if_pos rfl, show signB 0#64 ((nW 82 : Nat) : Int) = 0#64 by decide +kernel]
    rfl
  rw [e]
  exact rimm_R _ w

set_option maxHeartbeats 1000000 in
theorem rimm_G (X : Int) (w : World) : Calls Tryz.prog 67 #[.int .u32 X, .int .u8 71] w (Quiet (.int .i64 0) w) := by
  go_enter Tryz.func67, Tryz.ntmps67
  go_wp2
  go_ret
  exact ⟨rfl, 0, rfl⟩
theorem imm_G (x : BitVec 64) (_hx : x.toNat < 4294967296) (w : World) : Calls Tryz.prog 67 #[.int .u32 (x.toNat : Int), .int .u8 71] w (Quiet (.int .i64 (immS 71 x)) w) := by
  have e : immS 71 x = 0 := by
    unfold immS
    rw [show rawS 71 x = 0#64 from rfl, show nS 71 = true from rfl, if_pos rfl, show signB 0#64 ((nW 71 : Nat) : Int) = 0#64 by decide +kernel]
    rfl
  rw [e]
  exact rimm_G _ w

set_option maxHeartbeats 1000000 in
theorem rimm_I (X I y0 : Int) (g0 : ∀ W, Calls Tryz.prog 68 #[.int .u32 X, .int .i64 20, .int .i64 12] W (Quiet (.int .u64 y0) W)) (gs : ∀ W, Calls Tryz.prog 93 #[.int .u64 y0, .int .i64 12] W (Quiet (.int .i64 I) W)) (w : World) : Calls Tryz.prog 67 #[.int .u32 X, .int .u8 73] w (Quiet (.int .i64 I) w) := by
  have Cg0 := hide g0
  have Cgs := hide gs
  clear g0 gs
  go_enter Tryz.func67, Tryz.ntmps67
  go_wp2_with (first | (go_at_call 68; (with_reducible first | refine (Cg0.out _).mono ?_); rintro e w' ⟨rfl, n1, rfl⟩) | (go_at_call 93; (with_reducible refine (Cgs.out _).mono ?_); rintro e w' ⟨rfl, n1, rfl⟩))
  go_ret
  first | exact ⟨rfl, 0, rfl⟩ | exact ⟨ret_int (by assumption), _, rfl⟩ | exact ⟨rfl, _, rfl⟩ | exact ⟨rfl, _, World.drewN_drewN ..⟩
theorem imm_I (x : BitVec 64) (hx : x.toNat < 4294967296) (w : World) : Calls Tryz.prog 67 #[.int .u32 (x.toNat : Int), .int .u8 73] w (Quiet (.int .i64 (immS 73 x)) w) := by
  have hr : rawS 73 x = (0#64 ||| getB x 20 12 <<< 0) := rfl
  rw [show getB x 20 12 <<< 0 = term 0 12 (x >>> 20) from shl_term x 20 12 0 (by decide) (by decide)] at hr
  have k0 := term_toNat 0 12 (x >>> 20) (by decide)
  have l0 := term_lt 0 12 (x >>> 20) (by decide)
  have z0 : (0#64).toNat < 4294967296 := by decide
  have e0 : (0#64).toNat = 0 := rfl
  have e1 := or_add (zero_dis _) z0 l0
  have z1 := or_lt z0 l0
  rw [← hr] at e1 z1
  have b0 : (getB x 20 12).toNat = (x >>> 20).toNat % 2 ^ 12 := get_num x 20 12 (by decide) (by decide)
  have c0 : (getB x 20 12).toNat < 2 ^ 12 := get_lt x 20 12 (by decide) (by decide)
  rw [← b0] at k0
  have hz : ((rawS 73 x).toNat : Int) = ((getB x 20 12).toNat : Int) := by
    rw [e1, k0]
    omega
  have hs := fun W => rsigned_any (rawS 73 x) 12 W
  have ei : immS 73 x = (signB (rawS 73 x) 12).toInt := rfl
  rw [ei]
  have hq : rawS 73 x = getB x 20 12 := BitVec.eq_of_toNat_eq (by omega)
  rw [hq]
  exact rimm_I _ _ _ (fun W => rget13 x hx 20 12 W) (fun W => rsigned_any _ 12 W) w

set_option maxHeartbeats 1000000 in
theorem rimm_C (X I y0 : Int) (g0 : ∀ W, Calls Tryz.prog 68 #[.int .u32 X, .int .i64 20, .int .i64 12] W (Quiet (.int .u64 y0) W)) (sI : wrap64 y0 = I) (w : World) : Calls Tryz.prog 67 #[.int .u32 X, .int .u8 67] w (Quiet (.int .i64 I) w) := by
  have Cg0 := hide g0
  clear g0
  go_enter Tryz.func67, Tryz.ntmps67
  go_wp2_with (first | (go_at_call 68; (with_reducible first | refine (Cg0.out _).mono ?_); rintro e w' ⟨rfl, n1, rfl⟩))
  go_ret
  first | exact ⟨rfl, 0, rfl⟩ | exact ⟨ret_int (by assumption), _, rfl⟩ | exact ⟨rfl, _, rfl⟩ | exact ⟨rfl, _, World.drewN_drewN ..⟩
theorem imm_C (x : BitVec 64) (hx : x.toNat < 4294967296) (w : World) : Calls Tryz.prog 67 #[.int .u32 (x.toNat : Int), .int .u8 67] w (Quiet (.int .i64 (immS 67 x)) w) := by
  have hr : rawS 67 x = (0#64 ||| getB x 20 12 <<< 0) := rfl
  rw [show getB x 20 12 <<< 0 = term 0 12 (x >>> 20) from shl_term x 20 12 0 (by decide) (by decide)] at hr
  have k0 := term_toNat 0 12 (x >>> 20) (by decide)
  have l0 := term_lt 0 12 (x >>> 20) (by decide)
  have z0 : (0#64).toNat < 4294967296 := by decide
  have e0 : (0#64).toNat = 0 := rfl
  have e1 := or_add (zero_dis _) z0 l0
  have z1 := or_lt z0 l0
  rw [← hr] at e1 z1
  have b0 : (getB x 20 12).toNat = (x >>> 20).toNat % 2 ^ 12 := get_num x 20 12 (by decide) (by decide)
  have c0 : (getB x 20 12).toNat < 2 ^ 12 := get_lt x 20 12 (by decide) (by decide)
  rw [← b0] at k0
  have hz : ((rawS 67 x).toNat : Int) = ((getB x 20 12).toNat : Int) := by
    rw [e1, k0]
    omega
  have ei : immS 67 x = (rawS 67 x).toInt := rfl
  rw [ei]
  have hw := wrap64_bv (rawS 67 x)
  have hq : rawS 67 x = getB x 20 12 := BitVec.eq_of_toNat_eq (by omega)
  rw [hq] at hw ⊢
  exact rimm_C _ _ _ (fun W => rget13 x hx 20 12 W) hw w

set_option maxHeartbeats 1000000 in
theorem rimm_H (X I y0 : Int) (g0 : ∀ W, Calls Tryz.prog 68 #[.int .u32 X, .int .i64 20, .int .i64 6] W (Quiet (.int .u64 y0) W)) (sI : wrap64 y0 = I) (w : World) : Calls Tryz.prog 67 #[.int .u32 X, .int .u8 72] w (Quiet (.int .i64 I) w) := by
  have Cg0 := hide g0
  clear g0
  go_enter Tryz.func67, Tryz.ntmps67
  go_wp2_with (first | (go_at_call 68; (with_reducible first | refine (Cg0.out _).mono ?_); rintro e w' ⟨rfl, n1, rfl⟩))
  go_ret
  first | exact ⟨rfl, 0, rfl⟩ | exact ⟨ret_int (by assumption), _, rfl⟩ | exact ⟨rfl, _, rfl⟩ | exact ⟨rfl, _, World.drewN_drewN ..⟩
theorem imm_H (x : BitVec 64) (hx : x.toNat < 4294967296) (w : World) : Calls Tryz.prog 67 #[.int .u32 (x.toNat : Int), .int .u8 72] w (Quiet (.int .i64 (immS 72 x)) w) := by
  have hr : rawS 72 x = (0#64 ||| getB x 20 6 <<< 0) := rfl
  rw [show getB x 20 6 <<< 0 = term 0 6 (x >>> 20) from shl_term x 20 6 0 (by decide) (by decide)] at hr
  have k0 := term_toNat 0 6 (x >>> 20) (by decide)
  have l0 := term_lt 0 6 (x >>> 20) (by decide)
  have z0 : (0#64).toNat < 4294967296 := by decide
  have e0 : (0#64).toNat = 0 := rfl
  have e1 := or_add (zero_dis _) z0 l0
  have z1 := or_lt z0 l0
  rw [← hr] at e1 z1
  have b0 : (getB x 20 6).toNat = (x >>> 20).toNat % 2 ^ 6 := get_num x 20 6 (by decide) (by decide)
  have c0 : (getB x 20 6).toNat < 2 ^ 6 := get_lt x 20 6 (by decide) (by decide)
  rw [← b0] at k0
  have hz : ((rawS 72 x).toNat : Int) = ((getB x 20 6).toNat : Int) := by
    rw [e1, k0]
    omega
  have ei : immS 72 x = (rawS 72 x).toInt := rfl
  rw [ei]
  have hw := wrap64_bv (rawS 72 x)
  have hq : rawS 72 x = getB x 20 6 := BitVec.eq_of_toNat_eq (by omega)
  rw [hq] at hw ⊢
  exact rimm_H _ _ _ (fun W => rget13 x hx 20 6 W) hw w

set_option maxHeartbeats 1000000 in
theorem rimm_S (X I y0 y1 h1 v0 : Int) (g0 : ∀ W, Calls Tryz.prog 68 #[.int .u32 X, .int .i64 7, .int .i64 5] W (Quiet (.int .u64 y0) W)) (g1 : ∀ W, Calls Tryz.prog 68 #[.int .u32 X, .int .i64 25, .int .i64 7] W (Quiet (.int .u64 y1) W)) (gs : ∀ W, Calls Tryz.prog 93 #[.int .u64 v0, .int .i64 12] W (Quiet (.int .i64 I) W)) (s1 : IntKind.u64.wrap (y1 * 32) = h1) (a0 : IntKind.u64.wrap (y0 + h1) = v0) (w : World) : Calls Tryz.prog 67 #[.int .u32 X, .int .u8 83] w (Quiet (.int .i64 I) w) := by
  have Cg0 := hide g0
  have Cg1 := hide g1
  have Cgs := hide gs
  clear g0 g1 gs
  go_enter Tryz.func67, Tryz.ntmps67
  go_wp2_with (first | (go_at_call 68; (with_reducible first | refine (Cg0.out _).mono ?_ | refine (Cg1.out _).mono ?_); rintro e w' ⟨rfl, n1, rfl⟩) | (go_at_call 93; (with_reducible refine (Cgs.out _).mono ?_); rintro e w' ⟨rfl, n1, rfl⟩))
  go_ret
  first | exact ⟨rfl, 0, rfl⟩ | exact ⟨ret_int (by assumption), _, rfl⟩ | exact ⟨rfl, _, rfl⟩ | exact ⟨rfl, _, World.drewN_drewN ..⟩
theorem imm_S (x : BitVec 64) (hx : x.toNat < 4294967296) (w : World) : Calls Tryz.prog 67 #[.int .u32 (x.toNat : Int), .int .u8 83] w (Quiet (.int .i64 (immS 83 x)) w) := by
  have hr : rawS 83 x = ((0#64 ||| getB x 7 5 <<< 0) ||| getB x 25 7 <<< 5) := rfl
  rw [show getB x 7 5 <<< 0 = term 0 5 (x >>> 7) from shl_term x 7 5 0 (by decide) (by decide)] at hr
  have k0 := term_toNat 0 5 (x >>> 7) (by decide)
  have l0 := term_lt 0 5 (x >>> 7) (by decide)
  rw [show getB x 25 7 <<< 5 = term 5 7 (x >>> 25) from shl_term x 25 7 5 (by decide) (by decide)] at hr
  have k1 := term_toNat 5 7 (x >>> 25) (by decide)
  have l1 := term_lt 5 7 (x >>> 25) (by decide)
  have z0 : (0#64).toNat < 4294967296 := by decide
  have e0 : (0#64).toNat = 0 := rfl
  have e1 := or_add (zero_dis _) z0 l0
  have z1 := or_lt z0 l0
  have e2 := or_add (or_dis (zero_dis _) (term_dis 0 5 5 7 _ _ (by decide))) z1 l1
  have z2 := or_lt z1 l1
  rw [← hr] at e2 z2
  have b0 : (getB x 7 5).toNat = (x >>> 7).toNat % 2 ^ 5 := get_num x 7 5 (by decide) (by decide)
  have c0 : (getB x 7 5).toNat < 2 ^ 5 := get_lt x 7 5 (by decide) (by decide)
  have b1 : (getB x 25 7).toNat = (x >>> 25).toNat % 2 ^ 7 := get_num x 25 7 (by decide) (by decide)
  have c1 : (getB x 25 7).toNat < 2 ^ 7 := get_lt x 25 7 (by decide) (by decide)
  rw [← b0] at k0
  rw [← b1] at k1
  have hz : ((rawS 83 x).toNat : Int) = ((getB x 7 5).toNat : Int) + ((getB x 25 7).toNat : Int) * 32 := by
    rw [e1] at e2
    rw [e2, k0, k1]
    omega
  have hs := fun W => rsigned_any (rawS 83 x) 12 W
  have ei : immS 83 x = (signB (rawS 83 x) 12).toInt := rfl
  rw [ei]
  have hq : IntKind.u64.wrap (((getB x 7 5).toNat : Int) + IntKind.u64.wrap (((getB x 25 7).toNat : Int) * 32)) = ((rawS 83 x).toNat : Int) := by
    simp only [IntKind.wrap_u64]
    omega
  rw [← hq] at hs
  exact rimm_S _ _ _ _ _ _ (fun W => rget13 x hx 7 5 W) (fun W => rget13 x hx 25 7 W) hs rfl rfl w

set_option maxHeartbeats 1000000 in
theorem rimm_B (X I y0 y1 y2 y3 h0 h1 h2 h3 v0 v1 v2 : Int) (g0 : ∀ W, Calls Tryz.prog 68 #[.int .u32 X, .int .i64 8, .int .i64 4] W (Quiet (.int .u64 y0) W)) (g1 : ∀ W, Calls Tryz.prog 68 #[.int .u32 X, .int .i64 25, .int .i64 6] W (Quiet (.int .u64 y1) W)) (g2 : ∀ W, Calls Tryz.prog 68 #[.int .u32 X, .int .i64 7, .int .i64 1] W (Quiet (.int .u64 y2) W)) (g3 : ∀ W, Calls Tryz.prog 68 #[.int .u32 X, .int .i64 31, .int .i64 1] W (Quiet (.int .u64 y3) W)) (gs : ∀ W, Calls Tryz.prog 93 #[.int .u64 v2, .int .i64 13] W (Quiet (.int .i64 I) W)) (s0 : IntKind.u64.wrap (y0 * 2) = h0) (s1 : IntKind.u64.wrap (y1 * 32) = h1) (s2 : IntKind.u64.wrap (y2 * 2048) = h2) (s3 : IntKind.u64.wrap (y3 * 4096) = h3) (a0 : IntKind.u64.wrap (h0 + h1) = v0) (a1 : IntKind.u64.wrap (v0 + h2) = v1) (a2 : IntKind.u64.wrap (v1 + h3) = v2) (w : World) : Calls Tryz.prog 67 #[.int .u32 X, .int .u8 66] w (Quiet (.int .i64 I) w) := by
  have Cg0 := hide g0
  have Cg1 := hide g1
  have Cg2 := hide g2
  have Cg3 := hide g3
  have Cgs := hide gs
  clear g0 g1 g2 g3 gs
  go_enter Tryz.func67, Tryz.ntmps67
  go_wp2_with (first | (go_at_call 68; (with_reducible first | refine (Cg0.out _).mono ?_ | refine (Cg1.out _).mono ?_ | refine (Cg2.out _).mono ?_ | refine (Cg3.out _).mono ?_); rintro e w' ⟨rfl, n1, rfl⟩) | (go_at_call 93; (with_reducible refine (Cgs.out _).mono ?_); rintro e w' ⟨rfl, n1, rfl⟩))
  go_ret
  first | exact ⟨rfl, 0, rfl⟩ | exact ⟨ret_int (by assumption), _, rfl⟩ | exact ⟨rfl, _, rfl⟩ | exact ⟨rfl, _, World.drewN_drewN ..⟩
theorem imm_B (x : BitVec 64) (hx : x.toNat < 4294967296) (w : World) : Calls Tryz.prog 67 #[.int .u32 (x.toNat : Int), .int .u8 66] w (Quiet (.int .i64 (immS 66 x)) w) := by
  have hr : rawS 66 x = ((((0#64 ||| getB x 8 4 <<< 1) ||| getB x 25 6 <<< 5) ||| getB x 7 1 <<< 11) ||| getB x 31 1 <<< 12) := rfl
  rw [show getB x 8 4 <<< 1 = term 1 4 (x >>> 8) from shl_term x 8 4 1 (by decide) (by decide)] at hr
  have k0 := term_toNat 1 4 (x >>> 8) (by decide)
  have l0 := term_lt 1 4 (x >>> 8) (by decide)
  rw [show getB x 25 6 <<< 5 = term 5 6 (x >>> 25) from shl_term x 25 6 5 (by decide) (by decide)] at hr
  have k1 := term_toNat 5 6 (x >>> 25) (by decide)
  have l1 := term_lt 5 6 (x >>> 25) (by decide)
  rw [show getB x 7 1 <<< 11 = term 11 1 (x >>> 7) from shl_term x 7 1 11 (by decide) (by decide)] at hr
  have k2 := term_toNat 11 1 (x >>> 7) (by decide)
  have l2 := term_lt 11 1 (x >>> 7) (by decide)
  rw [show getB x 31 1 <<< 12 = term 12 1 (x >>> 31) from shl_term x 31 1 12 (by decide) (by decide)] at hr
  have k3 := term_toNat 12 1 (x >>> 31) (by decide)
  have l3 := term_lt 12 1 (x >>> 31) (by decide)
  have z0 : (0#64).toNat < 4294967296 := by decide
  have e0 : (0#64).toNat = 0 := rfl
  have e1 := or_add (zero_dis _) z0 l0
  have z1 := or_lt z0 l0
  have e2 := or_add (or_dis (zero_dis _) (term_dis 1 4 5 6 _ _ (by decide))) z1 l1
  have z2 := or_lt z1 l1
  have e3 := or_add (or_dis (or_dis (zero_dis _) (term_dis 1 4 11 1 _ _ (by decide))) (term_dis 5 6 11 1 _ _ (by decide))) z2 l2
  have z3 := or_lt z2 l2
  have e4 := or_add (or_dis (or_dis (or_dis (zero_dis _) (term_dis 1 4 12 1 _ _ (by decide))) (term_dis 5 6 12 1 _ _ (by decide))) (term_dis 11 1 12 1 _ _ (by decide))) z3 l3
  have z4 := or_lt z3 l3
  rw [← hr] at e4 z4
  have b0 : (getB x 8 4).toNat = (x >>> 8).toNat % 2 ^ 4 := get_num x 8 4 (by decide) (by decide)
  have c0 : (getB x 8 4).toNat < 2 ^ 4 := get_lt x 8 4 (by decide) (by decide)
  have b1 : (getB x 25 6).toNat = (x >>> 25).toNat % 2 ^ 6 := get_num x 25 6 (by decide) (by decide)
  have c1 : (getB x 25 6).toNat < 2 ^ 6 := get_lt x 25 6 (by decide) (by decide)
  have b2 : (getB x 7 1).toNat = (x >>> 7).toNat % 2 ^ 1 := get_num x 7 1 (by decide) (by decide)
  have c2 : (getB x 7 1).toNat < 2 ^ 1 := get_lt x 7 1 (by decide) (by decide)
  have b3 : (getB x 31 1).toNat = (x >>> 31).toNat % 2 ^ 1 := get_num x 31 1 (by decide) (by decide)
  have c3 : (getB x 31 1).toNat < 2 ^ 1 := get_lt x 31 1 (by decide) (by decide)
  rw [← b0] at k0
  rw [← b1] at k1
  rw [← b2] at k2
  rw [← b3] at k3
  have hz : ((rawS 66 x).toNat : Int) = ((getB x 8 4).toNat : Int) * 2 + ((getB x 25 6).toNat : Int) * 32 + ((getB x 7 1).toNat : Int) * 2048 + ((getB x 31 1).toNat : Int) * 4096 := by
    rw [e1] at e2
    rw [e2] at e3
    rw [e3] at e4
    rw [e4, k0, k1, k2, k3]
    omega
  have hs := fun W => rsigned_any (rawS 66 x) 13 W
  have ei : immS 66 x = (signB (rawS 66 x) 13).toInt := rfl
  rw [ei]
  have hq : IntKind.u64.wrap (IntKind.u64.wrap (IntKind.u64.wrap (IntKind.u64.wrap (((getB x 8 4).toNat : Int) * 2) + IntKind.u64.wrap (((getB x 25 6).toNat : Int) * 32)) + IntKind.u64.wrap (((getB x 7 1).toNat : Int) * 2048)) + IntKind.u64.wrap (((getB x 31 1).toNat : Int) * 4096)) = ((rawS 66 x).toNat : Int) := by
    simp only [IntKind.wrap_u64]
    omega
  rw [← hq] at hs
  exact rimm_B _ _ _ _ _ _ _ _ _ _ _ _ _ (fun W => rget13 x hx 8 4 W) (fun W => rget13 x hx 25 6 W) (fun W => rget13 x hx 7 1 W) (fun W => rget13 x hx 31 1 W) hs rfl rfl rfl rfl rfl rfl rfl w

set_option maxHeartbeats 1000000 in
theorem rimm_U (X I y0 h0 : Int) (g0 : ∀ W, Calls Tryz.prog 68 #[.int .u32 X, .int .i64 12, .int .i64 20] W (Quiet (.int .u64 y0) W)) (gs : ∀ W, Calls Tryz.prog 93 #[.int .u64 h0, .int .i64 32] W (Quiet (.int .i64 I) W)) (s0 : IntKind.u64.wrap (y0 * 4096) = h0) (w : World) : Calls Tryz.prog 67 #[.int .u32 X, .int .u8 85] w (Quiet (.int .i64 I) w) := by
  have Cg0 := hide g0
  have Cgs := hide gs
  clear g0 gs
  go_enter Tryz.func67, Tryz.ntmps67
  go_wp2_with (first | (go_at_call 68; (with_reducible first | refine (Cg0.out _).mono ?_); rintro e w' ⟨rfl, n1, rfl⟩) | (go_at_call 93; (with_reducible refine (Cgs.out _).mono ?_); rintro e w' ⟨rfl, n1, rfl⟩))
  go_ret
  first | exact ⟨rfl, 0, rfl⟩ | exact ⟨ret_int (by assumption), _, rfl⟩ | exact ⟨rfl, _, rfl⟩ | exact ⟨rfl, _, World.drewN_drewN ..⟩
theorem imm_U (x : BitVec 64) (hx : x.toNat < 4294967296) (w : World) : Calls Tryz.prog 67 #[.int .u32 (x.toNat : Int), .int .u8 85] w (Quiet (.int .i64 (immS 85 x)) w) := by
  have hr : rawS 85 x = (0#64 ||| getB x 12 20 <<< 12) := rfl
  rw [show getB x 12 20 <<< 12 = term 12 20 (x >>> 12) from shl_term x 12 20 12 (by decide) (by decide)] at hr
  have k0 := term_toNat 12 20 (x >>> 12) (by decide)
  have l0 := term_lt 12 20 (x >>> 12) (by decide)
  have z0 : (0#64).toNat < 4294967296 := by decide
  have e0 : (0#64).toNat = 0 := rfl
  have e1 := or_add (zero_dis _) z0 l0
  have z1 := or_lt z0 l0
  rw [← hr] at e1 z1
  have b0 : (getB x 12 20).toNat = (x >>> 12).toNat % 2 ^ 20 := get_num x 12 20 (by decide) (by decide)
  have c0 : (getB x 12 20).toNat < 2 ^ 20 := get_lt x 12 20 (by decide) (by decide)
  rw [← b0] at k0
  have hz : ((rawS 85 x).toNat : Int) = ((getB x 12 20).toNat : Int) * 4096 := by
    rw [e1, k0]
    omega
  have hs := fun W => rsigned_any (rawS 85 x) 32 W
  have ei : immS 85 x = (signB (rawS 85 x) 32).toInt := rfl
  rw [ei]
  have hq : IntKind.u64.wrap (((getB x 12 20).toNat : Int) * 4096) = ((rawS 85 x).toNat : Int) := by
    simp only [IntKind.wrap_u64]
    omega
  rw [← hq] at hs
  exact rimm_U _ _ _ _ (fun W => rget13 x hx 12 20 W) hs rfl w

set_option maxHeartbeats 1000000 in
theorem rimm_J (X I y0 y1 y2 y3 h0 h1 h2 h3 v0 v1 v2 : Int) (g0 : ∀ W, Calls Tryz.prog 68 #[.int .u32 X, .int .i64 21, .int .i64 10] W (Quiet (.int .u64 y0) W)) (g1 : ∀ W, Calls Tryz.prog 68 #[.int .u32 X, .int .i64 20, .int .i64 1] W (Quiet (.int .u64 y1) W)) (g2 : ∀ W, Calls Tryz.prog 68 #[.int .u32 X, .int .i64 12, .int .i64 8] W (Quiet (.int .u64 y2) W)) (g3 : ∀ W, Calls Tryz.prog 68 #[.int .u32 X, .int .i64 31, .int .i64 1] W (Quiet (.int .u64 y3) W)) (gs : ∀ W, Calls Tryz.prog 93 #[.int .u64 v2, .int .i64 21] W (Quiet (.int .i64 I) W)) (s0 : IntKind.u64.wrap (y0 * 2) = h0) (s1 : IntKind.u64.wrap (y1 * 2048) = h1) (s2 : IntKind.u64.wrap (y2 * 4096) = h2) (s3 : IntKind.u64.wrap (y3 * 1048576) = h3) (a0 : IntKind.u64.wrap (h0 + h1) = v0) (a1 : IntKind.u64.wrap (v0 + h2) = v1) (a2 : IntKind.u64.wrap (v1 + h3) = v2) (w : World) : Calls Tryz.prog 67 #[.int .u32 X, .int .u8 74] w (Quiet (.int .i64 I) w) := by
  have Cg0 := hide g0
  have Cg1 := hide g1
  have Cg2 := hide g2
  have Cg3 := hide g3
  have Cgs := hide gs
  clear g0 g1 g2 g3 gs
  go_enter Tryz.func67, Tryz.ntmps67
  go_wp2_with (first | (go_at_call 68; (with_reducible first | refine (Cg0.out _).mono ?_ | refine (Cg1.out _).mono ?_ | refine (Cg2.out _).mono ?_ | refine (Cg3.out _).mono ?_); rintro e w' ⟨rfl, n1, rfl⟩) | (go_at_call 93; (with_reducible refine (Cgs.out _).mono ?_); rintro e w' ⟨rfl, n1, rfl⟩))
  go_ret
  first | exact ⟨rfl, 0, rfl⟩ | exact ⟨ret_int (by assumption), _, rfl⟩ | exact ⟨rfl, _, rfl⟩ | exact ⟨rfl, _, World.drewN_drewN ..⟩
theorem imm_J (x : BitVec 64) (hx : x.toNat < 4294967296) (w : World) : Calls Tryz.prog 67 #[.int .u32 (x.toNat : Int), .int .u8 74] w (Quiet (.int .i64 (immS 74 x)) w) := by
  have hr : rawS 74 x = ((((0#64 ||| getB x 12 8 <<< 12) ||| getB x 20 1 <<< 11) ||| getB x 21 10 <<< 1) ||| getB x 31 1 <<< 20) := rfl
  rw [show getB x 12 8 <<< 12 = term 12 8 (x >>> 12) from shl_term x 12 8 12 (by decide) (by decide)] at hr
  have k0 := term_toNat 12 8 (x >>> 12) (by decide)
  have l0 := term_lt 12 8 (x >>> 12) (by decide)
  rw [show getB x 20 1 <<< 11 = term 11 1 (x >>> 20) from shl_term x 20 1 11 (by decide) (by decide)] at hr
  have k1 := term_toNat 11 1 (x >>> 20) (by decide)
  have l1 := term_lt 11 1 (x >>> 20) (by decide)
  rw [show getB x 21 10 <<< 1 = term 1 10 (x >>> 21) from shl_term x 21 10 1 (by decide) (by decide)] at hr
  have k2 := term_toNat 1 10 (x >>> 21) (by decide)
  have l2 := term_lt 1 10 (x >>> 21) (by decide)
  rw [show getB x 31 1 <<< 20 = term 20 1 (x >>> 31) from shl_term x 31 1 20 (by decide) (by decide)] at hr
  have k3 := term_toNat 20 1 (x >>> 31) (by decide)
  have l3 := term_lt 20 1 (x >>> 31) (by decide)
  have z0 : (0#64).toNat < 4294967296 := by decide
  have e0 : (0#64).toNat = 0 := rfl
  have e1 := or_add (zero_dis _) z0 l0
  have z1 := or_lt z0 l0
  have e2 := or_add (or_dis (zero_dis _) (term_dis 12 8 11 1 _ _ (by decide))) z1 l1
  have z2 := or_lt z1 l1
  have e3 := or_add (or_dis (or_dis (zero_dis _) (term_dis 12 8 1 10 _ _ (by decide))) (term_dis 11 1 1 10 _ _ (by decide))) z2 l2
  have z3 := or_lt z2 l2
  have e4 := or_add (or_dis (or_dis (or_dis (zero_dis _) (term_dis 12 8 20 1 _ _ (by decide))) (term_dis 11 1 20 1 _ _ (by decide))) (term_dis 1 10 20 1 _ _ (by decide))) z3 l3
  have z4 := or_lt z3 l3
  rw [← hr] at e4 z4
  have b0 : (getB x 21 10).toNat = (x >>> 21).toNat % 2 ^ 10 := get_num x 21 10 (by decide) (by decide)
  have c0 : (getB x 21 10).toNat < 2 ^ 10 := get_lt x 21 10 (by decide) (by decide)
  have b1 : (getB x 20 1).toNat = (x >>> 20).toNat % 2 ^ 1 := get_num x 20 1 (by decide) (by decide)
  have c1 : (getB x 20 1).toNat < 2 ^ 1 := get_lt x 20 1 (by decide) (by decide)
  have b2 : (getB x 12 8).toNat = (x >>> 12).toNat % 2 ^ 8 := get_num x 12 8 (by decide) (by decide)
  have c2 : (getB x 12 8).toNat < 2 ^ 8 := get_lt x 12 8 (by decide) (by decide)
  have b3 : (getB x 31 1).toNat = (x >>> 31).toNat % 2 ^ 1 := get_num x 31 1 (by decide) (by decide)
  have c3 : (getB x 31 1).toNat < 2 ^ 1 := get_lt x 31 1 (by decide) (by decide)
  rw [← b2] at k0
  rw [← b1] at k1
  rw [← b0] at k2
  rw [← b3] at k3
  have hz : ((rawS 74 x).toNat : Int) = ((getB x 21 10).toNat : Int) * 2 + ((getB x 20 1).toNat : Int) * 2048 + ((getB x 12 8).toNat : Int) * 4096 + ((getB x 31 1).toNat : Int) * 1048576 := by
    rw [e1] at e2
    rw [e2] at e3
    rw [e3] at e4
    rw [e4, k0, k1, k2, k3]
    omega
  have hs := fun W => rsigned_any (rawS 74 x) 21 W
  have ei : immS 74 x = (signB (rawS 74 x) 21).toInt := rfl
  rw [ei]
  have hq : IntKind.u64.wrap (IntKind.u64.wrap (IntKind.u64.wrap (IntKind.u64.wrap (((getB x 21 10).toNat : Int) * 2) + IntKind.u64.wrap (((getB x 20 1).toNat : Int) * 2048)) + IntKind.u64.wrap (((getB x 12 8).toNat : Int) * 4096)) + IntKind.u64.wrap (((getB x 31 1).toNat : Int) * 1048576)) = ((rawS 74 x).toNat : Int) := by
    simp only [IntKind.wrap_u64]
    omega
  rw [← hq] at hs
  exact rimm_J _ _ _ _ _ _ _ _ _ _ _ _ _ (fun W => rget13 x hx 21 10 W) (fun W => rget13 x hx 20 1 W) (fun W => rget13 x hx 12 8 W) (fun W => rget13 x hx 31 1 W) hs rfl rfl rfl rfl rfl rfl rfl w

set_option maxHeartbeats 1000000 in
theorem rimm_N (X : Int) (w : World) : Calls Tryz.prog 67 #[.int .u32 X, .int .u8 78] w (Quiet (.int .i64 0) w) := by
  go_enter Tryz.func67, Tryz.ntmps67
  go_wp2
  go_ret
  exact ⟨rfl, 0, rfl⟩
theorem imm_N (x : BitVec 64) (_hx : x.toNat < 4294967296) (w : World) : Calls Tryz.prog 67 #[.int .u32 (x.toNat : Int), .int .u8 78] w (Quiet (.int .i64 (immS 78 x)) w) := by
  have e : immS 78 x = 0 := by
    unfold immS
    rw [show rawS 78 x = 0#64 from rfl, show nS 78 = true from rfl, if_pos rfl, show signB 0#64 ((nW 78 : Nat) : Int) = 0#64 by decide +kernel]
    rfl
  rw [e]
  exact rimm_N _ w
theorem imm_any (s : Nat) (hs : IsShape s) (x : BitVec 64) (hx : x.toNat < 4294967296) (w : World) : Calls Tryz.prog 67 #[.int .u32 (x.toNat : Int), .int .u8 (s : Int)] w (Quiet (.int .i64 (immS s x)) w) :=
  each_shape (P := fun s => Calls Tryz.prog 67 #[.int .u32 (x.toNat : Int), .int .u8 (s : Int)] w (Quiet (.int .i64 (immS s x)) w)) ⟨imm_R x hx w, imm_G x hx w, imm_I x hx w, imm_C x hx w, imm_H x hx w, imm_S x hx w, imm_B x hx w, imm_U x hx w, imm_J x hx w, imm_N x hx w⟩ hs
end Go.Proofs.YtlommbeokbicjaaGreatDoor
