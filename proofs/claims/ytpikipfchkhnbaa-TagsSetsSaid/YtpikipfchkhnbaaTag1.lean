/-
  What the small functions answer: whether a granule is there, its bit, how many bits of a word are 1, and when two sets are the same.
-/
import Derived.Test.YtpikipfchkhnbaaTagPop
import Derived.Test.YtpikipfchkhnbaaMore
import Derived.DeepKeys
import Derived.Deep.DeepCutAuto
import Derived.Deep.RegionHeld3
namespace Go.Proofs.Ytpikipfchkhnbaa
open Go.RowKit Words

theorem behind_one {f : FuncId} {args : Array Value} {v : Value} {w0 : World} (c : ∀ W, Calls Try.prog f args W (Makes v W)) (y : Behind w0.heap.size w0) :
    Calls Try.prog f args y.world fun e w'' => e = .returned v ∧ ∃ z : Behind w0.heap.size w0, w'' = z.world := Behind.call c y
theorem quiet_made {f : FuncId} {args : Array Value} {v : Value} (c : ∀ W, Calls Try.prog f args W (Quiet v W)) : ∀ W, Calls Try.prog f args W (Makes v W) := fun W => (c W).mono fun _ _ h => quiet_makes h

set_option maxHeartbeats 400000 in
theorem gran_any (i : Int) (w : World) : Calls Try.prog 20 #[.int .i64 i] w (Quiet (.bool (granB i)) w) := by
  go_enter Try.func20, Try.ntmps20
  go_wp2
  all_goals
    go_ret
    exact ⟨ret_bool (by unfold granB; first | (simp [*]; done) | (simp [*]; omega)), 0, rfl⟩

theorem one_shl (r : Nat) : IntKind.u64.wrap (2 ^ r) = ((bitW r).toNat : Int) := by
  have h := shl_bv 1#64 r
  have h1 : ((1#64 : BitVec 64).toNat : Int) = 1 := rfl
  rw [h1, Int.one_mul] at h
  exact h

set_option maxHeartbeats 400000 in
theorem bit_any (i : Int) (r : Nat) (hr : i.tmod 64 = (r : Int)) (h64 : r < 64) (w : World) : Calls Try.prog 21 #[.int .i64 i] w (Quiet (.int .u64 ((bitW r).toNat : Int)) w) := by
  have h1 := one_shl r
  have h0 : 0 ≤ (r : Int) := by omega
  have h2 : (r : Int) < 64 := by omega
  generalize ((bitW r).toNat : Int) = Y at *
  rw [show (2 : Int) ^ r = 2 ^ (r : Int).toNat by simp] at h1
  clear h64
  generalize (r : Int) = R at *
  go_enter Try.func21, Try.ntmps21
  go_wp2
  go_ret
  exact ⟨ret_int rfl, 0, rfl⟩

set_option maxHeartbeats 400000 in
theorem ones64_let (X P Q Z P2 Q2 A A2 B C D E F G : Int) (h1 : bits .and .u64 (X / 2) 6148914691236517205 = P) (h2 : bits .and .u64 X 6148914691236517205 = Q) (h3 : IntKind.u64.wrap (P + Q) = Z)
    (h4 : bits .and .u64 (Z / 4) 3689348814741910323 = P2) (h5 : bits .and .u64 Z 3689348814741910323 = Q2) (h6 : IntKind.u64.wrap (P2 + Q2) = A) (h7 : IntKind.u64.wrap (A / 16 + A) = A2)
    (h8 : bits .and .u64 A2 1085102592571150095 = B) (h9 : IntKind.u64.wrap (B + B / 256) = C) (h10 : IntKind.u64.wrap (C + C / 65536) = D) (h11 : IntKind.u64.wrap (D + D / 4294967296) = E)
    (h12 : RowKit.wrap64 E = F) (h13 : bits .and .i64 F 127 = G) (w : World) : Calls Try.prog 19 #[.int .u64 X] w (Quiet (.int .i64 G) w) := by
  go_enter Try.func19, Try.ntmps19
  go_wp2
  go_ret
  exact ⟨ret_int rfl, 0, rfl⟩

theorem and_nat (a b : Nat) (ha : a < 18446744073709551616) (hb : b < 18446744073709551616) : bits .and .u64 (a : Int) (b : Int) = ((a &&& b : Nat) : Int) := by
  have h := and_bv (BitVec.ofNat 64 a) (BitVec.ofNat 64 b)
  rw [BitVec.toNat_and, BitVec.toNat_ofNat, BitVec.toNat_ofNat, Nat.mod_eq_of_lt (show a < 2 ^ 64 by omega), Nat.mod_eq_of_lt (show b < 2 ^ 64 by omega)] at h
  exact h
theorem wrap_nat {n : Nat} (h : n < 18446744073709551616) : IntKind.u64.wrap (n : Int) = (n : Int) := by
  show (n : Int) % 18446744073709551616 = _
  omega
theorem wrap_64 (n : Nat) (h : n < 18446744073709551616) : bits .and .i64 (RowKit.wrap64 (n : Int)) 127 = ((n % 128 : Nat) : Int) := by
  have h1 := wrap64_bv (BitVec.ofNat 64 n)
  rw [BitVec.toNat_ofNat, Nat.mod_eq_of_lt (show n < 2 ^ 64 by omega)] at h1
  have h2 : ∀ a : Int, bits .and .i64 a 127 = IntKind.i64.wrap ((BitVec.ofInt 64 a &&& BitVec.ofInt 64 127).toNat : Int) := fun _ => rfl
  rw [h1, h2, ofInt_toInt]
  have h3 : (BitVec.ofNat 64 n &&& BitVec.ofInt 64 127).toNat = n % 128 := by
    rw [BitVec.toNat_and, BitVec.toNat_ofNat, Nat.mod_eq_of_lt (show n < 2 ^ 64 by omega)]
    exact Nat.and_two_pow_sub_one_eq_mod n 7
  rw [h3, IntKind.wrap_i64]
  omega
theorem ones64_any (x : BitVec 64) (w : World) : Calls Try.prog 19 #[.int .u64 (x.toNat : Int)] w (Quiet (.int .i64 (popW x : Int)) w) := by
  obtain ⟨z, a, b, c, d, e, m, he⟩ := pop_met x
  have hx := toNat_lt x
  have w1 := and_nat (x.toNat / 2) 6148914691236517205 (by omega) (by omega)
  have w2 := and_nat x.toNat 6148914691236517205 hx (by omega)
  have w4 := and_nat (z / 4) 3689348814741910323 (by have := m.f_zl; omega) (by omega)
  have w5 := and_nat z 3689348814741910323 m.f_zl (by omega)
  have w8 := and_nat (a / 16 + a) 1085102592571150095 m.f_al (by omega)
  have c2 : ((x.toNat / 2 : Nat) : Int) = (x.toNat : Int) / 2 := by omega
  have c4 : ((z / 4 : Nat) : Int) = (z : Int) / 4 := by omega
  rw [c2] at w1
  rw [c4] at w4
  have d3 : IntKind.u64.wrap (((x.toNat / 2 &&& 6148914691236517205 : Nat) : Int) + ((x.toNat &&& 6148914691236517205 : Nat) : Int)) = (z : Int) := by rw [← Int.natCast_add, m.f_z]; exact wrap_nat m.f_zl
  have d6 : IntKind.u64.wrap (((z / 4 &&& 3689348814741910323 : Nat) : Int) + ((z &&& 3689348814741910323 : Nat) : Int)) = (a : Int) := by rw [← Int.natCast_add, m.f_a]; exact wrap_nat m.f_al2
  have d7 : IntKind.u64.wrap ((a : Int) / 16 + (a : Int)) = ((a / 16 + a : Nat) : Int) := by have := wrap_nat m.f_al; rw [show (a : Int) / 16 + (a : Int) = ((a / 16 + a : Nat) : Int) by omega]; exact this
  have d8 : bits .and .u64 ((a / 16 + a : Nat) : Int) 1085102592571150095 = (b : Int) := w8.trans (by rw [m.f_b])
  have d9 : IntKind.u64.wrap ((b : Int) + (b : Int) / 256) = (c : Int) := by have := wrap_nat m.f_cl; rw [show (b : Int) + (b : Int) / 256 = (c : Int) by have := m.f_c; omega]; exact this
  have d10 : IntKind.u64.wrap ((c : Int) + (c : Int) / 65536) = (d : Int) := by have := wrap_nat m.f_dl; rw [show (c : Int) + (c : Int) / 65536 = (d : Int) by have := m.f_d; omega]; exact this
  have d11 : IntKind.u64.wrap ((d : Int) + (d : Int) / 4294967296) = (e : Int) := by have := wrap_nat m.f_el; rw [show (d : Int) + (d : Int) / 4294967296 = (e : Int) by have := m.f_e; omega]; exact this
  have d13 := wrap_64 e m.f_el
  rw [← he]
  clear he
  generalize ((x.toNat / 2 &&& 6148914691236517205 : Nat) : Int) = P at *
  generalize ((x.toNat &&& 6148914691236517205 : Nat) : Int) = Q at *
  generalize ((z / 4 &&& 3689348814741910323 : Nat) : Int) = P2 at *
  generalize ((z &&& 3689348814741910323 : Nat) : Int) = Q2 at *
  generalize ((e % 128 : Nat) : Int) = G at *
  exact ones64_let _ P Q (z : Int) P2 Q2 (a : Int) ((a / 16 + a : Nat) : Int) (b : Int) (c : Int) (d : Int) (e : Int) _ G w1 w2 d3 w4 w5 d6 d7 d8 d9 d10 d11 rfl d13 w

theorem items_u64 {P : Program} (d : Nat) (e : TypeId) (hp : P.plainKey e = true) (he : P.underlying e = some (.int .u64)) (xs ys : Array Value) (X Y : Nat → Int) (w : World) :
    ∀ is : List Nat, (∀ i ∈ is, xs[i]? = some (.int .u64 (X i)) ∧ ys[i]? = some (.int .u64 (Y i))) → (Op.eqItems (d + 1) e 1 xs ys is).run P w = .ok (decide (∀ i ∈ is, X i = Y i)) w
  | [], _ => by simp [Op.eqItems]
  | i :: is, h => by
    obtain ⟨h1, h2⟩ := h i (by simp)
    have ih := items_u64 d e hp he xs ys X Y w is (fun j hj => h j (by simp [hj]))
    simp only [Op.eqItems, Sem.run_bind, Nat.mul_one, run_part_plain w hp h1, run_part_plain w hp h2, run_equalIn_int w d e .u64 .u64 _ _ he, Result.andThen_ok]
    by_cases hx : X i = Y i
    · rw [hx, show ((Y i == Y i) = true) from by simp]
      simp only [Bool.not_true, Bool.false_eq_true, if_false]
      rw [ih]
      congr 1
      exact decide_eq_decide.mpr (by simp [hx])
    · rw [show ((X i == Y i) = false) from by simp [hx]]
      simp only [Bool.not_false, if_true, Sem.run_pure]
      congr 1
      exact (decide_eq_false (fun hh => hx (hh i (by simp)))).symm

theorem eqi_arr (x0 x1 x2 x3 y0 y1 y2 y3 : Int) : ∀ W, (Op.equalIn 10000 24 (.agg #[.int .u64 x0, .int .u64 x1, .int .u64 x2, .int .u64 x3]) (.agg #[.int .u64 y0, .int .u64 y1, .int .u64 y2, .int .u64 y3])).run Try.prog W = .ok (decide (x0 = y0 ∧ x1 = y1 ∧ x2 = y2 ∧ x3 = y3)) W := by
  intro W
  have h1 := items_u64 (P := Try.prog) 9998 22 (by kernel_rfl) (by kernel_rfl) #[.int .u64 x0, .int .u64 x1, .int .u64 x2, .int .u64 x3] #[.int .u64 y0, .int .u64 y1, .int .u64 y2, .int .u64 y3] (fun i => [x0, x1, x2, x3].getD i 0) (fun i => [y0, y1, y2, y3].getD i 0) W (List.range 4) (fun i hi => by
    have : i < 4 := List.mem_range.1 hi
    have : i = 0 ∨ i = 1 ∨ i = 2 ∨ i = 3 := by omega
    rcases this with rfl | rfl | rfl | rfl <;> exact ⟨rfl, rfl⟩)
  obtain ⟨ii, hii⟩ := info_of_underlying Try.underlying22
  have h2 := run_equalIn_array (P := Try.prog) W 9999 #[.int .u64 x0, .int .u64 x1, .int .u64 x2, .int .u64 x3] #[.int .u64 y0, .int .u64 y1, .int .u64 y2, .int .u64 y3] (t := 24) (e := 22) (n := 4) Try.underlying24 hii
  rw [show Try.prog.cellsOf 22 = 1 by kernel_rfl, h1] at h2
  have h4 : decide (∀ i ∈ List.range 4, [x0, x1, x2, x3].getD i 0 = [y0, y1, y2, y3].getD i 0) = decide (x0 = y0 ∧ x1 = y1 ∧ x2 = y2 ∧ x3 = y3) := decide_eq_decide.mpr ⟨fun h => ⟨h 0 (by decide), h 1 (by decide), h 2 (by decide), h 3 (by decide)⟩, fun h i hi => by
    obtain ⟨h0, h1, h2, h3⟩ := h
    have : i < 4 := List.mem_range.1 hi
    have : i = 0 ∨ i = 1 ∨ i = 2 ∨ i = 3 := by omega
    rcases this with rfl | rfl | rfl | rfl <;> assumption⟩
  rw [h4] at h2
  exact h2
theorem eqi_set (s t : BitVec 256) : ∀ W, (Op.equalIn 10000 24 (.agg #[.int .u64 ((wd s 0).toNat : Int), .int .u64 ((wd s 1).toNat : Int), .int .u64 ((wd s 2).toNat : Int), .int .u64 ((wd s 3).toNat : Int)]) (.agg #[.int .u64 ((wd t 0).toNat : Int), .int .u64 ((wd t 1).toNat : Int), .int .u64 ((wd t 2).toNat : Int), .int .u64 ((wd t 3).toNat : Int)])).run Try.prog W = .ok (decide (s = t)) W := fun W => by
  rw [eqi_arr]
  congr 1
  exact decide_eq_decide.mpr (wd_eq_iff s t)
theorem eq_set (s t : BitVec 256) : ∀ W, (binOp .eql 24 (.agg #[.int .u64 ((wd s 0).toNat : Int), .int .u64 ((wd s 1).toNat : Int), .int .u64 ((wd s 2).toNat : Int), .int .u64 ((wd s 3).toNat : Int)]) (.agg #[.int .u64 ((wd t 0).toNat : Int), .int .u64 ((wd t 1).toNat : Int), .int .u64 ((wd t 2).toNat : Int), .int .u64 ((wd t 3).toNat : Int)])).run Try.prog W = .ok (.bool (decide (s = t))) W := fun W => by
  rw [run_eql_struct, eqi_set]
  rfl
theorem ne_set (s t : BitVec 256) : ∀ W, (binOp .neq 24 (.agg #[.int .u64 ((wd s 0).toNat : Int), .int .u64 ((wd s 1).toNat : Int), .int .u64 ((wd s 2).toNat : Int), .int .u64 ((wd s 3).toNat : Int)]) (.agg #[.int .u64 ((wd t 0).toNat : Int), .int .u64 ((wd t 1).toNat : Int), .int .u64 ((wd t 2).toNat : Int), .int .u64 ((wd t 3).toNat : Int)])).run Try.prog W = .ok (.bool (!decide (s = t))) W := fun W => by
  rw [run_neq_struct, eqi_set]
  rfl
end Go.Proofs.Ytpikipfchkhnbaa
