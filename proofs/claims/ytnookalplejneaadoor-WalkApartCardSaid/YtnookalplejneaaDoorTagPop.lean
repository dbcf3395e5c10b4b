/-
  How many bits of a word are 1, counted as the program's library counts them: pairs of bits, fours, bytes, then the bytes' sum. No program text here.
-/
import Derived.Test.YtnookalplejneaaDoorTagMath
namespace Go.Proofs.YtnookalplejneaaDoor
open Go.RowKit Words

/-- Two numbers anded, byte by byte. -/
theorem and_byte (h d H D k : Nat) (hd : d < 2 ^ k) (hD : D < 2 ^ k) : (2 ^ k * h + d) &&& (2 ^ k * H + D) = 2 ^ k * (h &&& H) + (d &&& D) := by
  refine Nat.eq_of_testBit_eq (fun j => ?_)
  have hdD : d &&& D < 2 ^ k := Nat.lt_of_le_of_lt Nat.and_le_left hd
  rw [Nat.testBit_and, Nat.testBit_two_pow_mul_add _ hd, Nat.testBit_two_pow_mul_add _ hD, Nat.testBit_two_pow_mul_add _ hdD]
  by_cases hj : j < k <;> simp [hj, Nat.testBit_and]
theorem and_byte8 (h d H D : Nat) (hd : d < 256) (hD : D < 256) : (256 * h + d) &&& (256 * H + D) = 256 * (h &&& H) + (d &&& D) := and_byte h d H D 8 hd hD
theorem and_low (e a D k : Nat) (ha : a < 2 ^ k) (hD : D < 2 ^ k) : (2 ^ k * e + a) &&& D = a &&& D := by
  have := and_byte e a 0 D k ha hD
  rw [Nat.mul_zero, Nat.zero_add, Nat.and_zero, Nat.mul_zero, Nat.zero_add] at this
  exact this

/-- One step of the count on bytes: s shifts, m masks a byte. -/
def stepD (c m d : Nat) : Nat := (d / c &&& m) + (d &&& m)
/-- A mask of n bytes. -/
def maskN (m : Nat) : Nat → Nat
  | 0 => 0
  | n + 1 => 256 * maskN m n + m
/-- A step on each of n bytes. -/
def each (f : Nat → Nat) : Nat → Nat → Nat
  | 0, _ => 0
  | n + 1, x => 256 * each f n (x / 256) + f (x % 256)
theorem and_each (m : Nat) (hm : m < 256) : ∀ n x, x &&& maskN m n = each (fun d => d &&& m) n x
  | 0, x => by simp [maskN, each]
  | n + 1, x => by
    rw [maskN, each, ← and_each m hm n]
    conv => lhs; rw [show x = 256 * (x / 256) + x % 256 by omega]
    exact and_byte8 _ _ _ _ (by omega) hm
theorem shr_each (m k : Nat) (hk : k ≤ 8) (hm : m * 2 ^ k < 256) : ∀ n x, (x / 2 ^ k) &&& maskN m n = each (fun d => d / 2 ^ k &&& m) n x
  | 0, x => by simp [maskN, each]
  | n + 1, x => by
    have h2 : (2 : Nat) ^ 8 = 2 ^ k * 2 ^ (8 - k) := by rw [← Nat.pow_add, show k + (8 - k) = 8 by omega]
    have hm2 : m < 2 ^ (8 - k) := by
      have h3 : m * 2 ^ k < 2 ^ (8 - k) * 2 ^ k := by rw [Nat.mul_comm (2 ^ (8 - k)), ← h2]; exact hm
      exact Nat.lt_of_mul_lt_mul_right h3
    have hm8 : m < 256 := by
      have : 2 ^ (8 - k) ≤ 2 ^ 8 := Nat.pow_le_pow_right (by omega) (by omega)
      omega
    have hp := Nat.two_pow_pos k
    rw [maskN, each, ← shr_each m k hk hm n]
    have e1 : x / 2 ^ k = 256 * (x / 2 ^ k / 256) + x / 2 ^ k % 256 := by omega
    have e2 : x / 2 ^ k / 256 = x / 256 / 2 ^ k := by rw [Nat.div_div_eq_div_mul, Nat.div_div_eq_div_mul, Nat.mul_comm]
    have e3 : x / 2 ^ k % 256 &&& m = x % 256 / 2 ^ k &&& m := by
      have e4 : x / 2 ^ k = 2 ^ (8 - k) * (x / 256) + x % 256 / 2 ^ k := by
        conv => lhs; rw [show x = 2 ^ k * (2 ^ (8 - k) * (x / 256)) + x % 256 by rw [← Nat.mul_assoc, ← h2]; omega]
        rw [Nat.mul_add_div hp]
      have hlt : x % 256 / 2 ^ k < 2 ^ (8 - k) := by
        apply Nat.div_lt_of_lt_mul
        rw [← h2]
        omega
      have e5 := and_low (x / 256) (x % 256 / 2 ^ k) m (8 - k) hlt hm2
      have e6 : (x / 2 ^ k % 256) &&& m = x / 2 ^ k &&& m := by
        have := and_low (x / 2 ^ k / 256) (x / 2 ^ k % 256) m 8 (by omega) (by omega)
        rw [show 2 ^ 8 * (x / 2 ^ k / 256) + x / 2 ^ k % 256 = x / 2 ^ k by omega] at this
        exact this.symm
      rw [e6, e4]
      exact e5
    conv => lhs; rw [e1]
    rw [and_byte8 _ _ _ _ (by omega) hm8, e2, e3]
theorem each_add (f g : Nat → Nat) : ∀ n x, each f n x + each g n x = each (fun d => f d + g d) n x
  | 0, _ => rfl
  | n + 1, x => by
    have := each_add f g n (x / 256)
    simp only [each]
    omega
theorem each_lt (f : Nat → Nat) (hf : ∀ d, d < 256 → f d < 256) : ∀ n x, each f n x < 256 ^ n
  | 0, _ => by simp [each]
  | n + 1, x => by
    have := each_lt f hf n (x / 256)
    have h2 := hf (x % 256) (by omega)
    rw [each, Nat.pow_succ]
    omega
theorem each_each (f g : Nat → Nat) (hg : ∀ d, d < 256 → g d < 256) : ∀ n x, each f n (each g n x) = each (fun d => f (g d)) n x
  | 0, _ => rfl
  | n + 1, x => by
    have h2 := hg (x % 256) (by omega)
    simp only [each]
    rw [show (256 * each g n (x / 256) + g (x % 256)) / 256 = each g n (x / 256) by omega, show (256 * each g n (x / 256) + g (x % 256)) % 256 = g (x % 256) by omega, each_each f g hg n]
theorem each_congr (f g : Nat → Nat) (h : ∀ d, d < 256 → f d = g d) : ∀ n x, each f n x = each g n x
  | 0, _ => rfl
  | n + 1, x => by rw [each, each, each_congr f g h n, h _ (by omega)]
def s1 (d : Nat) : Nat := (d / 2 &&& 85) + (d &&& 85)
def s2 (d : Nat) : Nat := (d / 4 &&& 51) + (d &&& 51)
def s3 (d : Nat) : Nat := (d / 16 + d) &&& 15
/-- How many bits of a byte are 1. -/
def popB (d : Nat) : Nat := cnt (fun i => d.testBit i) 8
theorem s_table : ∀ d : Fin 256, s1 d.val < 256 ∧ s2 (s1 d.val) < 256 ∧ s2 (s1 d.val) % 16 ≤ 4 ∧ s2 (s1 d.val) / 16 ≤ 4 ∧ s3 (s2 (s1 d.val)) = popB d.val ∧ popB d.val ≤ 8 := by decide +kernel
theorem mask1 : maskN 85 8 = 6148914691236517205 := by decide
theorem mask2 : maskN 51 8 = 3689348814741910323 := by decide
theorem mask3 : maskN 15 8 = 1085102592571150095 := by decide
/-- The third step adds first, then masks. -/
theorem third (f : Nat → Nat) (hf : ∀ d, d < 256 → f d % 16 ≤ 4 ∧ f d / 16 ≤ 4) : ∀ n x, (each f n x / 16 + each f n x) &&& maskN 15 n = each (fun d => (f d / 16 + f d) &&& 15) n x
  | 0, x => by simp [each, maskN]
  | n + 1, x => by
    have ih := third f hf n (x / 256)
    obtain ⟨a1, a2⟩ := hf (x % 256) (by omega)
    simp only [each, maskN]
    generalize hE : each f n (x / 256) = E at *
    generalize f (x % 256) = y at *
    have hE16 : E % 16 ≤ 4 := by
      rw [← hE]
      match n with
      | 0 => simp [each]
      | n + 1 =>
        have := (hf (x / 256 % 256) (by omega)).1
        rw [each]
        omega
    have e1 : (256 * E + y) / 16 + (256 * E + y) = 256 * (E / 16 + E) + (16 * (E % 16) + y / 16 + y) := by omega
    rw [e1, and_byte8 _ _ _ _ (by omega) (by omega), ih]
    have e2 := and_low ((16 * (E % 16) + y / 16 + y) / 16) ((16 * (E % 16) + y / 16 + y) % 16) 15 4 (by omega) (by omega)
    have e3 := and_low ((y / 16 + y) / 16) ((y / 16 + y) % 16) 15 4 (by omega) (by omega)
    rw [show 2 ^ 4 * ((16 * (E % 16) + y / 16 + y) / 16) + (16 * (E % 16) + y / 16 + y) % 16 = 16 * (E % 16) + y / 16 + y by omega] at e2
    rw [show 2 ^ 4 * ((y / 16 + y) / 16) + (y / 16 + y) % 16 = y / 16 + y by omega] at e3
    rw [e2, e3, show (16 * (E % 16) + y / 16 + y) % 16 = (y / 16 + y) % 16 by omega]
theorem cnt_bytes (f : Nat → Bool) : ∀ n, cnt f (8 * n) = (List.range n).foldr (fun i a => cnt (fun j => f (8 * i + j)) 8 + a) 0
  | 0 => rfl
  | n + 1 => by
    rw [show 8 * (n + 1) = 8 + 8 * n by omega, cnt_add, cnt_bytes (fun i => f (8 + i)) n, List.range_succ_eq_map]
    simp only [List.foldr_cons, List.foldr_map, Nat.mul_zero, Nat.zero_add]
    congr 1
    congr 1
    funext i a
    congr 1
    exact cnt_congr (fun j _ => by congr 1; omega)
theorem pop_bytes (x : BitVec 64) : popW x = (List.range 8).foldr (fun i a => popB (x.toNat / 256 ^ i % 256) + a) 0 := by
  have h := cnt_bytes (fun i => x.getLsbD i) 8
  unfold popW
  rw [show (8 * 8 : Nat) = 64 from rfl] at h
  rw [h]
  congr 1
  funext i a
  congr 1
  unfold popB
  refine cnt_congr (fun j hj => ?_)
  rw [show (256 : Nat) ^ i = 2 ^ (8 * i) by rw [Nat.pow_mul], show (256 : Nat) = 2 ^ 8 from rfl, Nat.testBit_mod_two_pow, Nat.testBit_div_two_pow, BitVec.getLsbD]
  simp [hj, Nat.add_comm]
theorem tail1 (a X : Nat) (h : a < 256) : (a + 256 * X) / 256 = X := by omega
theorem tail2 (a b X : Nat) (h : a < 256) (h2 : b < 256) : (a + 256 * (b + 256 * X)) / 65536 = X := by omega
theorem tail4 (a b c d X : Nat) (h : a < 256) (h2 : b < 256) (h3 : c < 256) (h4 : d < 256) : (a + 256 * (b + 256 * (c + 256 * (d + 256 * X)))) / 4294967296 = X := by omega
/-- The bytes' sum, as the library takes it. -/
theorem fold_sum (p0 p1 p2 p3 p4 p5 p6 p7 : Nat) (h0 : p0 ≤ 8) (h1 : p1 ≤ 8) (h2 : p2 ≤ 8) (h3 : p3 ≤ 8) (h4 : p4 ≤ 8) (h5 : p5 ≤ 8) (h6 : p6 ≤ 8) (h7 : p7 ≤ 8) (x y z v : Nat)
    (hx : x = p0 + 256 * (p1 + 256 * (p2 + 256 * (p3 + 256 * (p4 + 256 * (p5 + 256 * (p6 + 256 * p7))))))) (hy : y = x + x / 256) (hz : z = y + y / 65536) (hv : v = z + z / 4294967296) :
    x < 18446744073709551616 ∧ y < 18446744073709551616 ∧ z < 18446744073709551616 ∧ v < 18446744073709551616 ∧ v % 128 = p0 + (p1 + (p2 + (p3 + (p4 + (p5 + (p6 + p7)))))) := by
  obtain ⟨X1, g1⟩ : ∃ X, X = (p1) + 256 * ((p2) + 256 * ((p3) + 256 * ((p4) + 256 * ((p5) + 256 * ((p6) + 256 * (p7)))))) := ⟨_, rfl⟩
  have e1 : x / 256 = X1 := by rw [hx, ← g1]; exact tail1 _ _ (by omega)
  have e2 : y = (p0 + p1) + 256 * ((p1 + p2) + 256 * ((p2 + p3) + 256 * ((p3 + p4) + 256 * ((p4 + p5) + 256 * ((p5 + p6) + 256 * ((p6 + p7) + 256 * (p7))))))) := by rw [hy, e1, g1, hx]; clear hy hz hv e1 g1 hx; omega
  obtain ⟨Y2, g2⟩ : ∃ X, X = (p2 + p3) + 256 * ((p3 + p4) + 256 * ((p4 + p5) + 256 * ((p5 + p6) + 256 * ((p6 + p7) + 256 * (p7))))) := ⟨_, rfl⟩
  have e3 : y / 65536 = Y2 := by rw [e2, ← g2]; exact tail2 _ _ _ (by omega) (by omega)
  have e4 : z = (p0 + p1 + p2 + p3) + 256 * ((p1 + p2 + p3 + p4) + 256 * ((p2 + p3 + p4 + p5) + 256 * ((p3 + p4 + p5 + p6) + 256 * ((p4 + p5 + p6 + p7) + 256 * ((p5 + p6 + p7) + 256 * ((p6 + p7) + 256 * (p7))))))) := by rw [hz, e3, g2, e2]; clear hy hz hv e1 g1 hx e2 e3 g2; omega
  obtain ⟨Z4, g4⟩ : ∃ X, X = (p4 + p5 + p6 + p7) + 256 * ((p5 + p6 + p7) + 256 * ((p6 + p7) + 256 * (p7))) := ⟨_, rfl⟩
  have e5 : z / 4294967296 = Z4 := by rw [e4, ← g4]; exact tail4 _ _ _ _ _ (by omega) (by omega) (by omega) (by omega)
  obtain ⟨V1, g5⟩ : ∃ X, X = (p1 + p2 + p3 + p4 + p5 + p6 + p7) + 256 * ((p2 + p3 + p4 + p5 + p6 + p7) + 256 * ((p3 + p4 + p5 + p6 + p7) + 256 * ((p4 + p5 + p6 + p7) + 256 * ((p5 + p6 + p7) + 256 * ((p6 + p7) + 256 * (p7)))))) := ⟨_, rfl⟩
  have e6 : v = (p0 + p1 + p2 + p3 + p4 + p5 + p6 + p7) + 256 * V1 := by rw [hv, e5, g4, e4, g5]; clear hy hz hv e1 g1 hx e2 e3 g2 e4 e5 g4 g5; omega
  refine ⟨?_, ?_, ?_, ?_, ?_⟩
  · rw [hx]; clear hx hy hz hv e1 e2 e3 e4 e5 e6 g1 g2 g4 g5; omega
  · rw [e2]; clear hx hy hz hv e1 e2 e3 e4 e5 e6 g1 g2 g4 g5; omega
  · rw [e4]; clear hx hy hz hv e1 e2 e3 e4 e5 e6 g1 g2 g4 g5; omega
  · rw [e6, g5]; clear hx hy hz hv e1 e2 e3 e4 e5 e6 g1 g2 g4 g5; omega
  · rw [e6]; clear hx hy hz hv e1 e2 e3 e4 e5 e6 g1 g2 g4 g5; omega
/-- The words that the library's count comes by; each a word. -/
structure PopMet (x z a b c d e : Nat) : Prop where
  f_z : (x / 2 &&& 6148914691236517205) + (x &&& 6148914691236517205) = z
  f_zl : z < 18446744073709551616
  f_a : (z / 4 &&& 3689348814741910323) + (z &&& 3689348814741910323) = a
  f_al : a / 16 + a < 18446744073709551616
  f_al2 : a < 18446744073709551616
  f_b : (a / 16 + a) &&& 1085102592571150095 = b
  f_c : b + b / 256 = c
  f_cl : c < 18446744073709551616
  f_d : c + c / 65536 = d
  f_dl : d < 18446744073709551616
  f_e : d + d / 4294967296 = e
  f_el : e < 18446744073709551616
theorem pop_met (x : BitVec 64) : ∃ z a b c d e, PopMet x.toNat z a b c d e ∧ e % 128 = popW x := by
  have t := s_table
  have g1 : ∀ d, d < 256 → s1 d < 256 := fun d hd => (t ⟨d, hd⟩).1
  have g2 : ∀ d, d < 256 → s2 (s1 d) < 256 := fun d hd => (t ⟨d, hd⟩).2.1
  have g3 : ∀ d, d < 256 → s2 (s1 d) % 16 ≤ 4 ∧ s2 (s1 d) / 16 ≤ 4 := fun d hd => ⟨(t ⟨d, hd⟩).2.2.1, (t ⟨d, hd⟩).2.2.2.1⟩
  have g4 : ∀ d, d < 256 → s3 (s2 (s1 d)) = popB d ∧ popB d ≤ 8 := fun d hd => ⟨(t ⟨d, hd⟩).2.2.2.2.1, (t ⟨d, hd⟩).2.2.2.2.2⟩
  have h1 : (x.toNat / 2 &&& 6148914691236517205) + (x.toNat &&& 6148914691236517205) = each s1 8 x.toNat := by
    have a1 := shr_each 85 1 (by omega) (by omega) 8 x.toNat
    have a2 := and_each 85 (by omega) 8 x.toNat
    rw [mask1] at a1 a2
    rw [show (2 : Nat) ^ 1 = 2 from rfl] at a1
    rw [a1, a2, each_add]
    rfl
  have h2 : (each s1 8 x.toNat / 4 &&& 3689348814741910323) + (each s1 8 x.toNat &&& 3689348814741910323) = each (fun d => s2 (s1 d)) 8 x.toNat := by
    have a1 := shr_each 51 2 (by omega) (by omega) 8 (each s1 8 x.toNat)
    have a2 := and_each 51 (by omega) 8 (each s1 8 x.toNat)
    rw [mask2] at a1 a2
    rw [show (2 : Nat) ^ 2 = 4 from rfl] at a1
    rw [a1, a2, each_add, ← each_each s2 s1 g1]
    rfl
  have h3 : (each (fun d => s2 (s1 d)) 8 x.toNat / 16 + each (fun d => s2 (s1 d)) 8 x.toNat) &&& 1085102592571150095 = each popB 8 x.toNat := by
    have a1 := third (fun d => s2 (s1 d)) g3 8 x.toNat
    rw [mask3] at a1
    rw [a1]
    exact each_congr _ _ (fun d hd => (g4 d hd).1) 8 _
  have l1 : each s1 8 x.toNat < 18446744073709551616 := each_lt s1 g1 8 x.toNat
  have l2 : each (fun d => s2 (s1 d)) 8 x.toNat < 18446744073709551616 := each_lt _ g2 8 x.toNat
  have l3 : each (fun d => s2 (s1 d)) 8 x.toNat ≤ each (fun _ => 68) 8 x.toNat := by
    have a : ∀ n y, each (fun d => s2 (s1 d)) n y ≤ each (fun _ => 68) n y := by
      intro n
      induction n with
      | zero => intro y; exact Nat.le_refl _
      | succ n ih =>
        intro y
        have := ih (y / 256)
        have := g3 (y % 256) (by omega)
        simp only [each]
        omega
    exact a 8 x.toNat
  have l5 : each (fun _ => 68) 8 x.toNat = 4919131752989213764 := by simp [each]
  have hp := pop_bytes x
  have l4 : ∀ i, popB (x.toNat / 256 ^ i % 256) ≤ 8 := fun i => (g4 _ (Nat.mod_lt _ (by omega))).2
  have hb : each popB 8 x.toNat = popB (x.toNat / 256 ^ 0 % 256) + 256 * (popB (x.toNat / 256 ^ 1 % 256) + 256 * (popB (x.toNat / 256 ^ 2 % 256) + 256 * (popB (x.toNat / 256 ^ 3 % 256) + 256 * (popB (x.toNat / 256 ^ 4 % 256) + 256 * (popB (x.toNat / 256 ^ 5 % 256) + 256 * (popB (x.toNat / 256 ^ 6 % 256) + 256 * (popB (x.toNat / 256 ^ 7 % 256)))))))) := by
    simp only [each, Nat.div_div_eq_div_mul, Nat.reduceMul, Nat.reducePow, Nat.div_one]
    omega
  have f := fold_sum _ _ _ _ _ _ _ _ (l4 0) (l4 1) (l4 2) (l4 3) (l4 4) (l4 5) (l4 6) (l4 7) _ _ _ _ hb rfl rfl rfl
  obtain ⟨f1, f2, f3, f4, f5⟩ := f
  refine ⟨_, _, _, _, _, _, ⟨h1, l1, h2, ?_, l2, h3, rfl, f2, rfl, f3, rfl, f4⟩, ?_⟩
  · rw [l5] at l3
    clear h1 h2 h3 hb hp f1 f2 f3 f4 f5 l1 l2 l4 l5 t g1 g2 g3 g4
    omega
  · rw [f5, hp]
    rfl
end Go.Proofs.YtnookalplejneaaDoor
