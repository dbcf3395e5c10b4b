/-
  The calls of the law BoundsNear, and what comes of them.
-/
import Derived.Test.YtdffacghdnaniaaDoorTabLaid03
import Derived.Test.YtdffacghdnaniaaDoorNear03
import Derived.Test.YtdffacghdnaniaaDoorBoundsLaw
import Derived.Test.YtdffacghdnaniaaDoorNearMath
namespace Go.Proofs.YtdffacghdnaniaaDoor.BoundsNear
open Go.RowKit Words FieldMath BoundsMath

theorem rounded_nat (b t e : Nat) (hb : b ≤ t) (ht : t ≤ 281474976710656) (hk : Kept b t e) (W : World) :
    Calls Tryd.prog 11 #[.agg #[.int .u64 (b : Int), .int .u64 (t : Int)]] W (Makes (.tuple #[.agg #[.int .u64 ((dn b (e - 1) : Nat) : Int), .int .u64 ((up t (e - 1) : Nat) : Int)], .bool true]) W) :=
  rounded_of _ _ _ _ _ _ (fun W => extended_any b t e hb ht hk W) W

structure Met (A B C P Q FB FT E D U P3 H0 P1 LO H HL M AT : Int) (O : Bool) : Prop where
  span : ∀ W, Calls Tryd.prog 20 #[.int .u64 A, .int .u64 B] W (Makes (.agg #[.int .u64 P, .int .u64 Q]) W)
  enc : ∀ W, Tab W → Calls Tryd.prog 9 #[.agg #[.int .u64 P, .int .u64 Q]] W (Makes (.tuple #[.agg #[.int .u64 FB, .int .u64 FT, .int .u64 E], .bool O]) W)
  rnd : ∀ W, Calls Tryd.prog 11 #[.agg #[.int .u64 P, .int .u64 Q]] W (Makes (.tuple #[.agg #[.int .u64 D, .int .u64 U], .bool true]) W)
  dec : ∀ W, Tab W → Calls Tryd.prog 15 #[.agg #[.int .u64 FB, .int .u64 FT, .int .u64 E], .int .u64 AT] W (Makes (.tuple #[.agg #[.int .u64 D, .int .u64 U], .bool true]) W)
  near : ¬ D = 281474976710656 → ∀ W, Tab W → Calls Tryd.prog 18 #[.agg #[.int .u64 FB, .int .u64 FT, .int .u64 E], .int .u64 D, .int .u64 AT] W (Makes (.bool true) W)
  e0 : 0 ≤ E
  e37 : E ≤ 37
  zero : E = 0 → P3 = 12288 ∧ P1 = 4096
  p3 : E ≠ 0 → IntKind.u64.wrap (3 * 2 ^ (12 + (E - 1)).toNat) = P3
  p1 : E ≠ 0 → IntKind.u64.wrap (2 ^ (12 + (E - 1)).toNat) = P1
  h0 : IntKind.u64.wrap (D + P3) = H0
  low : (P1 < D ∧ IntKind.u64.wrap (D - P1) = LO) ∨ (¬ P1 < D ∧ LO = 0)
  high : (H0 ≤ 281474976710656 ∧ H = H0) ∨ (¬ H0 ≤ 281474976710656 ∧ H = 281474976710656)
  room : ¬ H ≤ LO
  hl : IntKind.u64.wrap (H - LO) = HL
  hl0 : ¬ HL = 0
  md : C % HL = M
  mt : C.tmod HL = M
  at' : IntKind.u64.wrap (LO + M) = AT
  lz : LO = 0 → HL = H ∧ IntKind.u64.wrap M = AT

theorem met (a b c : Nat) : ∃ P Q FB FT E D U P3 H0 P1 LO H HL M AT O, Met a b c P Q FB FT E D U P3 H0 P1 LO H HL M AT O := by
  have pw : (2 : Nat) ^ 48 = 281474976710656 := by decide
  obtain ⟨p, hp⟩ : ∃ p, min (a % 281474976710657) (b % 281474976710657) = p := ⟨_, rfl⟩
  obtain ⟨q, hq⟩ : ∃ q, max (a % 281474976710657) (b % 281474976710657) = q := ⟨_, rfl⟩
  have hpq : p ≤ q := by omega
  have hq48 : q ≤ 281474976710656 := by omega
  obtain ⟨e, hk⟩ := ex_kept (b := p) (t := q) (by omega)
  have he := hk.le
  have hd := dn_le p (e - 1)
  have hP : 2 ^ (e - 1) ≤ 2 ^ 36 := Nat.pow_le_pow_right (by decide) (by omega)
  have hpos := BoundsMath.pow_pos (e - 1)
  have nm := fun at' h1 h2 h3 => near_math p q e at' hk hpq hq48 h1 h2 h3
  have en := fun W hW => encode_any p q e hpq hq48 hk W hW
  have rn := fun W => rounded_nat p q e hpq hq48 hk W
  obtain ⟨d, hde⟩ : ∃ d, dn p (e - 1) = d := ⟨_, rfl⟩
  obtain ⟨z, hz⟩ : ∃ z, 2 ^ (e - 1) = z := ⟨_, rfl⟩
  obtain ⟨fb, hfb⟩ : ∃ x, dn p (e - 1) / 2 ^ (e - 1) % 16384 = x := ⟨_, rfl⟩
  obtain ⟨ft, hft⟩ : ∃ x, up q (e - 1) / 2 ^ (e - 1) % 4096 = x := ⟨_, rfl⟩
  rw [hfb, hft] at en
  rw [hfb, hft, hde] at nm
  rw [hde] at rn hd
  have hfbl : fb < 16384 := by rw [← hfb]; exact Nat.mod_lt _ (by omega)
  have hftl : ft < 4096 := by rw [← hft]; exact Nat.mod_lt _ (by omega)
  obtain ⟨lo, hlo⟩ : ∃ lo : Nat, (4096 * z < d ∧ lo = d - 4096 * z) ∨ (¬ 4096 * z < d ∧ lo = 0) := by
    by_cases h : 4096 * z < d
    · exact ⟨_, .inl ⟨h, rfl⟩⟩
    · exact ⟨_, .inr ⟨h, rfl⟩⟩
  obtain ⟨hi, hhi⟩ : ∃ hi : Nat, (d + 12288 * z ≤ 281474976710656 ∧ hi = d + 12288 * z) ∨ (¬ d + 12288 * z ≤ 281474976710656 ∧ hi = 281474976710656) := by
    by_cases h : d + 12288 * z ≤ 281474976710656
    · exact ⟨_, .inl ⟨h, rfl⟩⟩
    · exact ⟨_, .inr ⟨h, rfl⟩⟩
  rw [hz] at nm hP hpos
  have hroom : lo < hi := by omega
  obtain ⟨m, hm⟩ : ∃ m, c % (hi - lo) = m := ⟨_, rfl⟩
  have hml : m < hi - lo := by rw [← hm]; exact Nat.mod_lt _ (by omega)
  obtain ⟨hdec, hb1, hb2⟩ := nm (lo + m) (by omega) (by omega) (by omega)
  have hwr := fun n : Int => IntKind.wrap_u64 n
  have dc := fun W hW => decode_yes fb ft e (lo + m) hdec W hW
  rw [hz, hb1, hb2] at dc
  refine ⟨p, q, fb, ft, e, d, _, ((12288 * z : Nat) : Int), ((d + 12288 * z : Nat) : Int), ((4096 * z : Nat) : Int), (lo : Int), (hi : Int), ((hi - lo : Nat) : Int), (m : Int), ((lo + m : Nat) : Int), _,
    ⟨fun W => ?_, en, rn, dc, ?_, by omega, by omega, ?_, ?_, ?_, by rw [hwr]; omega, ?_, by omega, by omega, by rw [hwr]; omega, by omega, by rw [← hm]; omega, by rw [Int.tmod_eq_emod_of_nonneg (by omega), ← hm]; omega, by rw [hwr]; omega, fun h => ⟨by omega, by rw [hwr]; omega⟩⟩⟩
  · have := lspan_any a b W
    rw [hp, hq] at this
    exact this
  · intro hD W hW
    obtain ⟨hdec0, hb3, hb4⟩ := nm d (by omega) (by omega) (by omega)
    refine near_any fb ft e d (lo + m) (by omega) (by omega) (by omega) W hW true ?_
    simp only [true_iff]
    exact ⟨hdec0, hdec, by rw [hz, hb3, hb1], by rw [hz, hb4, hb2]⟩
  · intro h0
    have : z = 1 := by rw [← hz, show e - 1 = 0 by omega]
    omega
  · intro h0
    have h4096 : (2 : Nat) ^ (12 + (e - 1)) = 4096 * z := by rw [Nat.pow_add, hz]
    rw [show (12 + ((e : Int) - 1)).toNat = 12 + (e - 1) by omega, show (3 : Int) * 2 ^ (12 + (e - 1)) = ((3 * 2 ^ (12 + (e - 1)) : Nat) : Int) by simp, h4096, hwr]
    omega
  · intro h0
    have h4096 : (2 : Nat) ^ (12 + (e - 1)) = 4096 * z := by rw [Nat.pow_add, hz]
    rw [show (12 + ((e : Int) - 1)).toNat = 12 + (e - 1) by omega, show (2 : Int) ^ (12 + (e - 1)) = ((2 ^ (12 + (e - 1)) : Nat) : Int) by simp, h4096, hwr]
    omega
  · rcases hlo with ⟨h1, h2⟩ | ⟨h1, h2⟩
    · left; refine ⟨by omega, ?_⟩; rw [hwr]; omega
    · right; omega
end Go.Proofs.YtdffacghdnaniaaDoor.BoundsNear
