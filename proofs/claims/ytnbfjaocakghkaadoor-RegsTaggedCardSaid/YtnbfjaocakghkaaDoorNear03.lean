/-
  What bounds.Decode answers, in one; and Near.
-/
import Derived.Test.YtnbfjaocakghkaaDoorDec03
namespace Go.Proofs.YtnbfjaocakghkaaDoor
open Go.RowKit Words FieldMath BoundsMath

theorem decode_yes (b t e a : Nat) (h : decOk b t e a) (w : World) (hT : Tab w) :
    Calls Tryd.prog 41 #[.agg #[.int .u64 (b : Int), .int .u64 (t : Int), .int .u64 (e : Int)], .int .u64 (a : Int)] w
      (Makes (.tuple #[.agg #[.int .u64 ((baseN b e a * 2 ^ (e - 1) : Nat) : Int), .int .u64 (((baseN b e a + lenN b t e) * 2 ^ (e - 1) : Nat) : Int)], .bool true]) w) := by
  obtain ⟨hg, hk, htop⟩ := h
  obtain ⟨B, T, E, A, R, TB, L0, L, AQ, LA, LB, K, BS, BL, RB, RT, X, hm⟩ := dec_met b t e a hg
  have f0 : decide (LA < K) = false := decide_eq_false (fun h => hm.back.1 h hk)
  obtain ⟨e1, e2⟩ := hm.base hk
  have f1 : decide (281474976710656 < RT) = false := decide_eq_false (by rw [e2]; omega)
  rw [← e1, ← e2, ← hm.eb, ← hm.et, ← hm.ee, ← hm.ea]
  by_cases h0 : e = 0
  · have hE : E = 0 := by rw [hm.ee]; omega
    have hL := hm.zero h0
    subst hE hL
    exact walk_ok0 b t e a B T A R TB _ AQ LA LB K BS BL RB RT X hm f0 f1 w hT
  · exact walk_ok b t e a B T E A R TB L0 L AQ LA LB K BS BL RB RT X hm f0 f1 (by rw [hm.ee]; omega) (hm.more h0) w hT
theorem decode_no (b t e a : Nat) (hb : b < 18446744073709551616) (ht : t < 18446744073709551616) (he : e < 18446744073709551616) (h : ¬ decOk b t e a) (w : World) (hT : Tab w) :
    Calls Tryd.prog 41 #[.agg #[.int .u64 (b : Int), .int .u64 (t : Int), .int .u64 (e : Int)], .int .u64 (a : Int)] w
      (Makes (.tuple #[.agg #[.int .u64 0, .int .u64 0], .bool false]) w) := by
  by_cases h1 : b < 16384 ∧ t < 4096 ∧ e < 64
  · by_cases h2 : e ≤ 37
    · by_cases h3 : a < 281474976710656
      · have hg : goodF b t e a := ⟨h1.1, h1.2.1, h2, h3⟩
        obtain ⟨B, T, E, A, R, TB, L0, L, AQ, LA, LB, K, BS, BL, RB, RT, X, hm⟩ := dec_met b t e a hg
        rw [← hm.eb, ← hm.et, ← hm.ee, ← hm.ea]
        by_cases hk : backN b e a ≤ a / 2 ^ (e - 1) + 4096
        · have f0 : decide (LA < K) = false := decide_eq_false (fun h => hm.back.1 h hk)
          obtain ⟨e1, e2⟩ := hm.base hk
          have htop : ¬ (baseN b e a + lenN b t e) * 2 ^ (e - 1) ≤ 281474976710656 := fun ht => h ⟨hg, hk, ht⟩
          have f1 : decide (281474976710656 < RT) = true := decide_eq_true (by rw [e2]; omega)
          by_cases h0 : e = 0
          · have hE : E = 0 := by rw [hm.ee]; omega
            have hL := hm.zero h0
            subst hE hL
            exact walk_top0 b t e a B T A R TB _ AQ LA LB K BS BL RB RT X hm f0 f1 w hT
          · exact walk_top b t e a B T E A R TB L0 L AQ LA LB K BS BL RB RT X hm f0 f1 (by rw [hm.ee]; omega) (hm.more h0) w hT
        · have f0 : decide (LA < K) = true := decide_eq_true (hm.back.2 hk)
          by_cases h0 : e = 0
          · have hE : E = 0 := by rw [hm.ee]; omega
            have hL := hm.zero h0
            subst hE hL
            exact walk_back0 b t e a B T A R TB _ AQ LA LB K BS BL RB RT X hm f0 w hT
          · exact walk_back b t e a B T E A R TB L0 L AQ LA LB K BS BL RB RT X hm f0 (by rw [hm.ee]; omega) (hm.more h0) w hT
      · exact decode_a b t e a h1.1 h1.2.1 h2 (by omega) w hT
    · exact decode_e b t e a h1.1 h1.2.1 (by omega) h1.2.2 w hT
  · exact decode_low b t e a hb ht he h1 w hT

end Go.Proofs.YtnbfjaocakghkaaDoor