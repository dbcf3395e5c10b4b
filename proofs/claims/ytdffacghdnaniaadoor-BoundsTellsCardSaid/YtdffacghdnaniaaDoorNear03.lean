/-
  What bounds.Decode answers, in one; and Near.
-/
import Derived.Test.YtdffacghdnaniaaDoorDec03
namespace Go.Proofs.YtdffacghdnaniaaDoor
open Go.RowKit Words FieldMath BoundsMath

theorem decode_yes (b t e a : Nat) (h : decOk b t e a) (w : World) (hT : Tab w) :
    Calls Tryd.prog 15 #[.agg #[.int .u64 (b : Int), .int .u64 (t : Int), .int .u64 (e : Int)], .int .u64 (a : Int)] w
      (Makes (.tuple #[.agg #[.int .u64 ((baseN b e a * 2 ^ (e - 1) : Nat) : Int), .int .u64 (((baseN b e a + lenN b t e) * 2 ^ (e - 1) : Nat) : Int)], .bool true]) w) := by
  obtain ⟨hg, hk, htop⟩ := h
  obtain ⟨B, T, E, A, R, TB, L0, L, AQ, LA, LB, K, BS, BL, RB, RT, X, hm⟩ := dec_met b t e a hg
  have f0 : decide (LA < K) = false := decide_eq_false (fun h => hm.back.1 h hk)
  obtain ⟨e1, e2⟩ := hm.base hk
  have f1 : decide (281474976710656 < RT) = false := decide_eq_false (by rw [e2]; omega)
  rw [← e1, ← e2, ← hm.eb, ← hm.et, ← hm.ee, ← hm.ea]
  by_cases h0 : e = 0
  · have hE : E = 0 := by rw [hm.ee]; omega
    have hL := hm.zero h0
    subst hE hL
    exact walk_ok0 b t e a B T A R TB _ AQ LA LB K BS BL RB RT X hm f0 f1 w hT
  · exact walk_ok b t e a B T E A R TB L0 L AQ LA LB K BS BL RB RT X hm f0 f1 (by rw [hm.ee]; omega) (hm.more h0) w hT
theorem decode_no (b t e a : Nat) (hb : b < 18446744073709551616) (ht : t < 18446744073709551616) (he : e < 18446744073709551616) (h : ¬ decOk b t e a) (w : World) (hT : Tab w) :
    Calls Tryd.prog 15 #[.agg #[.int .u64 (b : Int), .int .u64 (t : Int), .int .u64 (e : Int)], .int .u64 (a : Int)] w
      (Makes (.tuple #[.agg #[.int .u64 0, .int .u64 0], .bool false]) w) := by
  by_cases h1 : b < 16384 ∧ t < 4096 ∧ e < 64
  · by_cases h2 : e ≤ 37
    · by_cases h3 : a < 281474976710656
      · have hg : goodF b t e a := ⟨h1.1, h1.2.1, h2, h3⟩
        obtain ⟨B, T, E, A, R, TB, L0, L, AQ, LA, LB, K, BS, BL, RB, RT, X, hm⟩ := dec_met b t e a hg
        rw [← hm.eb, ← hm.et, ← hm.ee, ← hm.ea]
        by_cases hk : backN b e a ≤ a / 2 ^ (e - 1) + 4096
        · have f0 : decide (LA < K) = false := decide_eq_false (fun h => hm.back.1 h hk)
          obtain ⟨e1, e2⟩ := hm.base hk
          have htop : ¬ (baseN b e a + lenN b t e) * 2 ^ (e - 1) ≤ 281474976710656 := fun ht => h ⟨hg, hk, ht⟩
          have f1 : decide (281474976710656 < RT) = true := decide_eq_true (by rw [e2]; omega)
          by_cases h0 : e = 0
          · have hE : E = 0 := by rw [hm.ee]; omega
            have hL := hm.zero h0
            subst hE hL
            exact walk_top0 b t e a B T A R TB _ AQ LA LB K BS BL RB RT X hm f0 f1 w hT
          · exact walk_top b t e a B T E A R TB L0 L AQ LA LB K BS BL RB RT X hm f0 f1 (by rw [hm.ee]; omega) (hm.more h0) w hT
        · have f0 : decide (LA < K) = true := decide_eq_true (hm.back.2 hk)
          by_cases h0 : e = 0
          · have hE : E = 0 := by rw [hm.ee]; omega
            have hL := hm.zero h0
            subst hE hL
            exact walk_back0 b t e a B T A R TB _ AQ LA LB K BS BL RB RT X hm f0 w hT
          · exact walk_back b t e a B T E A R TB L0 L AQ LA LB K BS BL RB RT X hm f0 (by rw [hm.ee]; omega) (hm.more h0) w hT
      · exact decode_a b t e a h1.1 h1.2.1 h2 (by omega) w hT
    · exact decode_e b t e a h1.1 h1.2.1 (by omega) h1.2.2 w hT
  · exact decode_low b t e a hb ht he h1 w hT

set_option maxHeartbeats 2000000 in
theorem near_no (B T E A O D1 U1 : Int) (C1 : ∀ W, Tab W → Calls Tryd.prog 15 #[.agg #[.int .u64 B, .int .u64 T, .int .u64 E], .int .u64 A] W (Makes (.tuple #[.agg #[.int .u64 D1, .int .u64 U1], .bool false]) W)) (w : World) (hT : Tab w) :
    Calls Tryd.prog 18 #[.agg #[.int .u64 B, .int .u64 T, .int .u64 E], .int .u64 A, .int .u64 O] w (Makes (.bool false) w) := by
  have H1 := hide C1
  clear C1
  have SS := cell_same
  have LB := ltB_add
  have LS := ltB_self
  have LA := alloc_reads
  have LH := alloc_holds
  go_enter Tryd.func18, Tryd.ntmps18
  go_wp2_with ((go_at_call 15; (with_reducible first | refine (H1.out _ ?_).mono ?_); (refine hT.behind ?_; repeat (first | with_reducible assumption | with_reducible exact Below.refl _ _ | with_reducible refine Below.drew ?_ | with_reducible refine below_drewN ?_ _ | with_reducible refine bw_alloc ?_ _ | (with_reducible refine bw_set ?_ ?_ _; focus (dsimp only; omega)) | (with_reducible apply bw_behind; with_reducible assumption))); rintro e w1 ⟨rfl, hb1⟩; have hr1 := below_reads hb1; have hh1 := below_holds hb1; obtain ⟨m1, hs1⟩ := below_grew hb1))
  go_ret
  refine ⟨rfl, ?_⟩
  repeat (first | with_reducible assumption | with_reducible exact Below.refl _ _ | with_reducible refine Below.drew ?_ | with_reducible refine below_drewN ?_ _ | with_reducible refine bw_alloc ?_ _ | (with_reducible refine bw_set ?_ ?_ _; focus (dsimp only; omega)) | (with_reducible apply bw_behind; with_reducible assumption))

set_option maxHeartbeats 2000000 in
theorem near_one (B T E A O D1 U1 D2 U2 : Int) (C1 : ∀ W, Tab W → Calls Tryd.prog 15 #[.agg #[.int .u64 B, .int .u64 T, .int .u64 E], .int .u64 A] W (Makes (.tuple #[.agg #[.int .u64 D1, .int .u64 U1], .bool true]) W)) (C2 : ∀ W, Tab W → Calls Tryd.prog 15 #[.agg #[.int .u64 B, .int .u64 T, .int .u64 E], .int .u64 O] W (Makes (.tuple #[.agg #[.int .u64 D2, .int .u64 U2], .bool false]) W)) (w : World) (hT : Tab w) :
    Calls Tryd.prog 18 #[.agg #[.int .u64 B, .int .u64 T, .int .u64 E], .int .u64 A, .int .u64 O] w (Makes (.bool false) w) := by
  have H1 := hide C1
  have H2 := hide C2
  clear C1 C2
  have SS := cell_same
  have LB := ltB_add
  have LS := ltB_self
  have LA := alloc_reads
  have LH := alloc_holds
  go_enter Tryd.func18, Tryd.ntmps18
  go_wp2_with ((go_at_call 15; (with_reducible first | refine (H1.out _ ?_).mono ?_ | refine (H2.out _ ?_).mono ?_); (refine hT.behind ?_; repeat (first | with_reducible assumption | with_reducible exact Below.refl _ _ | with_reducible refine Below.drew ?_ | with_reducible refine below_drewN ?_ _ | with_reducible refine bw_alloc ?_ _ | (with_reducible refine bw_set ?_ ?_ _; focus (dsimp only; omega)) | (with_reducible apply bw_behind; with_reducible assumption))); rintro e w1 ⟨rfl, hb1⟩; have hr1 := below_reads hb1; have hh1 := below_holds hb1; obtain ⟨m1, hs1⟩ := below_grew hb1))
  go_ret
  refine ⟨rfl, ?_⟩
  repeat (first | with_reducible assumption | with_reducible exact Below.refl _ _ | with_reducible refine Below.drew ?_ | with_reducible refine below_drewN ?_ _ | with_reducible refine bw_alloc ?_ _ | (with_reducible refine bw_set ?_ ?_ _; focus (dsimp only; omega)) | (with_reducible apply bw_behind; with_reducible assumption))

set_option maxHeartbeats 2000000 in
theorem near_two (B T E A O D1 U1 D2 U2 : Int) (C1 : ∀ W, Tab W → Calls Tryd.prog 15 #[.agg #[.int .u64 B, .int .u64 T, .int .u64 E], .int .u64 A] W (Makes (.tuple #[.agg #[.int .u64 D1, .int .u64 U1], .bool true]) W)) (C2 : ∀ W, Tab W → Calls Tryd.prog 15 #[.agg #[.int .u64 B, .int .u64 T, .int .u64 E], .int .u64 O] W (Makes (.tuple #[.agg #[.int .u64 D2, .int .u64 U2], .bool true]) W)) (w : World) (hT : Tab w) :
    Calls Tryd.prog 18 #[.agg #[.int .u64 B, .int .u64 T, .int .u64 E], .int .u64 A, .int .u64 O] w (Makes (.bool (decide (D1 = D2 ∧ U1 = U2))) w) := by
  have H1 := hide C1
  have H2 := hide C2
  clear C1 C2
  have EQ := eq_span D1 U1 D2 U2
  generalize decide (D1 = D2 ∧ U1 = U2) = V at *
  have SS := cell_same
  have LB := ltB_add
  have LS := ltB_self
  have LA := alloc_reads
  have LH := alloc_holds
  go_enter Tryd.func18, Tryd.ntmps18
  go_wp2_with ((go_at_call 15; (with_reducible first | refine (H1.out _ ?_).mono ?_ | refine (H2.out _ ?_).mono ?_); (refine hT.behind ?_; repeat (first | with_reducible assumption | with_reducible exact Below.refl _ _ | with_reducible refine Below.drew ?_ | with_reducible refine below_drewN ?_ _ | with_reducible refine bw_alloc ?_ _ | (with_reducible refine bw_set ?_ ?_ _; focus (dsimp only; omega)) | (with_reducible apply bw_behind; with_reducible assumption))); rintro e w1 ⟨rfl, hb1⟩; have hr1 := below_reads hb1; have hh1 := below_holds hb1; obtain ⟨m1, hs1⟩ := below_grew hb1))
  go_ret
  refine ⟨rfl, ?_⟩
  repeat (first | with_reducible assumption | with_reducible exact Below.refl _ _ | with_reducible refine Below.drew ?_ | with_reducible refine below_drewN ?_ _ | with_reducible refine bw_alloc ?_ _ | (with_reducible refine bw_set ?_ ?_ _; focus (dsimp only; omega)) | (with_reducible apply bw_behind; with_reducible assumption))

theorem near_any (b t e a o : Nat) (hb : b < 18446744073709551616) (ht : t < 18446744073709551616) (he : e < 18446744073709551616) (w : World) (hT : Tab w) (V : Bool)
    (hV : V = true ↔ decOk b t e a ∧ decOk b t e o ∧ baseN b e a * 2 ^ (e - 1) = baseN b e o * 2 ^ (e - 1) ∧ (baseN b e a + lenN b t e) * 2 ^ (e - 1) = (baseN b e o + lenN b t e) * 2 ^ (e - 1)) :
    Calls Tryd.prog 18 #[.agg #[.int .u64 (b : Int), .int .u64 (t : Int), .int .u64 (e : Int)], .int .u64 (a : Int), .int .u64 (o : Int)] w (Makes (.bool V) w) := by
  by_cases h1 : decOk b t e a
  · by_cases h2 : decOk b t e o
    · have := near_two _ _ _ _ _ _ _ _ _ (fun W hW => decode_yes b t e a h1 W hW) (fun W hW => decode_yes b t e o h2 W hW) w hT
      rwa [show V = decide (((baseN b e a * 2 ^ (e - 1) : Nat) : Int) = ((baseN b e o * 2 ^ (e - 1) : Nat) : Int) ∧ (((baseN b e a + lenN b t e) * 2 ^ (e - 1) : Nat) : Int) = (((baseN b e o + lenN b t e) * 2 ^ (e - 1) : Nat) : Int)) from by
        rw [Bool.eq_iff_iff, hV, decide_eq_true_iff]
        refine ⟨fun h => ⟨by rw [h.2.2.1], by rw [h.2.2.2]⟩, fun h => ⟨h1, h2, Int.ofNat_inj.1 h.1, Int.ofNat_inj.1 h.2⟩⟩]
    · rw [show V = false from by cases V with | false => rfl | true => exact absurd (hV.1 rfl).2.1 h2]
      exact near_one _ _ _ _ _ _ _ _ _ (fun W hW => decode_yes b t e a h1 W hW) (fun W hW => decode_no b t e o hb ht he h2 W hW) w hT
  · rw [show V = false from by cases V with | false => rfl | true => exact absurd (hV.1 rfl).1 h1]
    exact near_no _ _ _ _ _ _ _ (fun W hW => decode_no b t e a hb ht he h1 W hW) w hT
end Go.Proofs.YtdffacghdnaniaaDoor
