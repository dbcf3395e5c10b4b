/-
  What the document's own answers of layer 2 (package mintmarkref02) are, called with any arguments: each is the plain function of XScaleMath, though reckoned bit by bit in a loop.
-/
import Derived.Test.YtjoaomncffdgbaaScaleWalks
namespace Go.Proofs.Ytjoaomncffdgbaa
open Go.RowKit Words ScaleMath

theorem rdown_step (x : BitVec 64) (k : Nat) : bits .andNot .u64 ((downB x (k : Int)).toNat : Int) (IntKind.u64.wrap (2 ^ k)) = ((downB x ((k + 1 : Nat) : Int)).toNat : Int) := by
  have e1 : (2 : Int) ^ k = ((1#64).toNat : Int) * 2 ^ k := by simp
  rw [e1, shl_bv, andNot_bv, down_step]
theorem rdown_end (x : BitVec 64) (e : Int) (k : Nat) (h : k ≤ 64) (h2 : k = 0 ∨ (k : Int) ≤ e) (h3 : ¬ ((k : Int) < e ∧ k < 64)) : downB x (k : Int) = downB x e := by
  by_cases h0 : e ≤ 0
  · rw [down_low x e h0, down_low x (k : Int) (by omega)]
  · by_cases h64 : 64 ≤ e
    · rw [down_high x e h64, down_high x (k : Int) (by omega)]
    · rw [show (k : Int) = e by omega]
set_option maxHeartbeats 400000 in
theorem rdown_any (x : BitVec 64) (e : Int) (w : World) : Calls Try.prog 15 #[.int .u64 (x.toNat : Int), .int .i64 e] w (Quiet (.int .u64 ((downB x e).toNat : Int)) w) := by
  go_enter Try.func15, Try.ntmps15
  go_wp2
  go_loop [0, 5] (fun m i => ∃ k : Nat, k ≤ 64 ∧ (k = 0 ∨ (k : Int) ≤ e) ∧ i = .int .i64 k ∧ m = .int .u64 ((downB x (k : Int)).toNat : Int)) (fun _ i => 64 - (intOf i).toNat)
  case atStart => exact ⟨0, by omega, .inl rfl, rfl, by rw [down_low x _ (by omega)]⟩
  case round =>
    obtain ⟨k, hk, hka, rfl, rfl⟩ := hrel
    by_cases h1 : (k : Int) < e
    · by_cases h2 : k < 64
      · have hs := rdown_step x k
        obtain ⟨M1, hM⟩ : ∃ M1, downB x ((k + 1 : Nat) : Int) = M1 := ⟨_, rfl⟩
        rw [hM] at hs
        have HM := hide hM
        clear hM
        generalize downB x (k : Int) = M0 at hs
        go_wp2
        go_round
        case rel => exact ⟨k + 1, by omega, .inr (by omega), by go_num, by rw [HM.out]⟩
        case measure => simp [intOf]; omega
      · have HE := hide (rdown_end x e k hk hka (by omega))
        go_wp2
        go_ret
        exact ⟨ret_int (by rw [HE.out]), 0, rfl⟩
    · have HE := hide (rdown_end x e k hk hka (by omega))
      go_wp2
      go_ret
      exact ⟨ret_int (by rw [HE.out]), 0, rfl⟩

/-- Bit k of x, as the walk asks for it. -/
theorem bit_walk (x : BitVec 64) (k : Nat) : bits .and .u64 ((x.toNat : Int) / 2 ^ k) 1 = if x.getLsbD k = true then 1 else 0 := by
  rw [shr_bv, show (1 : Int) = ((1#64).toNat : Int) by decide, and_bv]
  have : (x >>> k &&& 1#64) = if x.getLsbD k = true then 1#64 else 0#64 := by
    refine ext64 fun i hi => ?_
    rw [BitVec.getLsbD_and, BitVec.getLsbD_ushiftRight, BitVec.getLsbD_one]
    by_cases h : i = 0
    · subst h; cases hb : x.getLsbD k <;> simp
    · cases hb : x.getLsbD k <;> simp [h]
  rw [this]
  cases x.getLsbD k <;> rfl
theorem bit_yes (x : BitVec 64) (k : Nat) (h : x.getLsbD k = true) : bits .and .u64 ((x.toNat : Int) / 2 ^ k) 1 = 1 := by rw [bit_walk, if_pos h]
theorem bit_no (x : BitVec 64) (k : Nat) (h : x.getLsbD k = false) : bits .and .u64 ((x.toNat : Int) / 2 ^ k) 1 = 0 := by rw [bit_walk, h]; rfl

set_option maxHeartbeats 400000 in
theorem rzeros_any (x : BitVec 64) (w : World) : Calls Try.prog 13 #[.int .u64 (x.toNat : Int)] w (Quiet (.int .i64 (zerosI x)) w) := by
  go_enter Try.func13, Try.ntmps13
  go_wp2
  go_loop [3] (fun i => ∃ k : Nat, k ≤ 64 ∧ onesTo x k = [] ∧ i = .int .i64 k) (fun i => 64 - (intOf i).toNat)
  case atStart => exact ⟨0, by omega, rfl, rfl⟩
  case round =>
    obtain ⟨k, hk, hn, rfl⟩ := hrel
    by_cases h2 : k < 64
    · cases hb : x.getLsbD k with
      | true =>
        have HZ := hide (zeros_hit x k h2 hn hb)
        have hy := bit_yes x k hb
        clear hn hb
        go_wp2
        go_ret
        exact ⟨ret_int (by rw [HZ.out]), 0, rfl⟩
      | false =>
        have HN := hide ((onesTo_miss x k hb).trans hn)
        have hy := bit_no x k hb
        clear hn hb
        go_wp2
        go_round
        case rel => exact ⟨k + 1, by omega, HN.out, by go_num⟩
        case measure => simp [intOf]; omega
    · obtain rfl : k = 64 := by omega
      have HZ := hide (zeros_none x hn)
      clear hn
      go_wp2
      go_ret
      exact ⟨ret_int (by rw [HZ.out]), 0, rfl⟩

set_option maxHeartbeats 400000 in
theorem rlog_any (x : BitVec 64) (w : World) : Calls Try.prog 11 #[.int .u64 (x.toNat : Int)] w (Quiet (.int .i64 (logI x)) w) := by
  go_enter Try.func11, Try.ntmps11
  go_wp2
  go_loop [3] (fun i => ∃ k : Nat, k ≤ 64 ∧ onesL x = onesTo x k ∧ i = .int .i64 ((k : Int) - 1)) (fun i => (intOf i + 1).toNat)
  case atStart => exact ⟨64, by omega, rfl, rfl⟩
  case round =>
    obtain ⟨k, hk, hn, rfl⟩ := hrel
    by_cases h2 : 1 ≤ k
    · obtain ⟨k, rfl⟩ : ∃ j, k = j + 1 := ⟨k - 1, by omega⟩
      rw [show ((k + 1 : Nat) : Int) - 1 = (k : Int) by omega]
      cases hb : x.getLsbD k with
      | true =>
        have HZ := hide (log_hit x k hn hb)
        have hy := bit_yes x k hb
        clear hn hb
        go_wp2
        go_ret
        exact ⟨ret_int (by rw [HZ.out]), 0, rfl⟩
      | false =>
        have HN := hide (hn.trans (onesTo_miss x k hb))
        have hy := bit_no x k hb
        clear hn hb
        go_wp2
        go_round
        case rel => exact ⟨k, by omega, HN.out, by go_num⟩
        case measure => simp [intOf]
    · obtain rfl : k = 0 := by omega
      have HZ := hide (log_none x hn)
      clear hn
      go_wp2
      go_ret
      exact ⟨ret_int (by rw [HZ.out]), 0, rfl⟩

set_option maxHeartbeats 400000 in
theorem rup_any (x : BitVec 64) (e : Int) (w : World) : Calls Try.prog 9 #[.int .u64 (x.toNat : Int), .int .i64 e] w (Quiet (.tuple #[.int .u64 ((upB x e).1.toNat : Int), .bool (upB x e).2]) w) := by
  have c1 := fun W => rdown_any x e W
  have hu : upB x e = _ := upB.eq_1 x e
  have hl : downB x e ≠ x → 0 < e := fun h => by
    rcases Int.lt_or_le 0 e with h1 | h1
    · exact h1
    · exact absurd (down_low x e h1) h
  generalize downB x e = D at *
  have C1 := hide c1
  clear c1
  by_cases h : D = x
  · rw [if_pos h] at hu
    rw [hu]
    subst h
    clear hu hl
    go_enter Try.func9, Try.ntmps9
    go_wp2_with ((go_at_call 15; (with_reducible refine (C1.out _).mono ?_); rintro e w' ⟨rfl, n1, rfl⟩))
    go_ret2
    exact ⟨rfl, _, rfl⟩
  · rw [if_neg h] at hu
    have hne : ¬ (D.toNat : Int) = (x.toNat : Int) := fun he => h (BitVec.eq_of_toNat_eq (by omega))
    by_cases h64 : 63 < e
    · rw [if_pos h64] at hu
      rw [hu]
      clear hu hl h
      go_enter Try.func9, Try.ntmps9
      go_wp2_with ((go_at_call 15; (with_reducible refine (C1.out _).mono ?_); rintro e w' ⟨rfl, n1, rfl⟩))
      go_ret2
      exact ⟨rfl, _, rfl⟩
    · have h0 : 0 < e := hl h
      rw [if_neg h64] at hu
      have hU : IntKind.u64.wrap ((D.toNat : Int) + IntKind.u64.wrap (2 ^ e.toNat)) = ((D + 1#64 <<< e.toNat).toNat : Int) := by
        have e1 : (2 : Int) ^ e.toNat = ((1#64).toNat : Int) * 2 ^ e.toNat := by simp
        rw [e1, shl_bv, add_bv]
      generalize D + 1#64 <<< e.toNat = U at hu hU
      have h63 : e ≤ 63 := by omega
      clear h64 hl h
      by_cases hlt : U.toNat < D.toNat
      · rw [if_pos hlt] at hu
        rw [hu]
        clear hu
        have hlt' : (U.toNat : Int) < (D.toNat : Int) := by omega
        go_enter Try.func9, Try.ntmps9
        go_wp2_with ((go_at_call 15; (with_reducible refine (C1.out _).mono ?_); rintro e w' ⟨rfl, n1, rfl⟩))
        go_ret2
        exact ⟨rfl, _, rfl⟩
      · rw [if_neg hlt] at hu
        rw [hu]
        clear hu
        have hlt' : ¬ (U.toNat : Int) < (D.toNat : Int) := by omega
        go_enter Try.func9, Try.ntmps9
        go_wp2_with ((go_at_call 15; (with_reducible refine (C1.out _).mono ?_); rintro e w' ⟨rfl, n1, rfl⟩))
        go_ret2
        exact ⟨rfl, _, rfl⟩

set_option maxHeartbeats 400000 in
theorem rin_any (x y a b : BitVec 64) (w : World) : Calls Try.prog 18 #[.int .u64 (x.toNat : Int), .int .u64 (y.toNat : Int), .int .u64 (a.toNat : Int), .int .u64 (b.toNat : Int)] w (Quiet (.bool (inB x y a b)) w) := by
  go_enter Try.func18, Try.ntmps18
  go_wp2
  all_goals
    go_ret
    refine ⟨ret_bool ?_, 0, rfl⟩
    unfold inB
    have := x.isLt
    first | exact decide_eq_decide.mpr (by omega) | exact (decide_eq_false (by omega)).symm
end Go.Proofs.Ytjoaomncffdgbaa
