/-
  What the document's own answers of layer 4 (package mintmarkref04) are for Needs, Name and Within.
-/
import Derived.Test.YtbncoiejbclpjaaDoorPermTab
namespace Go.Proofs.YtbncoiejbclpjaaDoor
open Go.RowKit Words PermMath

theorem bit_out (x : BitVec 64) (k : Nat) : (bits .and .u64 ((x.toNat : Int) / 2 ^ k) 1 == 1) = x.getLsbD k := by
  rw [shr_bv, show (1 : Int) = ((1#64).toNat : Int) by decide, and_bv, bv_eq_iff, Bool.eq_iff_iff, beq_iff_eq]
  constructor
  · intro h
    have := congrArg (fun z => z.getLsbD 0) h
    simpa using this
  · intro h
    refine ext64 fun i hi => ?_
    rw [BitVec.getLsbD_and, BitVec.getLsbD_one]
    by_cases h0 : i = 0
    · subst h0; simp [h]
    · simp [h0]
theorem bit_in (x : BitVec 64) (k : Nat) : (bits .and .u64 ((x.toNat : Int) / 2 ^ k) 1 == 0) = !x.getLsbD k := by
  rw [shr_bv, show (1 : Int) = ((1#64).toNat : Int) by decide, show (0 : Int) = ((0#64).toNat : Int) by decide, and_bv, bv_eq_iff, Bool.eq_iff_iff, beq_iff_eq]
  constructor
  · intro h
    have := congrArg (fun z => z.getLsbD 0) h
    simpa using this
  · intro h
    refine ext64 fun i hi => ?_
    rw [BitVec.getLsbD_and, BitVec.getLsbD_one]
    by_cases h0 : i = 0
    · subst h0; simpa using h
    · simp [h0]

set_option maxHeartbeats 1000000 in
theorem prwithin_any (x y : BitVec 64) (w : World) : Calls Tryd.prog 85 #[.int .u64 (x.toNat : Int), .int .u64 (y.toNat : Int)] w (Same (.bool (withinB x y)) w) := by
  go_enter Tryd.func85, Tryd.ntmps85
  go_wp2
  go_loop [5] (fun i => ∃ k : Nat, k ≤ 64 ∧ i = .int .u64 k ∧ ∀ j, j < k → x.getLsbD j = true → y.getLsbD j = true) (fun i => 64 - (intOf i).toNat)
  case atStart => exact ⟨0, by omega, rfl, fun j hj => by omega⟩
  case round =>
    obtain ⟨k, hk, rfl, hall⟩ := hrel
    have HA := hide hall
    clear hall
    by_cases h : k < 64
    · have b1 := bit_out x k
      have b2 := bit_in y k
      cases hx : x.getLsbD k with
      | true =>
        cases hy : y.getLsbD k with
        | true =>
          rw [hx] at b1
          rw [hy] at b2
          have HX := hide hx
          have HY := hide hy
          clear hx hy
          go_wp2
          go_round
          case rel => exact ⟨k + 1, by omega, by go_num, fun j hj h1 => by
            by_cases hjk : j < k
            · exact HA.out j hjk h1
            · obtain rfl : j = k := by omega
              exact HY.out⟩
          case measure => simp [intOf]; omega
        | false =>
          rw [hx] at b1
          rw [hy] at b2
          have hv : withinB x y = false := by
            cases hw : withinB x y with
            | false => rfl
            | true => have := (withinB_iff x y).1 hw k h hx; rw [hy] at this; cases this
          have HV := hide hv
          clear hx hy hv
          go_wp2
          go_ret
          exact ⟨ret_bool (by rw [HV.out]), rfl⟩
      | false =>
        rw [hx] at b1
        have HX := hide hx
        clear hx
        go_wp2
        go_round
        case rel => exact ⟨k + 1, by omega, by go_num, fun j hj h1 => by
          by_cases hjk : j < k
          · exact HA.out j hjk h1
          · obtain rfl : j = k := by omega
            rw [HX.out] at h1; cases h1⟩
        case measure => simp [intOf]; omega
    · obtain rfl : k = 64 := by omega
      have hv : withinB x y = true := (withinB_iff x y).2 HA.out
      have HV := hide hv
      clear hv
      go_wp2
      go_ret
      exact ⟨ret_bool (by rw [HV.out]), rfl⟩

end Go.Proofs.YtbncoiejbclpjaaDoor
