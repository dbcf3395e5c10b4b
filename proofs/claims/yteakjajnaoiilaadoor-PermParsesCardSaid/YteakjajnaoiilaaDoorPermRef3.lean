/-
  What mintmarkref04.Parse answers.
-/
import Derived.Test.YteakjajnaoiilaaDoorPermParse
namespace Go.Proofs.YteakjajnaoiilaaDoor
open Go.RowKit Words PermMath

theorem index_word (k : Nat) (h : k < 9) (W : World) :
    (Instr.index 9 (.string ⟨#[114, 119, 120, 82, 87, 115, 117, 83, 103]⟩) (.int .i64 (k : Int))).run Tryd.prog W = .ok (.int .u8 (letN k : Int)) W := by
  match k, h with
  | 0, _ => rfl
  | 1, _ => rfl
  | 2, _ => rfl
  | 3, _ => rfl
  | 4, _ => rfl
  | 5, _ => rfl
  | 6, _ => rfl
  | 7, _ => rfl
  | 8, _ => rfl
theorem index_text (s : ByteArray) (i : Nat) (h : i < s.size) (W : World) :
    (Instr.index 9 (.string s) (.int .i64 (i : Int))).run Tryd.prog W = .ok (.int .u8 ((s[i].toNat : Nat) : Int)) W := by
  rw [run_index_string W _ _ _ _ rfl, dif_pos ⟨by omega, by omega⟩]
  rfl
theorem bit_num (a k : Nat) (ha : a < 512) : (bits .and .u64 ((a : Int) / 2 ^ k) 1 == 1) = a.testBit k := by
  have := bit_out (BitVec.ofNat 64 a) k
  rw [BitVec.toNat_ofNat, Nat.mod_eq_of_lt (by omega)] at this
  rw [this]
  show (BitVec.ofNat 64 a).toNat.testBit k = _
  rw [BitVec.toNat_ofNat, Nat.mod_eq_of_lt (by omega)]
theorem add_walk {a k : Nat} (ha : a < 512) (hk : k < 9) (hb : a.testBit k = false) : IntKind.u64.wrap ((a : Int) + 2 ^ k) = ((a ||| 2 ^ k : Nat) : Int) := by
  rw [(two_pos k hk).2.1, IntKind.wrap_u64, ← (or_small ha hk).2 hb]
  have := (two_pos k hk).2.2
  generalize (2 : Nat) ^ k = B at *
  omega

set_option maxHeartbeats 4000000 in
theorem rparse_any (s : ByteArray) (hs : s.size ≤ 1000) (w : World) : Calls Tryd.prog 16 #[.string s] w (Quiet (parsedV (parseN (numsOf s) 0)) w) := by
  obtain ⟨R, hR⟩ : ∃ R, parseN (numsOf s) 0 = R := ⟨_, rfl⟩
  have HR := hide hR
  rw [hR]
  clear hR
  go_enter Tryd.func16, Tryd.ntmps16
  go_wp2
  go_loopw [4, 5] (fun v i wr => ∃ (pos a n : Nat), wr = w.drewN n ∧ v = .int .u64 (a : Int) ∧ i = .int .i64 (pos : Int) ∧ pos ≤ s.size ∧ a < 512 ∧ parseN ((numsOf s).drop pos) a = parseN (numsOf s) 0) (fun _ i _ => s.size - (intOf i).toNat)
  case atStart => exact ⟨0, 0, 0, rfl, rfl, rfl, by omega, by omega, by simp⟩
  case round =>
    obtain ⟨pos, a, n, rfl, rfl, rfl, hpos, ha, hp⟩ := hrel
    have HP := hide hp
    clear hp
    by_cases h : pos < s.size
    · have hix := index_text s pos h
      have hd := nums_drop s pos h
      obtain ⟨c, hc⟩ : ∃ c, s[pos].toNat = c := ⟨_, rfl⟩
      rw [hc] at hix hd
      have HD := hide hd
      clear hc hd
      go_wp2
      go_loopw [6] (fun k wr => ∃ (j n : Nat), wr = w.drewN n ∧ j ≤ 9 ∧ k = .int .i64 (j : Int) ∧ ∀ j', j' < j → letN j' ≠ c) (fun k _ => 9 - (intOf k).toNat)
      case atStart => exact ⟨0, n, rfl, by omega, rfl, fun j' hj => by omega⟩
      case round =>
        obtain ⟨j, n2, rfl, hj, rfl, hall⟩ := hrel
        have HA := hide hall
        clear hall
        by_cases h9 : j < 9
        · have hiw := index_word j h9
          have hg : decide ((j : Int) < 9) = true := decide_eq_true (by omega)
          by_cases he : letN j = c
          · have q1 : ((letN j : Int) == (c : Int)) = true := by rw [he]; simp
            have q2 : ((letN j : Int) != (c : Int)) = false := by rw [he]; simp
            have hk : bitOf c = j := bitOf_hit h9 he
            have b1 := bit_num a j ha
            have z1 : ¬ (j : Int) = 9 := by omega
            have z2 := wrap_two j h9
            have z3 := or_small ha h9
            cases hb : a.testBit j with
            | true =>
              rw [hb] at b1
              have hv : parsedV R = .tuple #[.int .u64 0, .bool false] := by
                rw [← HR.out, ← HP.out, HD.out, parseN, hk, if_neg (by omega), if_pos hb]; rfl
              have HV := hide hv
              clear hv hk hb z3 he
              go_wp2
              go_quiet (fail)
              go_wp2
              go_ret2
              exact ⟨by rw [HV.out]; rfl, _, rfl⟩
            | false =>
              rw [hb] at b1
              have hst : parseN ((numsOf s).drop (pos + 1)) (a ||| 2 ^ j) = parseN (numsOf s) 0 := by
                rw [← HP.out, HD.out, parseN, hk, if_neg (by omega), hb, if_neg (by decide)]
              have HS := hide hst
              have z4 := z3.1
              have z5 := add_walk ha h9 hb
              clear hst hk hb z3 he
              go_wp2
              go_quiet (fail)
              go_wp2
              go_roundw
              case rel => exact ⟨pos + 1, a ||| 2 ^ j, _, rfl, rfl, by go_num, by omega, z4, HS.out⟩
              case measure => simp [intOf]; omega
          · have q1 : ((letN j : Int) == (c : Int)) = false := by simp; omega
            have q2 : ((letN j : Int) != (c : Int)) = true := by simp; omega
            have HE := hide he
            clear he
            go_wp2
            go_quiet (fail)
            go_wp2
            go_roundw
            case rel => exact ⟨j + 1, _, rfl, by omega, by go_num, fun j' hj' => by
              by_cases hjk : j' < j
              · exact HA.out j' hjk
              · obtain rfl : j' = j := by omega
                exact HE.out⟩
            case measure => simp [intOf]; omega
        · obtain rfl : j = 9 := by omega
          have hk : bitOf c = 9 := bitOf_miss HA.out
          have hv : parsedV R = .tuple #[.int .u64 0, .bool false] := by
            rw [← HR.out, ← HP.out, HD.out, parseN, hk, if_pos rfl]; rfl
          have HV := hide hv
          have hg : decide (((9 : Nat) : Int) < 9) = false := by decide
          clear hv hk
          go_wp2
          go_quiet (fail)
          go_wp2
          go_ret2
          exact ⟨by rw [HV.out]; rfl, _, rfl⟩
    · obtain rfl : pos = s.size := by omega
      have hv := parse_end h HP.out
      rw [HR.out] at hv
      have HV := hide hv
      clear hv
      go_wp2
      go_ret2
      exact ⟨by rw [HV.out]; rfl, _, rfl⟩

end Go.Proofs.YteakjajnaoiilaaDoor
