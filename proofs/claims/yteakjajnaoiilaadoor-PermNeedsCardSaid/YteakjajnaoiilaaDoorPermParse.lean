/-
  What perm.Parse answers.
-/
import Derived.Test.YteakjajnaoiilaaDoorPermRef2
import Derived.Laws.RangeAny
namespace Go.Proofs.YteakjajnaoiilaaDoor
open Go.RowKit Words PermMath

def parsedV : Option Nat → Value
  | some a => .tuple #[.int .u64 (a : Int), .bool true]
  | none => .tuple #[.int .u64 0, .bool false]

theorem or_all : ((List.range 512).all fun a => (List.range 9).all fun k => decide (a ||| 2 ^ k < 512) && (a.testBit k || a + 2 ^ k == a ||| 2 ^ k)) = true := by decide +kernel
theorem or_small {a k : Nat} (ha : a < 512) (hk : k < 9) : a ||| 2 ^ k < 512 ∧ (a.testBit k = false → a + 2 ^ k = a ||| 2 ^ k) := by
  have h1 := List.all_eq_true.1 or_all a (by simpa using ha)
  have h2 := List.all_eq_true.1 h1 k (by simpa using hk)
  simp only [Bool.and_eq_true, decide_eq_true_eq, Bool.or_eq_true, beq_iff_eq] at h2
  exact ⟨h2.1, fun h => by rcases h2.2 with h3 | h3
                           · rw [h] at h3; cases h3
                           · exact h3⟩
theorem two_pos (k : Nat) (h : k < 9) : ((2 : Int) ^ k == 0) = false ∧ (2 : Int) ^ k = ((2 ^ k : Nat) : Int) ∧ (2 : Nat) ^ k < 512 := by
  match k, h with
  | 0, _ => exact by decide
  | 1, _ => exact by decide
  | 2, _ => exact by decide
  | 3, _ => exact by decide
  | 4, _ => exact by decide
  | 5, _ => exact by decide
  | 6, _ => exact by decide
  | 7, _ => exact by decide
  | 8, _ => exact by decide
theorem or_walk {a k : Nat} (ha : a < 512) (hk : k < 9) : bits .or .u64 (a : Int) (2 ^ k) = ((a ||| 2 ^ k : Nat) : Int) := by
  rw [(two_pos k hk).2.1, u64_or_nat _ _ (by omega) (by have := (two_pos k hk).2.2; omega)]
theorem within_num (a k : Nat) (ha : a < 512) (h : k < 9) (w : World) : Calls Tryd.prog 9 #[.int .u64 (2 ^ k), .int .u64 (a : Int)] w (Same (.bool (a.testBit k)) w) := by
  have := within_bit (BitVec.ofNat 64 a) k h w
  rw [BitVec.toNat_ofNat, Nat.mod_eq_of_lt (by omega)] at this
  exact this
theorem nums_drop (s : ByteArray) (pos : Nat) (h : pos < s.size) : (numsOf s).drop pos = s[pos].toNat :: (numsOf s).drop (pos + 1) := by
  show (s.data.toList.map UInt8.toNat).drop pos = s[pos].toNat :: (s.data.toList.map UInt8.toNat).drop (pos + 1)
  rw [List.drop_eq_getElem_cons (by simpa using h), List.getElem_map]
  rfl
theorem decode_let (s : ByteArray) (pos : Nat) (h : pos < s.size) : bitOf (Utf8.decode s pos).1 = bitOf s[pos].toNat ∧ (bitOf s[pos].toNat < 9 → (Utf8.decode s pos).2 = 1) ∧ 1 ≤ (Utf8.decode s pos).2 := by
  by_cases ha : (s[pos]'h).toNat < 128
  · rw [decode_ascii s pos h ha]
    exact ⟨rfl, fun _ => rfl, Nat.le_refl _⟩
  · obtain ⟨h1, h2⟩ := decode_high s pos h (by omega)
    rw [bitOf_high h1, bitOf_high (by omega)]
    exact ⟨rfl, fun h => by omega, h2⟩
theorem iter_below (w : World) (s : ByteArray) (pos : Nat) : Below w.heap.size w (w.iter s pos) := (Below.refl _ _).alloc (Nat.le_refl _) _
theorem parse_end {s : ByteArray} {pos a : Nat} (h : ¬ pos < s.size) (e : parseN ((numsOf s).drop pos) a = parseN (numsOf s) 0) : parsedV (parseN (numsOf s) 0) = .tuple #[.int .u64 (a : Int), .bool true] := by
  rw [← e, List.drop_of_length_le (by unfold numsOf; simp; exact Nat.le_of_not_lt h)]
  rfl

set_option maxHeartbeats 2000000 in
theorem parse_any (s : ByteArray) (w : World) (hT : TabL w) : Calls Tryd.prog 15 #[.string s] w (Makes (parsedV (parseN (numsOf s) 0)) w) := by
  have CP := hide (fun c W h => permissionOf_any c W h)
  obtain ⟨R, hR⟩ : ∃ R, parseN (numsOf s) 0 = R := ⟨_, rfl⟩
  have HR := hide hR
  rw [hR]
  clear hR
  go_enter Tryd.func15, Tryd.ntmps15
  go_wp2
  go_loopw [4] (fun v wr => ∃ (pos a : Nat), wr = w.iter s pos ∧ v = .int .u64 (a : Int) ∧ a < 512 ∧ parseN ((numsOf s).drop pos) a = parseN (numsOf s) 0) (fun _ wr => s.size - wr.iterPos w.heap.size)
  case atStart => exact ⟨0, 0, rfl, rfl, by omega, by simp⟩
  case round =>
    obtain ⟨pos, a, rfl, rfl, ha, hp⟩ := hrel
    have HP := hide hp
    clear hp
    by_cases h : pos < s.size
    · have hnx : ∀ ty, (Instr.next (.pointer (some ⟨w.heap.size, 0, none⟩)) true ty).run Tryd.prog (w.iter s pos) = _ := fun ty => run_next_any w s pos ty h
      obtain ⟨d1, d2, d3⟩ := decode_let s pos h
      have hd := nums_drop s pos h
      have hle := bitOf_le s[pos].toNat
      obtain ⟨k, hk⟩ : ∃ k, bitOf s[pos].toNat = k := ⟨_, rfl⟩
      rw [hk] at d1 d2 hle
      by_cases h9 : k < 9
      · have hwd := d2 h9
        rw [hwd] at hnx
        have C1 := CP.out (Utf8.decode s pos).1
        rw [show permI (Utf8.decode s pos).1 = 2 ^ k by unfold permI; rw [d1, if_neg (by omega)]] at C1
        have C2 := hide C1
        have CW0 := fun W => within_num a k ha h9 W
        have z1 := (two_pos k h9).1
        have z2 := or_walk ha h9
        have z3 := or_small ha h9
        cases hb : a.testBit k with
        | true =>
          rw [hb] at CW0
          have CW := hide CW0
          have hv : parsedV R = .tuple #[.int .u64 0, .bool false] := by
            rw [← HR.out, ← HP.out, hd, parseN, hk, if_neg (by omega), if_pos hb]; rfl
          have HV := hide hv
          clear hb CW0 C1 d1 d2 d3 hd hk hv z2 z3 hwd
          go_wp2_with (first | (go_at_call 18; (with_reducible refine (C2.out _ (hT.behind (iter_below _ _ _))).mono ?_); rintro e w' ⟨rfl, rfl⟩) | (go_at_call 9; (with_reducible refine (CW.out _).mono ?_); rintro e w' ⟨rfl, rfl⟩))
          go_ret2
          exact ⟨by rw [HV.out]; rfl, iter_below _ _ _⟩
        | false =>
          rw [hb] at CW0
          have CW := hide CW0
          have hst : parseN ((numsOf s).drop (pos + 1)) (a ||| 2 ^ k) = parseN (numsOf s) 0 := by
            rw [← HP.out, hd, parseN, hk, if_neg (by omega), hb, if_neg (by decide)]
          have HS := hide hst
          have z4 := z3.1
          clear hb CW0 C1 d1 d2 d3 hd hk hst z3 hwd
          go_wp2_with (first | (go_at_call 18; (with_reducible refine (C2.out _ (hT.behind (iter_below _ _ _))).mono ?_); rintro e w' ⟨rfl, rfl⟩) | (go_at_call 9; (with_reducible refine (CW.out _).mono ?_); rintro e w' ⟨rfl, rfl⟩))
          go_roundw
          case rel => exact ⟨pos + 1, a ||| 2 ^ k, rfl, rfl, z4, HS.out⟩
          case measure => simp; omega
      · obtain rfl : k = 9 := by omega
        have C1 := CP.out (Utf8.decode s pos).1
        rw [show permI (Utf8.decode s pos).1 = 0 by unfold permI; rw [d1, if_pos rfl]] at C1
        have C2 := hide C1
        have hv : parsedV R = .tuple #[.int .u64 0, .bool false] := by
          rw [← HR.out, ← HP.out, hd, parseN, hk, if_pos rfl]; rfl
        have HV := hide hv
        clear C1 d1 d2 d3 hd hk hv
        go_wp2_with (first | (go_at_call 18; (with_reducible refine (C2.out _ (hT.behind (iter_below _ _ _))).mono ?_); rintro e w' ⟨rfl, rfl⟩))
        go_ret2
        exact ⟨by rw [HV.out]; rfl, iter_below _ _ _⟩
    · have hnx : ∀ ty, (Instr.next (.pointer (some ⟨w.heap.size, 0, none⟩)) true ty).run Tryd.prog (w.iter s pos) = _ := fun ty => run_next_end w s pos ty h
      have hv := parse_end h HP.out
      rw [HR.out] at hv
      have HV := hide hv
      clear hv
      go_wp2
      go_ret2
      exact ⟨by rw [HV.out]; rfl, iter_below _ _ _⟩

end Go.Proofs.YteakjajnaoiilaaDoor
