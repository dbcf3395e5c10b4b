/-
  What mintmarkref04.Text and mintmarkref04.Parse answer.
-/
import Derived.Test.YteakjajnaoiilaaDoorPermText
namespace Go.Proofs.YteakjajnaoiilaaDoor
open Go.RowKit Words PermMath

theorem slice_let (k : Nat) (h : k < 9) (W : World) :
    (Instr.slice 9 (.string ⟨#[114, 119, 120, 82, 87, 115, 117, 83, 103]⟩) (some (.int .i64 (k : Int))) (some (.int .i64 ((k : Int) + 1))) none).run Tryd.prog W = .ok (.string (bytesOf [letN k])) W := by
  match k, h with
  | 0, _ => rfl
  | 1, _ => rfl
  | 2, _ => rfl
  | 3, _ => rfl
  | 4, _ => rfl
  | 5, _ => rfl
  | 6, _ => rfl
  | 7, _ => rfl
  | 8, _ => rfl
theorem text_add (m k : Nat) (l : List Nat) (hk : k ≤ 9) (hl : l.length = 1) (W : World) : (Op.stringOp .add (bytesOf (textTo m k)) (bytesOf l)).run Tryd.prog W = .ok (.string (bytesOf (textTo m k ++ l))) W := by
  have := (textTo_lt m k hk).2
  rw [run_string_add_sum _ _ _ (by rw [bytesOf_size, bytesOf_size]; omega), bytesOf_append]

set_option maxHeartbeats 2000000 in
theorem rtext_any (p : BitVec 64) (w : World) : Calls Tryd.prog 12 #[.int .u64 (p.toNat : Int)] w (Same (.string (bytesOf (textN p.toNat))) w) := by
  have BO := hide (bit_out p)
  have hm1 : decide (511 < (p.toNat : Int)) = !decide (p.toNat < 512) := by
    by_cases h : p.toNat < 512
    · rw [decide_eq_true h, decide_eq_false (by omega)]; rfl
    · rw [decide_eq_false h, decide_eq_true (by omega)]; rfl
  have HM := hide hm1
  clear hm1
  have TB : ∀ k, p.getLsbD k = p.toNat.testBit k := fun _ => rfl
  have HTB := hide TB
  clear TB
  obtain ⟨m, hm⟩ : ∃ m, p.toNat = m := ⟨_, rfl⟩
  rw [hm] at BO HM HTB ⊢
  clear hm
  go_enter Tryd.func12, Tryd.ntmps12
  go_wp2
  go_loop [3, 4] (fun s i => ∃ k : Nat, k ≤ 9 ∧ i = .int .i64 k ∧ s = .string (bytesOf (textTo m k))) (fun _ i => 9 - (intOf i).toNat)
  case atStart => exact ⟨0, by omega, rfl, rfl⟩
  case round =>
    obtain ⟨k, hk, rfl, rfl⟩ := hrel
    by_cases h : k < 9
    · have hsl := slice_let k h
      have hb1 := BO.out k
      rw [HTB.out k] at hb1
      cases hb : m.testBit k with
      | true =>
        rw [hb] at hb1
        have HH := hide (textTo_hit hb)
        have hadd := text_add m k [letN k] hk rfl
        clear hb
        go_wp2
        go_round
        case rel => exact ⟨k + 1, by omega, by go_num, by rw [HH.out]⟩
        case measure => simp [intOf]; omega
      | false =>
        rw [hb] at hb1
        have HH := hide (textTo_miss hb)
        clear hb
        go_wp2
        go_round
        case rel => exact ⟨k + 1, by omega, by go_num, by rw [HH.out]⟩
        case measure => simp [intOf]; omega
    · obtain rfl : k = 9 := by omega
      by_cases hm : m < 512
      · have h1 := HM.out
        rw [decide_eq_true hm] at h1
        have ht : textN m = textTo m 9 := by unfold textN; rw [if_pos hm]; simp
        have HT := hide ht
        have h2 : ¬ (511 < (m : Int)) := by omega
        clear ht h1 hm
        go_wp2
        go_ret
        exact ⟨by rw [HT.out]; rfl, rfl⟩
      · have ht : textN m = textTo m 9 ++ [43] := by unfold textN; rw [if_neg hm]
        have HT := hide ht
        have hadd : ∀ W, (Op.stringOp .add (bytesOf (textTo m 9)) ⟨#[43]⟩).run Tryd.prog W = .ok (.string (bytesOf (textTo m 9 ++ [43]))) W := text_add m 9 [43] (by omega) rfl
        have h2 : 511 < (m : Int) := by omega
        clear ht hm
        go_wp2
        go_ret
        exact ⟨by rw [HT.out]; rfl, rfl⟩

end Go.Proofs.YteakjajnaoiilaaDoor
