/-
  The statement BlockNobody: a device that nobody made has nothing; and just a device's error is one.
-/
import Derived.Test.YtadhjgjemndnpaaBlk2
import Derived.Test.YtadhjgjemndnpaaBlkErr
import Derived.Test.YtadhjgjemndnpaaLawFrame
namespace Go.Proofs.Ytadhjgjemndnpaa.BlockNobody
open Go.RowKit

set_option maxRecDepth 100000 in
set_option maxHeartbeats 4000000 in
theorem walk (n x : Int) (w : World) : Calls Try.prog 4 #[.int .i64 n, .int .i64 x] w fun e W' => e = .returned (.bool true) ∧ Below w.heap.size w W' := by
  have D1 := hide (fun p W h => fail_no p n W h)
  have D2 := hide (fun p W h => read_no p n W h)
  have D3 := hide (fun p W h => write_no p n none 0 0 W h)
  have D4 := hide (fun p W h => blocks_no p W h)
  have E1 := hide (fun W => failed_any x W)
  have E2 := hide (fun W => failed_any 17 W)
  have E3 := hide (fun W => failed_nil W)
  go_enter Try.func4, Try.ntmps4
  go_wp2
  go_loopw [13] (fun i wr => ∃ k : Nat, k ≤ 2 ∧ i = .int .i64 k ∧ DevZero wr w.heap.size ∧ wr.cell? ⟨w.heap.size + 1, 0, none⟩ = some (.pointer none) ∧ wr.cell? ⟨w.heap.size + 1, 1, none⟩ = some (.pointer (some ⟨w.heap.size, 0, none⟩)) ∧ Below w.heap.size w wr) (fun i _ => 2 - (intOf i).toNat)
  case atStart => exact ⟨0, by omega, rfl, dz_al _ (heap_alloc_last w _), by simp [go_sem], by simp [go_sem], bw_alloc (bw_alloc (Below.refl _ _) _) _⟩
  case round =>
    obtain ⟨k, hk, rfl, hp, ka, kb, hbel⟩ := hrel
    by_cases h2 : k < 2
    · have hp2 : ∃ p, wr.cell? ⟨w.heap.size + 1, k, none⟩ = some (.pointer p) ∧ NoDev wr p := by
        match k, h2 with
        | 0, _ => exact ⟨_, ka, .inl rfl⟩
        | 1, _ => exact ⟨_, kb, .inr ⟨_, rfl, hp⟩⟩
      obtain ⟨p, hc, hz⟩ := hp2
      have C1 := hide (D1.out p)
      have C2 := hide (D2.out p)
      have C3 := hide (D3.out p)
      have C4 := hide (D4.out p)
      have hk0 : (0 : Int) ≤ (k : Int) := by omega
      have hk2 : (k : Int) < 2 := by omega
      have HP := hide hp
      have KA := hide ka
      have KB := hide kb
      clear hp ka kb
      go_wp2_with (first | (go_at_call 14; refine (C1.out _ (by repeat (first | with_reducible assumption | with_reducible refine no_dr _ ?_))).mono ?_; rintro e w1 ⟨rfl, k1, rfl⟩) | (go_at_call 12; refine (C2.out _ (by repeat (first | with_reducible assumption | with_reducible refine no_dr _ ?_))).mono ?_; rintro e w2 ⟨rfl, k2, rfl⟩) | (go_at_call 10; refine (C3.out _ (by repeat (first | with_reducible assumption | with_reducible refine no_dr _ ?_))).mono ?_; rintro e w3 ⟨rfl, k3, rfl⟩) | (go_at_call 8; refine (C4.out _ (by repeat (first | with_reducible assumption | with_reducible refine no_dr _ ?_))).mono ?_; rintro e w4 ⟨rfl, k4, rfl⟩))
      go_roundw
      case rel => exact ⟨k + 1, by omega, by go_num, HP.out, KA.out, KB.out, by repeat (first | with_reducible assumption | with_reducible refine below_drewN ?_ _)⟩
      case measure => simp [intOf]; omega
    · obtain rfl : k = 2 := by omega
      clear D1 D2 D3 D4 hp ka kb
      go_wp2_with (first | (go_at_call 15; refine (E1.out _).mono ?_; rintro e w1 ⟨rfl, k1, rfl⟩) | (go_at_call 15; refine (E2.out _).mono ?_; rintro e w2 ⟨rfl, k2, rfl⟩) | (go_at_call 15; refine (E3.out _).mono ?_; rintro e w3 ⟨rfl, k3, rfl⟩))
      go_ret
      exact ⟨by simp, by repeat (first | with_reducible assumption | with_reducible refine below_drewN ?_ _)⟩
open Go.ChangeShapes Go.WideShapes Go.ChangeAt
theorem walks : Frame.Walks 4 Try.f4 := by
  intro H enc W base args ds ps hval hA
  rw [Try.params4] at hA hval
  obtain ⟨v0, v1, d0, d1, p0, p1, hargs, rfl, rfl, h0, h1⟩ := trodAll_two hA
  obtain rfl : args = #[v0, v1] := by cases args; simp_all
  obtain ⟨x0, rfl, rfl, rfl, w0⟩ := open_int Try.underlying3 (hval 0 3 v0 rfl rfl) h0
  obtain ⟨x1, rfl, rfl, rfl, w1⟩ := open_int Try.underlying3 (hval 1 3 v1 rfl rfl) h1
  exact walk x0 x1 W
set_option maxRecDepth 100000 in
theorem proved : Rows.BlockNobodySaid :=
  OpenClaim.holds_of_wide 4 Try.f4 rfl rfl rfl rfl rfl rfl rfl ⟨rfl, rfl, rfl, rfl, rfl⟩ rfl rfl rfl rfl rfl (by kernel_rfl) Try.func4 (by kernel_rfl)
    (of_decide_eq_true (by kernel_rfl)) (by unfold Func.isWrapper; first | (rw [if_pos (by decide +kernel)]; kernel_rfl) | (rw [if_neg (by decide +kernel)]; exact ⟨rfl, rfl⟩))
    (fun os started H enc _ => Frame.lift os started H enc _ _ Rows.blockNobodySpec 4 (by kernel_rfl) Try.func4 Try.underlying4 (by kernel_rfl) rfl (by kernel_rfl)
      (fun ds h => by match ds, h with | [_, _], _ => exact ⟨rfl, rfl, rfl⟩)
      (ChangeSpec.witness6 (enc := enc) (C := Try.checked) false ⟨#[], #[.int .i64 0, .int .i64 0], []⟩ 8 (by kernel_rfl) (by kernel_rfl) (by kernel_rfl) (by kernel_rfl)) walks)
end Go.Proofs.Ytadhjgjemndnpaa.BlockNobody
