/-
  The statement FramesNobody: a pool that nobody made has nothing.
-/
import Derived.Test.YtkblpbnppkfjnaaFrm5
import Derived.Test.YtkblpbnppkfjnaaLawFrame
namespace Go.Proofs.Ytkblpbnppkfjnaa.FramesNobody
open Go.RowKit Words ScaleMath FrmMath

/-- A nil pool, or one that nobody made. -/
def Zero (W : World) (p : Option Addr) : Prop := p = none ∨ ∃ b, p = some ⟨b, 0, none⟩ ∧ PoolAt W b 0#64 0#64
theorem zero_be {W W' : World} {p : Option Addr} (hb : Below W.heap.size W W') (h : Zero W p) : Zero W' p := by
  rcases h with h | ⟨b, h1, h2⟩
  · exact .inl h
  · exact .inr ⟨b, h1, pool_be hb h2⟩
theorem zero_al {W : World} {p : Option Addr} (ob : Obj) (h : Zero W p) : Zero (W.alloc ob) p := zero_be (below_alloc (Below.refl _ _) (Nat.le_refl _) ob) h
theorem zero_dr {W : World} {p : Option Addr} (n : Nat) (h : Zero W p) : Zero (W.drewN n) p := h
theorem made_z (p : Option Addr) (W : World) (h : Zero W p) : Calls Try.prog 17 #[.pointer p] W (Quiet (.bool false) W) := by
  rcases h with rfl | ⟨b, rfl, h2⟩
  · exact made_nil W
  · exact made_zero b W h2 0
theorem taken_z (p : Option Addr) (n : Int) (W : World) (h : Zero W p) : Calls Try.prog 15 #[.pointer p, .int .i64 n] W (Makes (.bool false) W) := by
  rcases h with rfl | ⟨b, rfl, h2⟩
  · exact (taken_nil n W).mono fun _ _ h => quiet_makes h
  · exact (taken_zero b n W h2).mono fun _ _ h => quiet_makes h

set_option maxRecDepth 100000 in
set_option maxHeartbeats 4000000 in
theorem walk (n : Int) (w : World) : Calls Try.prog 4 #[.int .i64 n] w fun e W' => e = .returned (.bool true) ∧ Below w.heap.size w W' := by
  have c1 := fun p W h => take_no p W (made_z p W h)
  have c2 := fun p W h => give_no p n W (made_z p W h)
  have c3 := fun p (W : World) (h : Zero W p) => free_no p W (fun W' hb => made_z p W' (zero_be hb h))
  have c4 := fun p W h => taken_z p n W h
  have c5 := fun p (W : World) (h : Zero W p) => all_no p W (fun W' hb => made_z p W' (zero_be hb h))
  have D1 := hide c1
  have D2 := hide c2
  have D3 := hide c3
  have D4 := hide c4
  have D5 := hide c5
  clear c1 c2 c3 c4 c5
  go_enter Try.func4, Try.ntmps4
  go_wp2
  go_loopw [11] (fun i wr => ∃ k : Nat, k ≤ 2 ∧ i = .int .i64 k ∧ PoolAt wr w.heap.size 0#64 0#64 ∧ wr.cell? ⟨w.heap.size + 1, 0, none⟩ = some (.pointer none) ∧ wr.cell? ⟨w.heap.size + 1, 1, none⟩ = some (.pointer (some ⟨w.heap.size, 0, none⟩)) ∧ Below w.heap.size w wr) (fun i _ => 2 - (intOf i).toNat)
  case atStart => exact ⟨0, by omega, rfl, pool_al _ (World.alloc_heap_new w _), by simp [go_sem], by simp [go_sem], bw_alloc (bw_alloc (Below.refl _ _) _) _⟩
  case round =>
    obtain ⟨k, hk, rfl, hp, ka, kb, hbel⟩ := hrel
    by_cases h2 : k < 2
    · have hp2 : ∃ p, wr.cell? ⟨w.heap.size + 1, k, none⟩ = some (.pointer p) ∧ Zero wr p := by
        match k, h2 with
        | 0, _ => exact ⟨_, ka, .inl rfl⟩
        | 1, _ => exact ⟨_, kb, .inr ⟨_, rfl, hp⟩⟩
      obtain ⟨p, hc, hz⟩ := hp2
      have C1 := hide (D1.out p)
      have C2 := hide (D2.out p)
      have C3 := hide (D3.out p)
      have C4 := hide (D4.out p)
      have C5 := hide (D5.out p)
      have hk0 : (0 : Int) ≤ (k : Int) := by omega
      have hk2 : (k : Int) < 2 := by omega
      have HP := hide hp
      have KA := hide ka
      have KB := hide kb
      clear hp ka kb
      go_wp2_with (first | (go_at_call 8; refine (C1.out _ (by repeat (first | with_reducible assumption | with_reducible refine zero_dr _ ?_ | with_reducible refine zero_al _ ?_ | (with_reducible apply zero_be; with_reducible assumption)))).mono ?_; rintro e w1 ⟨rfl, hb1⟩) | (go_at_call 10; refine (C2.out _ (by repeat (first | with_reducible assumption | with_reducible refine zero_dr _ ?_ | with_reducible refine zero_al _ ?_ | (with_reducible apply zero_be; with_reducible assumption)))).mono ?_; rintro e w2 ⟨rfl, hb2⟩) | (go_at_call 14; refine (C3.out _ (by repeat (first | with_reducible assumption | with_reducible refine zero_dr _ ?_ | with_reducible refine zero_al _ ?_ | (with_reducible apply zero_be; with_reducible assumption)))).mono ?_; rintro e w3 ⟨rfl, hb3⟩) | (go_at_call 15; refine (C4.out _ (by repeat (first | with_reducible assumption | with_reducible refine zero_dr _ ?_ | with_reducible refine zero_al _ ?_ | (with_reducible apply zero_be; with_reducible assumption)))).mono ?_; rintro e w4 ⟨rfl, hb4⟩) | (go_at_call 12; refine (C5.out _ (by repeat (first | with_reducible assumption | with_reducible refine zero_dr _ ?_ | with_reducible refine zero_al _ ?_ | (with_reducible apply zero_be; with_reducible assumption)))).mono ?_; rintro e w5 ⟨rfl, hb5⟩))
      have hB : Below wr.heap.size wr w5 := by
        repeat (first | with_reducible assumption | with_reducible exact Below.refl _ _ | with_reducible refine Below.drew ?_ | with_reducible refine below_drewN ?_ _ | with_reducible refine bw_alloc ?_ _ | (with_reducible refine bw_set ?_ ?_ _; focus (dsimp only; omega)) | (with_reducible apply bw_behind; with_reducible assumption))
      go_roundw
      case rel => exact ⟨k + 1, by omega, by go_num, pool_be hB HP.out, c_be hB KA.out, c_be hB KB.out, hbel.trans (hB.mono hbel.size)⟩
      case measure => simp [intOf]; omega
    · obtain rfl : k = 2 := by omega
      go_wp2
      go_ret
      exact ⟨rfl, hbel⟩

open Go.ChangeShapes Go.WideShapes Go.ChangeAt
theorem walks : Frame.Walks 4 Try.f4 := by
  intro H enc W base args ds ps hval hA
  rw [Try.params4] at hA hval
  obtain ⟨v0, d0, hargs, rfl, h0⟩ := trodAll_one hA
  obtain rfl : args = #[v0] := by cases args; simp_all
  obtain ⟨x0, rfl, rfl, rfl, w0⟩ := open_int Try.underlying3 (hval 0 3 v0 rfl rfl) h0
  exact walk x0 W
set_option maxRecDepth 100000 in
theorem proved : Rows.FramesNobodySaid :=
  OpenClaim.holds_of_wide 4 Try.f4 rfl rfl rfl rfl rfl rfl rfl ⟨rfl, rfl, rfl, rfl, rfl⟩ rfl rfl rfl rfl rfl (by kernel_rfl) Try.func4 (by kernel_rfl)
    (of_decide_eq_true (by kernel_rfl)) (by unfold Func.isWrapper; first | (rw [if_pos (by decide +kernel)]; kernel_rfl) | (rw [if_neg (by decide +kernel)]; exact ⟨rfl, rfl⟩))
    (fun os started H enc _ => Frame.lift os started H enc _ _ Rows.framesNobodySpec 4 (by kernel_rfl) Try.func4 Try.underlying4 (by kernel_rfl) rfl (by kernel_rfl)
      (fun ds h => by match ds, h with | [_], _ => exact ⟨rfl, rfl, rfl⟩)
      (ChangeSpec.witness6 (enc := enc) (C := Try.checked) false ⟨#[], #[.int .i64 0], []⟩ 8 (by kernel_rfl) (by kernel_rfl) (by kernel_rfl) (by kernel_rfl)) walks)

end Go.Proofs.Ytkblpbnppkfjnaa.FramesNobody
