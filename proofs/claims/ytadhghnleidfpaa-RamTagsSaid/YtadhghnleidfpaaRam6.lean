/-
  What Page.capability answers.
-/
import Derived.Test.YtadhghnleidfpaaRam5
import Derived.Laws.Cover3
namespace Go.Proofs.Ytadhghnleidfpaa
open Go.RowKit Words

set_option maxRecDepth 100000 in
set_option maxHeartbeats 4000000 in
theorem cap_any (N o off : Nat) (G : Int) (B : Nat → BitVec 8) (s : BitVec 256) (ho : off + 16 ≤ 4096) (hG : (off : Int) / 16 = G) (hG2 : (off : Int).tdiv 16 = G) (w : World) (h : PageAt w N o B s) :
    Calls Try.prog 15 #[.pointer (some ⟨N, o, none⟩), .int .i64 (off : Int)] w (Makes (.agg #[.bool (getS s G), .int .u64 ((metF (fun i => B (off + i))).toNat : Int), .int .u64 ((adrF (fun i => B (off + i))).toNat : Int)]) w) := by
  have hG3 : IntKind.i64.wrap G = G := by rw [IntKind.wrap_i64]; omega
  have hN : ltB N w.heap.size = true := decide_eq_true h.here
  have d1 := fun W => get_any s G W
  have d2 := fun W => of_any (fun i => B (off + i)) (getS s G) W
  have x0 : w.cell? ⟨N, o + off, none⟩ = some (byI (B (off + 0))) := h.byte (off + 0) (by omega)
  have x1 : w.cell? ⟨N, o + off + 1, none⟩ = some (byI (B (off + 1))) := by rw [Nat.add_assoc]; exact h.byte (off + 1) (by omega)
  have x2 : w.cell? ⟨N, o + off + 2, none⟩ = some (byI (B (off + 2))) := by rw [Nat.add_assoc]; exact h.byte (off + 2) (by omega)
  have x3 : w.cell? ⟨N, o + off + 3, none⟩ = some (byI (B (off + 3))) := by rw [Nat.add_assoc]; exact h.byte (off + 3) (by omega)
  have x4 : w.cell? ⟨N, o + off + 4, none⟩ = some (byI (B (off + 4))) := by rw [Nat.add_assoc]; exact h.byte (off + 4) (by omega)
  have x5 : w.cell? ⟨N, o + off + 5, none⟩ = some (byI (B (off + 5))) := by rw [Nat.add_assoc]; exact h.byte (off + 5) (by omega)
  have x6 : w.cell? ⟨N, o + off + 6, none⟩ = some (byI (B (off + 6))) := by rw [Nat.add_assoc]; exact h.byte (off + 6) (by omega)
  have x7 : w.cell? ⟨N, o + off + 7, none⟩ = some (byI (B (off + 7))) := by rw [Nat.add_assoc]; exact h.byte (off + 7) (by omega)
  have x8 : w.cell? ⟨N, o + off + 8, none⟩ = some (byI (B (off + 8))) := by rw [Nat.add_assoc]; exact h.byte (off + 8) (by omega)
  have x9 : w.cell? ⟨N, o + off + 9, none⟩ = some (byI (B (off + 9))) := by rw [Nat.add_assoc]; exact h.byte (off + 9) (by omega)
  have x10 : w.cell? ⟨N, o + off + 10, none⟩ = some (byI (B (off + 10))) := by rw [Nat.add_assoc]; exact h.byte (off + 10) (by omega)
  have x11 : w.cell? ⟨N, o + off + 11, none⟩ = some (byI (B (off + 11))) := by rw [Nat.add_assoc]; exact h.byte (off + 11) (by omega)
  have x12 : w.cell? ⟨N, o + off + 12, none⟩ = some (byI (B (off + 12))) := by rw [Nat.add_assoc]; exact h.byte (off + 12) (by omega)
  have x13 : w.cell? ⟨N, o + off + 13, none⟩ = some (byI (B (off + 13))) := by rw [Nat.add_assoc]; exact h.byte (off + 13) (by omega)
  have x14 : w.cell? ⟨N, o + off + 14, none⟩ = some (byI (B (off + 14))) := by rw [Nat.add_assoc]; exact h.byte (off + 14) (by omega)
  have x15 : w.cell? ⟨N, o + off + 15, none⟩ = some (byI (B (off + 15))) := by rw [Nat.add_assoc]; exact h.byte (off + 15) (by omega)
  have c0 := h.word 0 (by omega)
  have c1 := h.word 1 (by omega)
  have c2 := h.word 2 (by omega)
  have c3 := h.word 3 (by omega)
  clear h
  unfold byI at d2 x0 x1 x2 x3 x4 x5 x6 x7 x8 x9 x10 x11 x12 x13 x14 x15
  generalize getS s G = q at *
  generalize ((metF (fun i => B (off + i))).toNat : Int) = M at *
  generalize ((adrF (fun i => B (off + i))).toNat : Int) = A at *
  generalize ((B (off + 0)).toNat : Int) = X0 at *
  generalize ((B (off + 1)).toNat : Int) = X1 at *
  generalize ((B (off + 2)).toNat : Int) = X2 at *
  generalize ((B (off + 3)).toNat : Int) = X3 at *
  generalize ((B (off + 4)).toNat : Int) = X4 at *
  generalize ((B (off + 5)).toNat : Int) = X5 at *
  generalize ((B (off + 6)).toNat : Int) = X6 at *
  generalize ((B (off + 7)).toNat : Int) = X7 at *
  generalize ((B (off + 8)).toNat : Int) = X8 at *
  generalize ((B (off + 9)).toNat : Int) = X9 at *
  generalize ((B (off + 10)).toNat : Int) = X10 at *
  generalize ((B (off + 11)).toNat : Int) = X11 at *
  generalize ((B (off + 12)).toNat : Int) = X12 at *
  generalize ((B (off + 13)).toNat : Int) = X13 at *
  generalize ((B (off + 14)).toNat : Int) = X14 at *
  generalize ((B (off + 15)).toNat : Int) = X15 at *
  generalize ((wd s 0).toNat : Int) = A0 at *
  generalize ((wd s 1).toNat : Int) = A1 at *
  generalize ((wd s 2).toNat : Int) = A2 at *
  generalize ((wd s 3).toNat : Int) = A3 at *
  have C1 := hide d1
  have C2 := hide d2
  clear d1 d2
  have i0 : (0 : Int) ≤ (off : Int) := by omega
  have i1 : (off : Int) ≤ 4096 := by omega
  have i2 : ¬ 4096 = off := by omega
  have i3 : (off : Int) + 16 ≤ 4096 := by omega
  have i4 : IntKind.i64.wrap ((off : Int) + 16) = (off : Int) + 16 := by rw [IntKind.wrap_i64]; omega
  have i5 : ((off : Int) + 16).toNat = off + 16 := by omega
  have i6 : (0 : Int) ≤ (off : Int) + 16 := by omega
  have i7 : (off : Int) ≤ (off : Int) + 16 := by omega
  have hat : ∀ W, (Instr.arrayAt 35 (.slice (some ⟨N, o + off, none⟩) 16 (4096 - off))).run Try.prog W = .ok (.pointer (some ⟨N, o + off, none⟩)) W := fun W => run_arrayAt W 35 5 16 _ 16 _ Try.underlying35 (by omega)
  have SS := cell_same
  have LB' := ltB_add
  have LS := ltB_self
  have LA' := alloc_reads
  have LH := alloc_holds
  go_enter Try.func15, Try.ntmps15
  go_upto_region 2 with fail
  go_region_with (first | (go_at_call 21; (with_reducible first | refine (C1.out _).mono ?_); rintro e w1 ⟨rfl, hb1⟩; have hr1 := below_reads hb1; have hh1 := below_holds hb1; obtain ⟨m1, hs1⟩ := below_grew hb1) | (go_at_call 20; (with_reducible first | refine (C2.out _).mono ?_); rintro e w2 ⟨rfl, hb2⟩; have hr2 := below_reads hb2; have hh2 := below_holds hb2; obtain ⟨m2, hs2⟩ := below_grew hb2))
  all_goals
    go_wp2_with fail
    refine bodyPost_ret (v := .agg #[.bool q, .int .u64 M, .int .u64 A]) (by simp (maxDischargeDepth := 4) [results, Try.results15, go_sem, *]) rfl ?_
    refine ⟨rfl, ?_⟩
    repeat (first | with_reducible assumption | with_reducible exact Below.refl _ _ | with_reducible refine Below.drew ?_ | with_reducible refine below_drewN ?_ _ | with_reducible refine bw_alloc ?_ _ | (with_reducible refine bw_set ?_ ?_ _; focus (dsimp only; omega)) | (with_reducible apply bw_behind; with_reducible assumption))
end Go.Proofs.Ytadhghnleidfpaa
