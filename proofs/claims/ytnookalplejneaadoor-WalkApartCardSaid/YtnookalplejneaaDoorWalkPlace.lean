/-
  The address that three indices make; what a walk finds there, step by step.
-/
import Derived.Test.YtnookalplejneaaDoorWalkMath2
import Derived.Test.YtnookalplejneaaDoorPteSmall
namespace Go.Proofs.YtnookalplejneaaDoor
open Go.RowKit Words FieldMath PteMath

theorem or_up (a b k : Nat) (hb : b < 2 ^ k) (h : a * 2 ^ k + b < 18446744073709551616) : bits .or .u64 ((a * 2 ^ k : Nat) : Int) (b : Int) = ((a * 2 ^ k + b : Nat) : Int) := by
  have hp := Nat.two_pow_pos k
  have h1 : a * 2 ^ k < 2 ^ 64 := by omega
  have h2 : b < 2 ^ 64 := by omega
  have h3 := or_bv (BitVec.ofNat 64 (a * 2 ^ k)) (BitVec.ofNat 64 b)
  rw [BitVec.toNat_or, BitVec.toNat_ofNat, BitVec.toNat_ofNat, Nat.mod_eq_of_lt h1, Nat.mod_eq_of_lt h2, Nat.mul_comm a, ← Nat.two_pow_add_eq_or_of_lt hb] at h3
  rw [Nat.mul_comm a]
  exact h3
set_option maxRecDepth 100000 in
set_option maxHeartbeats 2000000 in
theorem place_let (A B C X Y Z S T : Int) (_a : IntKind.u64.wrap A = A) (_b : IntKind.u64.wrap B = B) (_c : IntKind.u64.wrap C = C) (_x : IntKind.u64.wrap (A * 2 ^ 30) = X) (_y : IntKind.u64.wrap (B * 2 ^ 21) = Y) (_z : IntKind.u64.wrap (C * 2 ^ 12) = Z) (_x2 : IntKind.u64.wrap (A * 1073741824) = X) (_y2 : IntKind.u64.wrap (B * 2097152) = Y) (_z2 : IntKind.u64.wrap (C * 4096) = Z)
    (_s : bits .or .u64 X Y = S) (_t : bits .or .u64 S Z = T) (w : World) : Calls Tryd.prog 23 #[.int .i64 A, .int .i64 B, .int .i64 C] w (Quiet (.int .u64 T) w) := by
  go_enter Tryd.func23, Tryd.ntmps23
  go_wp2
  go_ret
  exact ⟨rfl, 0, rfl⟩
def placeN (a b c : Nat) : Nat := a * 1073741824 + b * 2097152 + c * 4096
theorem place_any (a b c : Nat) (ha : a < 256) (hb : b < 512) (hc : c < 512) (w : World) : Calls Tryd.prog 23 #[.int .i64 (a : Int), .int .i64 (b : Int), .int .i64 (c : Int)] w (Quiet (.int .u64 ((placeN a b c : Nat) : Int)) w) := by
  have u := fun n : Int => IntKind.wrap_u64 n
  have h1 := or_up a (b * 2097152) 30 (by omega) (by omega)
  have h2 := or_up (a * 512 + b) (c * 4096) 21 (by omega) (by omega)
  rw [show (a * 512 + b) * 2 ^ 21 = a * 2 ^ 30 + b * 2097152 by omega] at h2
  refine place_let (a : Int) (b : Int) (c : Int) ((a * 2 ^ 30 : Nat) : Int) ((b * 2097152 : Nat) : Int) ((c * 4096 : Nat) : Int) _ _ ?_ ?_ ?_ ?_ ?_ ?_ ?_ ?_ ?_ h1 ?_ w
  all_goals first | (rw [u]; omega) | (rw [h2]; unfold placeN; omega)
theorem place_idx (a b c : Nat) (ha : a < 256) (hb : b < 512) (hc : c < 512) : placeN a b c < 274877906944 ∧ idx (placeN a b c) 0 = c ∧ idx (placeN a b c) 1 = b ∧ idx (placeN a b c) 2 = a := by
  unfold placeN idx
  simp
  omega

/-- A walk of three steps. -/
theorem walk_three (M : Nat → Nat → BitVec 64) (C v : Nat) (hv : v < 274877906944) (h0 : 0 < C) : walkM M C 0 v = if goodQ (M 0 (idx v 2)) false C = true then (if goodQ (M (getB (M 0 (idx v 2)) 10 44).toNat (idx v 1)) false C = true then (if goodQ (M (getB (M (getB (M 0 (idx v 2)) 10 44).toNat (idx v 1)) 10 44).toNat (idx v 0)) true C = true then
    some (M (getB (M (getB (M 0 (idx v 2)) 10 44).toNat (idx v 1)) 10 44).toNat (idx v 0), (getB (M (getB (M 0 (idx v 2)) 10 44).toNat (idx v 1)) 10 44).toNat * 4096 + 8 * idx v 0) else none) else none) else none := by
  unfold walkM
  rw [if_pos ⟨hv, h0⟩]
  rfl
theorem good_zero (l : Bool) (C : Nat) : goodQ 0#64 l C = false := by
  unfold goodQ
  simp
/-- The word of a table's entry. -/
def tabW (F : BitVec 64) : BitVec 64 := wk (bs true false false false false false false false false false false false) F 12
theorem good_1 : goodQ (tabW 1#64) false 8 = true := by decide +kernel
theorem good_2 : goodQ (tabW 2#64) false 8 = true := by decide +kernel
theorem frame_1 : (getB (tabW 1#64) 10 44).toNat = 1 := by decide +kernel
theorem frame_2 : (getB (tabW 2#64) 10 44).toNat = 2 := by decide +kernel
/-- The word of an entry: whether it serves. -/
theorem good_word (b0 b1 b2 b3 b4 b5 b6 b7 b8 b9 b10 b11 l : Bool) (F : BitVec 64) (C : Nat) (hF : F.toNat < C) (hC : C ≤ 64) : goodQ (wk (bs b0 b1 b2 b3 b4 b5 b6 b7 b8 b9 b10 b11) F 12) l C = (b0 && rightQ b0 b1 b2 b3 b4 b5 b6 b7 b8 b9 b10 b11 (F.toNat : Int) && ((b0 && (b1 || b2 || b3)) == l)) := by
  obtain ⟨h0, h1, h2, h3, h4, h5, h6, h7, h8, h9, h10, h11⟩ := word_bits b0 b1 b2 b3 b4 b5 b6 b7 b8 b9 b10 b11 F
  have hf : (F &&& maskB 44).toNat = F.toNat := by rw [frame_nat]; omega
  unfold goodQ
  rw [word_frame, h0, h1, h2, h3, h4, h5, h6, h7, h8, h9, h10, h11, hf, decide_eq_true hF, Bool.and_true]
end Go.Proofs.YtnookalplejneaaDoor
