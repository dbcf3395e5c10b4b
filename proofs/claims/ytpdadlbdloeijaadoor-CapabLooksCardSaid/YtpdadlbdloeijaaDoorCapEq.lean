/-
  When two arrays of sixteen bytes are the same.
-/
import Derived.Test.YtpdadlbdloeijaaDoorCapBytes
import Derived.Test.YtpdadlbdloeijaaDoorCapOf
import Derived.DeepKeys
namespace Go.Proofs.YtpdadlbdloeijaaDoor
open Go.RowKit Words FieldMath BoundsMath

theorem items_u8 {P : Program} (d : Nat) (e : TypeId) (hp : P.plainKey e = true) (he : P.underlying e = some (.int .u8)) (xs ys : Array Value) (X Y : Nat → Int) (w : World) :
    ∀ is : List Nat, (∀ i ∈ is, xs[i]? = some (.int .u8 (X i)) ∧ ys[i]? = some (.int .u8 (Y i))) → (Op.eqItems (d + 1) e 1 xs ys is).run P w = .ok (decide (∀ i ∈ is, X i = Y i)) w
  | [], _ => by simp [Op.eqItems]
  | i :: is, h => by
    obtain ⟨h1, h2⟩ := h i (by simp)
    have ih := items_u8 d e hp he xs ys X Y w is (fun j hj => h j (by simp [hj]))
    simp only [Op.eqItems, Sem.run_bind, Nat.mul_one, run_part_plain w hp h1, run_part_plain w hp h2, run_equalIn_int w d e .u8 .u8 _ _ he, Result.andThen_ok]
    by_cases hx : X i = Y i
    · rw [hx, show ((Y i == Y i) = true) from by simp]
      simp only [Bool.not_true, Bool.false_eq_true, if_false]
      rw [ih]
      congr 1
      exact decide_eq_decide.mpr (by simp [hx])
    · rw [show ((X i == Y i) = false) from by simp [hx]]
      simp only [Bool.not_false, if_true, Sem.run_pure]
      congr 1
      exact (decide_eq_false (fun hh => hx (hh i (by simp)))).symm
theorem eq_arr (x0 x1 x2 x3 x4 x5 x6 x7 x8 x9 x10 x11 x12 x13 x14 x15 y0 y1 y2 y3 y4 y5 y6 y7 y8 y9 y10 y11 y12 y13 y14 y15 : Int) : ∀ W, (binOp .eql 37 (.agg #[.int .u8 x0, .int .u8 x1, .int .u8 x2, .int .u8 x3, .int .u8 x4, .int .u8 x5, .int .u8 x6, .int .u8 x7, .int .u8 x8, .int .u8 x9, .int .u8 x10, .int .u8 x11, .int .u8 x12, .int .u8 x13, .int .u8 x14, .int .u8 x15]) (.agg #[.int .u8 y0, .int .u8 y1, .int .u8 y2, .int .u8 y3, .int .u8 y4, .int .u8 y5, .int .u8 y6, .int .u8 y7, .int .u8 y8, .int .u8 y9, .int .u8 y10, .int .u8 y11, .int .u8 y12, .int .u8 y13, .int .u8 y14, .int .u8 y15])).run Tryd.prog W = .ok (.bool (decide (x0 = y0 ∧ x1 = y1 ∧ x2 = y2 ∧ x3 = y3 ∧ x4 = y4 ∧ x5 = y5 ∧ x6 = y6 ∧ x7 = y7 ∧ x8 = y8 ∧ x9 = y9 ∧ x10 = y10 ∧ x11 = y11 ∧ x12 = y12 ∧ x13 = y13 ∧ x14 = y14 ∧ x15 = y15))) W := by
  intro W
  have h1 := items_u8 (P := Tryd.prog) 9998 5 (by kernel_rfl) (by kernel_rfl) #[.int .u8 x0, .int .u8 x1, .int .u8 x2, .int .u8 x3, .int .u8 x4, .int .u8 x5, .int .u8 x6, .int .u8 x7, .int .u8 x8, .int .u8 x9, .int .u8 x10, .int .u8 x11, .int .u8 x12, .int .u8 x13, .int .u8 x14, .int .u8 x15] #[.int .u8 y0, .int .u8 y1, .int .u8 y2, .int .u8 y3, .int .u8 y4, .int .u8 y5, .int .u8 y6, .int .u8 y7, .int .u8 y8, .int .u8 y9, .int .u8 y10, .int .u8 y11, .int .u8 y12, .int .u8 y13, .int .u8 y14, .int .u8 y15] (fun i => [x0, x1, x2, x3, x4, x5, x6, x7, x8, x9, x10, x11, x12, x13, x14, x15].getD i 0) (fun i => [y0, y1, y2, y3, y4, y5, y6, y7, y8, y9, y10, y11, y12, y13, y14, y15].getD i 0) W (List.range 16) (fun i hi => by
    have : i < 16 := List.mem_range.1 hi
    have : i = 0 ∨ i = 1 ∨ i = 2 ∨ i = 3 ∨ i = 4 ∨ i = 5 ∨ i = 6 ∨ i = 7 ∨ i = 8 ∨ i = 9 ∨ i = 10 ∨ i = 11 ∨ i = 12 ∨ i = 13 ∨ i = 14 ∨ i = 15 := by omega
    rcases this with rfl | rfl | rfl | rfl | rfl | rfl | rfl | rfl | rfl | rfl | rfl | rfl | rfl | rfl | rfl | rfl <;> exact ⟨rfl, rfl⟩)
  obtain ⟨ii, hii⟩ := info_of_underlying Tryd.underlying5
  have h2 := run_equalIn_array (P := Tryd.prog) W 9999 #[.int .u8 x0, .int .u8 x1, .int .u8 x2, .int .u8 x3, .int .u8 x4, .int .u8 x5, .int .u8 x6, .int .u8 x7, .int .u8 x8, .int .u8 x9, .int .u8 x10, .int .u8 x11, .int .u8 x12, .int .u8 x13, .int .u8 x14, .int .u8 x15] #[.int .u8 y0, .int .u8 y1, .int .u8 y2, .int .u8 y3, .int .u8 y4, .int .u8 y5, .int .u8 y6, .int .u8 y7, .int .u8 y8, .int .u8 y9, .int .u8 y10, .int .u8 y11, .int .u8 y12, .int .u8 y13, .int .u8 y14, .int .u8 y15] (t := 37) (e := 5) (n := 16) Tryd.underlying37 hii
  rw [show Tryd.prog.cellsOf 5 = 1 by kernel_rfl, h1] at h2
  rw [run_eql_struct, h2]
  have h4 : decide (∀ i ∈ List.range 16, [x0, x1, x2, x3, x4, x5, x6, x7, x8, x9, x10, x11, x12, x13, x14, x15].getD i 0 = [y0, y1, y2, y3, y4, y5, y6, y7, y8, y9, y10, y11, y12, y13, y14, y15].getD i 0) = decide (x0 = y0 ∧ x1 = y1 ∧ x2 = y2 ∧ x3 = y3 ∧ x4 = y4 ∧ x5 = y5 ∧ x6 = y6 ∧ x7 = y7 ∧ x8 = y8 ∧ x9 = y9 ∧ x10 = y10 ∧ x11 = y11 ∧ x12 = y12 ∧ x13 = y13 ∧ x14 = y14 ∧ x15 = y15) := decide_eq_decide.mpr ⟨fun h => ⟨h 0 (by decide), h 1 (by decide), h 2 (by decide), h 3 (by decide), h 4 (by decide), h 5 (by decide), h 6 (by decide), h 7 (by decide), h 8 (by decide), h 9 (by decide), h 10 (by decide), h 11 (by decide), h 12 (by decide), h 13 (by decide), h 14 (by decide), h 15 (by decide)⟩, fun h i hi => by
    obtain ⟨h0, h1, h2, h3, h4, h5, h6, h7, h8, h9, h10, h11, h12, h13, h14, h15⟩ := h
    have : i < 16 := List.mem_range.1 hi
    have : i = 0 ∨ i = 1 ∨ i = 2 ∨ i = 3 ∨ i = 4 ∨ i = 5 ∨ i = 6 ∨ i = 7 ∨ i = 8 ∨ i = 9 ∨ i = 10 ∨ i = 11 ∨ i = 12 ∨ i = 13 ∨ i = 14 ∨ i = 15 := by omega
    rcases this with rfl | rfl | rfl | rfl | rfl | rfl | rfl | rfl | rfl | rfl | rfl | rfl | rfl | rfl | rfl | rfl <;> assumption⟩
  rw [h4]
  rfl

theorem bytes_same {a b : Nat} (ha : a < 18446744073709551616) (hb : b < 18446744073709551616) (h : (a : Int) % 256 = (b : Int) % 256 ∧ (a : Int) / 256 % 256 = (b : Int) / 256 % 256 ∧ (a : Int) / 65536 % 256 = (b : Int) / 65536 % 256 ∧ (a : Int) / 16777216 % 256 = (b : Int) / 16777216 % 256 ∧ (a : Int) / 4294967296 % 256 = (b : Int) / 4294967296 % 256 ∧ (a : Int) / 1099511627776 % 256 = (b : Int) / 1099511627776 % 256 ∧ (a : Int) / 281474976710656 % 256 = (b : Int) / 281474976710656 % 256 ∧ (a : Int) / 72057594037927936 % 256 = (b : Int) / 72057594037927936 % 256) : a = b := by omega
theorem bytes_split (A : Nat) : ∀ k : Nat, ((A : Int) / (k : Int) % 256) = ((A / k % 256 : Nat) : Int) := fun k => by omega
end Go.Proofs.YtpdadlbdloeijaaDoor
