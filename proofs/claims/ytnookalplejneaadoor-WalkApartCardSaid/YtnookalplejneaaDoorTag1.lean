/-
  What the small functions answer: whether a granule is there, its bit, how many bits of a word are 1, and when two sets are the same.
-/
import Derived.Test.YtnookalplejneaaDoorTagPop
import Derived.Test.YtnookalplejneaaDoorMore
import Derived.DeepKeys
import Derived.Deep.DeepCutAuto
import Derived.Deep.RegionHeld3
namespace Go.Proofs.YtnookalplejneaaDoor
open Go.RowKit Words

theorem behind_one {f : FuncId} {args : Array Value} {v : Value} {w0 : World} (c : ∀ W, Calls Tryd.prog f args W (Makes v W)) (y : Behind w0.heap.size w0) :
    Calls Tryd.prog f args y.world fun e w'' => e = .returned v ∧ ∃ z : Behind w0.heap.size w0, w'' = z.world := Behind.call c y
theorem quiet_made {f : FuncId} {args : Array Value} {v : Value} (c : ∀ W, Calls Tryd.prog f args W (Quiet v W)) : ∀ W, Calls Tryd.prog f args W (Makes v W) := fun W => (c W).mono fun _ _ h => quiet_makes h

set_option maxHeartbeats 400000 in
theorem gran_any (i : Int) (w : World) : Calls Tryd.prog 61 #[.int .i64 i] w (Quiet (.bool (granB i)) w) := by
  go_enter Tryd.func61, Tryd.ntmps61
  go_wp2
  all_goals
    go_ret
    exact ⟨ret_bool (by unfold granB; first | (simp [*]; done) | (simp [*]; omega)), 0, rfl⟩

theorem one_shl (r : Nat) : IntKind.u64.wrap (2 ^ r) = ((bitW r).toNat : Int) := by
  have h := shl_bv 1#64 r
  have h1 : ((1#64 : BitVec 64).toNat : Int) = 1 := rfl
  rw [h1, Int.one_mul] at h
  exact h

set_option maxHeartbeats 400000 in
theorem bit_any (i : Int) (r : Nat) (hr : i.tmod 64 = (r : Int)) (h64 : r < 64) (w : World) : Calls Tryd.prog 62 #[.int .i64 i] w (Quiet (.int .u64 ((bitW r).toNat : Int)) w) := by
  have h1 := one_shl r
  have h0 : 0 ≤ (r : Int) := by omega
  have h2 : (r : Int) < 64 := by omega
  generalize ((bitW r).toNat : Int) = Y at *
  rw [show (2 : Int) ^ r = 2 ^ (r : Int).toNat by simp] at h1
  clear h64
  generalize (r : Int) = R at *
  go_enter Tryd.func62, Tryd.ntmps62
  go_wp2
  go_ret
  exact ⟨ret_int rfl, 0, rfl⟩

theorem items_u64 {P : Program} (d : Nat) (e : TypeId) (hp : P.plainKey e = true) (he : P.underlying e = some (.int .u64)) (xs ys : Array Value) (X Y : Nat → Int) (w : World) :
    ∀ is : List Nat, (∀ i ∈ is, xs[i]? = some (.int .u64 (X i)) ∧ ys[i]? = some (.int .u64 (Y i))) → (Op.eqItems (d + 1) e 1 xs ys is).run P w = .ok (decide (∀ i ∈ is, X i = Y i)) w
  | [], _ => by simp [Op.eqItems]
  | i :: is, h => by
    obtain ⟨h1, h2⟩ := h i (by simp)
    have ih := items_u64 d e hp he xs ys X Y w is (fun j hj => h j (by simp [hj]))
    simp only [Op.eqItems, Sem.run_bind, Nat.mul_one, run_part_plain w hp h1, run_part_plain w hp h2, run_equalIn_int w d e .u64 .u64 _ _ he, Result.andThen_ok]
    by_cases hx : X i = Y i
    · rw [hx, show ((Y i == Y i) = true) from by simp]
      simp only [Bool.not_true, Bool.false_eq_true, if_false]
      rw [ih]
      congr 1
      exact decide_eq_decide.mpr (by simp [hx])
    · rw [show ((X i == Y i) = false) from by simp [hx]]
      simp only [Bool.not_false, if_true, Sem.run_pure]
      congr 1
      exact (decide_eq_false (fun hh => hx (hh i (by simp)))).symm

theorem eqi_arr (x0 x1 x2 x3 y0 y1 y2 y3 : Int) : ∀ W, (Op.equalIn 10000 107 (.agg #[.int .u64 x0, .int .u64 x1, .int .u64 x2, .int .u64 x3]) (.agg #[.int .u64 y0, .int .u64 y1, .int .u64 y2, .int .u64 y3])).run Tryd.prog W = .ok (decide (x0 = y0 ∧ x1 = y1 ∧ x2 = y2 ∧ x3 = y3)) W := by
  intro W
  have h1 := items_u64 (P := Tryd.prog) 9998 23 (by kernel_rfl) (by kernel_rfl) #[.int .u64 x0, .int .u64 x1, .int .u64 x2, .int .u64 x3] #[.int .u64 y0, .int .u64 y1, .int .u64 y2, .int .u64 y3] (fun i => [x0, x1, x2, x3].getD i 0) (fun i => [y0, y1, y2, y3].getD i 0) W (List.range 4) (fun i hi => by
    have : i < 4 := List.mem_range.1 hi
    have : i = 0 ∨ i = 1 ∨ i = 2 ∨ i = 3 := by omega
    rcases this with rfl | rfl | rfl | rfl <;> exact ⟨rfl, rfl⟩)
  obtain ⟨ii, hii⟩ := info_of_underlying Tryd.underlying23
  have h2 := run_equalIn_array (P := Tryd.prog) W 9999 #[.int .u64 x0, .int .u64 x1, .int .u64 x2, .int .u64 x3] #[.int .u64 y0, .int .u64 y1, .int .u64 y2, .int .u64 y3] (t := 107) (e := 23) (n := 4) Tryd.underlying107 hii
  rw [show Tryd.prog.cellsOf 23 = 1 by kernel_rfl, h1] at h2
  have h4 : decide (∀ i ∈ List.range 4, [x0, x1, x2, x3].getD i 0 = [y0, y1, y2, y3].getD i 0) = decide (x0 = y0 ∧ x1 = y1 ∧ x2 = y2 ∧ x3 = y3) := decide_eq_decide.mpr ⟨fun h => ⟨h 0 (by decide), h 1 (by decide), h 2 (by decide), h 3 (by decide)⟩, fun h i hi => by
    obtain ⟨h0, h1, h2, h3⟩ := h
    have : i < 4 := List.mem_range.1 hi
    have : i = 0 ∨ i = 1 ∨ i = 2 ∨ i = 3 := by omega
    rcases this with rfl | rfl | rfl | rfl <;> assumption⟩
  rw [h4] at h2
  exact h2
theorem eqi_set (s t : BitVec 256) : ∀ W, (Op.equalIn 10000 107 (.agg #[.int .u64 ((wd s 0).toNat : Int), .int .u64 ((wd s 1).toNat : Int), .int .u64 ((wd s 2).toNat : Int), .int .u64 ((wd s 3).toNat : Int)]) (.agg #[.int .u64 ((wd t 0).toNat : Int), .int .u64 ((wd t 1).toNat : Int), .int .u64 ((wd t 2).toNat : Int), .int .u64 ((wd t 3).toNat : Int)])).run Tryd.prog W = .ok (decide (s = t)) W := fun W => by
  rw [eqi_arr]
  congr 1
  exact decide_eq_decide.mpr (wd_eq_iff s t)
theorem eq_set (s t : BitVec 256) : ∀ W, (binOp .eql 107 (.agg #[.int .u64 ((wd s 0).toNat : Int), .int .u64 ((wd s 1).toNat : Int), .int .u64 ((wd s 2).toNat : Int), .int .u64 ((wd s 3).toNat : Int)]) (.agg #[.int .u64 ((wd t 0).toNat : Int), .int .u64 ((wd t 1).toNat : Int), .int .u64 ((wd t 2).toNat : Int), .int .u64 ((wd t 3).toNat : Int)])).run Tryd.prog W = .ok (.bool (decide (s = t))) W := fun W => by
  rw [run_eql_struct, eqi_set]
  rfl
theorem ne_set (s t : BitVec 256) : ∀ W, (binOp .neq 107 (.agg #[.int .u64 ((wd s 0).toNat : Int), .int .u64 ((wd s 1).toNat : Int), .int .u64 ((wd s 2).toNat : Int), .int .u64 ((wd s 3).toNat : Int)]) (.agg #[.int .u64 ((wd t 0).toNat : Int), .int .u64 ((wd t 1).toNat : Int), .int .u64 ((wd t 2).toNat : Int), .int .u64 ((wd t 3).toNat : Int)])).run Tryd.prog W = .ok (.bool (!decide (s = t))) W := fun W => by
  rw [run_neq_struct, eqi_set]
  rfl
end Go.Proofs.YtnookalplejneaaDoor
