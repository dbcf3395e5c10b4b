/-
  What the small functions of memory answer: whether a number may have so many bytes, how many frames there are, and where the page of an address is.
-/
import Derived.Test.YtnookalplejneaaDoorRamMath
import Derived.Test.YtnookalplejneaaDoorTag3
namespace Go.Proofs.YtnookalplejneaaDoor
open Go.RowKit Words

theorem size_yes (n : Int) (h : n = 1 ∨ n = 2 ∨ n = 4 ∨ n = 8) (w : World) : Calls Tryd.prog 41 #[.int .i64 n] w (Quiet (.bool true) w) := by
  rcases h with rfl | rfl | rfl | rfl
  all_goals
    go_enter Tryd.func41, Tryd.ntmps41
    go_wp2
    go_ret
    exact ⟨rfl, 0, rfl⟩

set_option maxHeartbeats 400000 in
theorem frames_any (R N : Nat) (w : World) (h : w.cell? ⟨R, 0, none⟩ = some (.slice (some ⟨N, 0, none⟩) 2 2)) : Calls Tryd.prog 50 #[.pointer (some ⟨R, 0, none⟩)] w (Quiet (.int .i64 2) w) := by
  go_enter Tryd.func50, Tryd.ntmps50
  go_wp2
  go_ret
  exact ⟨rfl, 0, rfl⟩

set_option maxHeartbeats 1000000 in
theorem find_1 (R N p : Nat) (A O : Int) (hp : p < 2) (_h0 : 0 ≤ A) (_h1 : (p : Int) < 2) (_h2 : 0 ≤ (p : Int)) (_hA : A / 4096 = (p : Int)) (_hO : A % 4096 = O) (_hw : RowKit.wrap64 O = O) (_hn : A % 1 = 0) (w : World) (h : w.cell? ⟨R, 0, none⟩ = some (.slice (some ⟨N, 0, none⟩) 2 2)) : Calls Tryd.prog 40 #[.pointer (some ⟨R, 0, none⟩), .int .u64 A, .int .i64 1, .bool true] w (Quiet (.tuple #[.pointer (some ⟨N, p * 4100, none⟩), .int .i64 O, .int .i64 0]) w) := by
  have C1 := hide (frames_any R N)
  go_enter Tryd.func40, Tryd.ntmps40
  go_wp2_with (first | (go_at_call 50; (with_reducible refine (C1.out _ ?_).mono ?_); (focus (repeat (first | with_reducible assumption | with_reducible refine c_dr _ ?_ | with_reducible refine c_d1 ?_ | with_reducible refine c_al _ ?_ | (with_reducible refine c_set ?_ ?_; focus (dsimp only; omega)) | (with_reducible apply c_be; with_reducible assumption)))); rintro e w' ⟨rfl, n1, rfl⟩))
  refine bodyPost_ret (v := .tuple #[.pointer (some ⟨N, p * 4100, none⟩), .int .i64 O, .int .i64 0]) (by simp (maxDischargeDepth := 4) [results, Tryd.results40, go_sem, *]) rfl ?_
  exact ⟨rfl, _, rfl⟩

set_option maxHeartbeats 1000000 in
theorem find_2 (R N p : Nat) (A O : Int) (hp : p < 2) (_h0 : 0 ≤ A) (_h1 : (p : Int) < 2) (_h2 : 0 ≤ (p : Int)) (_hA : A / 4096 = (p : Int)) (_hO : A % 4096 = O) (_hw : RowKit.wrap64 O = O) (_hn : A % 2 = 0) (w : World) (h : w.cell? ⟨R, 0, none⟩ = some (.slice (some ⟨N, 0, none⟩) 2 2)) : Calls Tryd.prog 40 #[.pointer (some ⟨R, 0, none⟩), .int .u64 A, .int .i64 2, .bool true] w (Quiet (.tuple #[.pointer (some ⟨N, p * 4100, none⟩), .int .i64 O, .int .i64 0]) w) := by
  have C1 := hide (frames_any R N)
  go_enter Tryd.func40, Tryd.ntmps40
  go_wp2_with (first | (go_at_call 50; (with_reducible refine (C1.out _ ?_).mono ?_); (focus (repeat (first | with_reducible assumption | with_reducible refine c_dr _ ?_ | with_reducible refine c_d1 ?_ | with_reducible refine c_al _ ?_ | (with_reducible refine c_set ?_ ?_; focus (dsimp only; omega)) | (with_reducible apply c_be; with_reducible assumption)))); rintro e w' ⟨rfl, n1, rfl⟩))
  refine bodyPost_ret (v := .tuple #[.pointer (some ⟨N, p * 4100, none⟩), .int .i64 O, .int .i64 0]) (by simp (maxDischargeDepth := 4) [results, Tryd.results40, go_sem, *]) rfl ?_
  exact ⟨rfl, _, rfl⟩

set_option maxHeartbeats 1000000 in
theorem find_4 (R N p : Nat) (A O : Int) (hp : p < 2) (_h0 : 0 ≤ A) (_h1 : (p : Int) < 2) (_h2 : 0 ≤ (p : Int)) (_hA : A / 4096 = (p : Int)) (_hO : A % 4096 = O) (_hw : RowKit.wrap64 O = O) (_hn : A % 4 = 0) (w : World) (h : w.cell? ⟨R, 0, none⟩ = some (.slice (some ⟨N, 0, none⟩) 2 2)) : Calls Tryd.prog 40 #[.pointer (some ⟨R, 0, none⟩), .int .u64 A, .int .i64 4, .bool true] w (Quiet (.tuple #[.pointer (some ⟨N, p * 4100, none⟩), .int .i64 O, .int .i64 0]) w) := by
  have C1 := hide (frames_any R N)
  go_enter Tryd.func40, Tryd.ntmps40
  go_wp2_with (first | (go_at_call 50; (with_reducible refine (C1.out _ ?_).mono ?_); (focus (repeat (first | with_reducible assumption | with_reducible refine c_dr _ ?_ | with_reducible refine c_d1 ?_ | with_reducible refine c_al _ ?_ | (with_reducible refine c_set ?_ ?_; focus (dsimp only; omega)) | (with_reducible apply c_be; with_reducible assumption)))); rintro e w' ⟨rfl, n1, rfl⟩))
  refine bodyPost_ret (v := .tuple #[.pointer (some ⟨N, p * 4100, none⟩), .int .i64 O, .int .i64 0]) (by simp (maxDischargeDepth := 4) [results, Tryd.results40, go_sem, *]) rfl ?_
  exact ⟨rfl, _, rfl⟩

set_option maxHeartbeats 1000000 in
theorem find_8 (R N p : Nat) (A O : Int) (hp : p < 2) (_h0 : 0 ≤ A) (_h1 : (p : Int) < 2) (_h2 : 0 ≤ (p : Int)) (_hA : A / 4096 = (p : Int)) (_hO : A % 4096 = O) (_hw : RowKit.wrap64 O = O) (_hn : A % 8 = 0) (w : World) (h : w.cell? ⟨R, 0, none⟩ = some (.slice (some ⟨N, 0, none⟩) 2 2)) : Calls Tryd.prog 40 #[.pointer (some ⟨R, 0, none⟩), .int .u64 A, .int .i64 8, .bool true] w (Quiet (.tuple #[.pointer (some ⟨N, p * 4100, none⟩), .int .i64 O, .int .i64 0]) w) := by
  have C1 := hide (frames_any R N)
  go_enter Tryd.func40, Tryd.ntmps40
  go_wp2_with (first | (go_at_call 50; (with_reducible refine (C1.out _ ?_).mono ?_); (focus (repeat (first | with_reducible assumption | with_reducible refine c_dr _ ?_ | with_reducible refine c_d1 ?_ | with_reducible refine c_al _ ?_ | (with_reducible refine c_set ?_ ?_; focus (dsimp only; omega)) | (with_reducible apply c_be; with_reducible assumption)))); rintro e w' ⟨rfl, n1, rfl⟩))
  refine bodyPost_ret (v := .tuple #[.pointer (some ⟨N, p * 4100, none⟩), .int .i64 O, .int .i64 0]) (by simp (maxDischargeDepth := 4) [results, Tryd.results40, go_sem, *]) rfl ?_
  exact ⟨rfl, _, rfl⟩

set_option maxHeartbeats 1000000 in
theorem find_16 (R N p : Nat) (A O : Int) (hp : p < 2) (_h0 : 0 ≤ A) (_h1 : (p : Int) < 2) (_h2 : 0 ≤ (p : Int)) (_hA : A / 4096 = (p : Int)) (_hO : A % 4096 = O) (_hw : RowKit.wrap64 O = O) (_hn : A % 16 = 0) (w : World) (h : w.cell? ⟨R, 0, none⟩ = some (.slice (some ⟨N, 0, none⟩) 2 2)) : Calls Tryd.prog 40 #[.pointer (some ⟨R, 0, none⟩), .int .u64 A, .int .i64 16, .bool true] w (Quiet (.tuple #[.pointer (some ⟨N, p * 4100, none⟩), .int .i64 O, .int .i64 0]) w) := by
  have C1 := hide (frames_any R N)
  go_enter Tryd.func40, Tryd.ntmps40
  go_wp2_with (first | (go_at_call 50; (with_reducible refine (C1.out _ ?_).mono ?_); (focus (repeat (first | with_reducible assumption | with_reducible refine c_dr _ ?_ | with_reducible refine c_d1 ?_ | with_reducible refine c_al _ ?_ | (with_reducible refine c_set ?_ ?_; focus (dsimp only; omega)) | (with_reducible apply c_be; with_reducible assumption)))); rintro e w' ⟨rfl, n1, rfl⟩))
  refine bodyPost_ret (v := .tuple #[.pointer (some ⟨N, p * 4100, none⟩), .int .i64 O, .int .i64 0]) (by simp (maxDischargeDepth := 4) [results, Tryd.results40, go_sem, *]) rfl ?_
  exact ⟨rfl, _, rfl⟩
end Go.Proofs.YtnookalplejneaaDoor
