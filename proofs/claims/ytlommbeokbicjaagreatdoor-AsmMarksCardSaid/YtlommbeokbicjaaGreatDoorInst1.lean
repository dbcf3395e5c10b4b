/-
  The tables of package inst (words, names) as a walk reads them; what known, Shape, fixed, numberOf, Name answer.
-/
import Derived.Test.YtlommbeokbicjaaGreatDoorInstMath2
import Derived.Test.YtlommbeokbicjaaGreatDoorKeep
import Derived.Laws.Strings
namespace Go.Proofs.YtlommbeokbicjaaGreatDoor
open Go.RowKit Words FieldMath InstMath

/-- The names' bytes. -/
def nmL : List (List UInt8) := [[], [108, 117, 105], [97, 117, 105, 112, 99], [106, 97, 108], [106, 97, 108, 114], [98, 101, 113], [98, 110, 101], [98, 108, 116], [98, 103, 101], [98, 108, 116, 117], [98, 103, 101, 117], [108, 98], [108, 104], [108, 119], [108, 100], [108, 98, 117], [108, 104, 117], [108, 119, 117], [115, 98], [115, 104], [115, 119], [115, 100], [97, 100, 100, 105], [115, 108, 116, 105], [115, 108, 116, 105, 117], [120, 111, 114, 105], [111, 114, 105], [97, 110, 100, 105], [115, 108, 108, 105], [115, 114, 108, 105], [115, 114, 97, 105], [97, 100, 100], [115, 117, 98], [115, 108, 108], [115, 108, 116], [115, 108, 116, 117], [120, 111, 114], [115, 114, 108], [115, 114, 97], [111, 114], [97, 110, 100], [101, 99, 97, 108, 108], [101, 98, 114, 101, 97, 107], [99, 108, 99], [99, 115, 99], [99, 115, 101, 116, 98, 111, 117, 110, 100, 115], [99, 115, 101, 116, 98, 111, 117, 110, 100, 115, 101, 120, 97, 99, 116], [99, 115, 101, 97, 108], [99, 117, 110, 115, 101, 97, 108], [99, 97, 110, 100, 112, 101, 114, 109], [99, 115, 101, 116, 97, 100, 100, 114], [99, 105, 110, 99, 111, 102, 102, 115, 101, 116], [99, 115, 117, 98], [99, 98, 117, 105, 108, 100, 99, 97, 112], [99, 116, 101, 115, 116, 115, 117, 98, 115, 101, 116], [99, 115, 101, 116, 101, 113, 117, 97, 108], [99, 103, 101, 116, 112, 101, 114, 109], [99, 103, 101, 116, 116, 121, 112, 101], [99, 103, 101, 116, 98, 97, 115, 101], [99, 103, 101, 116, 108, 101, 110], [99, 103, 101, 116, 116, 97, 103], [99, 103, 101, 116, 111, 102, 102, 115, 101, 116], [99, 114, 114, 108], [99, 114, 97, 109], [99, 109, 111, 118, 101], [99, 99, 108, 101, 97, 114, 116, 97, 103], [99, 103, 101, 116, 97, 100, 100, 114], [99, 115, 101, 97, 108, 101, 110, 116, 114, 121], [99, 105, 110, 99, 111, 102, 102, 115, 101, 116, 105, 109, 109], [99, 115, 101, 116, 98, 111, 117, 110, 100, 115, 105, 109, 109]]
def nameB (k : Nat) : ByteArray := ⟨(nmL.getD k []).toArray⟩
/-- The words' cells. -/
def TabW (W : World) : Prop := ∀ k, k < 70 → W.cell? ⟨0, k, none⟩ = some (.int .u32 (wrd k : Int))
theorem TabW.pos {W : World} (h : TabW W) : 0 < W.heap.size := World.block_lt_of_cell? W _ (h 0 (by decide))
theorem TabW.behind {W W' : World} (h : TabW W) (hb : Below W.heap.size W W') : TabW W' := fun k hk => c_be hb (h k hk)
theorem TabW.drew {W : World} (h : TabW W) (n : Nat) : TabW (W.drewN n) := h
/-- The names' cells. -/
def TabN (W : World) : Prop := ∀ k, k < 70 → W.cell? ⟨1, k, none⟩ = some (.string (nameB k))
theorem TabN.behind {W W' : World} (h : TabN W) (hb : Below W.heap.size W W') : TabN W' := fun k hk => c_be hb (h k hk)

set_option maxHeartbeats 400000 in
theorem known_yes (k : Int) (h : 1 ≤ k ∧ k ≤ 69) (w : World) : Calls Tryz.prog 39 #[.int .i64 k] w (Quiet (.bool true) w) := by
  obtain ⟨h1, h2⟩ := h
  go_enter Tryz.func39, Tryz.ntmps39
  go_wp2
  go_ret
  exact ⟨rfl, 0, rfl⟩
set_option maxHeartbeats 400000 in
theorem known_no (k : Int) (h : ¬ (1 ≤ k ∧ k ≤ 69)) (w : World) : Calls Tryz.prog 39 #[.int .i64 k] w (Quiet (.bool false) w) := by
  by_cases h1 : 1 ≤ k
  · have h2 : 69 < k := by omega
    clear h
    go_enter Tryz.func39, Tryz.ntmps39
    go_wp2
    go_ret
    exact ⟨ret_bool (decide_eq_false (by omega)), 0, rfl⟩
  · have h2 : k < 1 := by omega
    clear h h1
    go_enter Tryz.func39, Tryz.ntmps39
    go_wp2
    go_ret
    exact ⟨rfl, 0, rfl⟩

set_option maxHeartbeats 400000 in
theorem shape_no (k : Int) (h : ¬ (1 ≤ k ∧ k ≤ 69)) (w : World) : Calls Tryz.prog 15 #[.int .i64 k] w (Quiet (.int .u8 0) w) := by
  have C : Hid (∀ W, Calls Tryz.prog 39 #[.int .i64 k] W (Quiet (.bool false) W)) := hide (fun W => known_no k h W)
  clear h
  go_enter Tryz.func15, Tryz.ntmps15
  go_wp2_with (go_at_call 39; (with_reducible refine (C.out _).mono ?_); rintro e w' ⟨rfl, n1, rfl⟩)
  go_ret
  exact ⟨rfl, _, rfl⟩
theorem shapes_at : ∀ (k : Nat) (h : k < 70), ((⟨#[45, 85, 85, 74, 73, 66, 66, 66, 66, 66, 66, 73, 73, 73, 73, 73, 73, 73, 83, 83, 83, 83, 73, 73, 73, 73, 73, 73, 72, 72, 72, 82, 82, 82, 82, 82, 82, 82, 82, 82, 82, 78, 78, 73, 83, 82, 82, 82, 82, 82, 82, 82, 82, 82, 82, 82, 71, 71, 71, 71, 71, 71, 71, 71, 71, 71, 71, 71, 73, 67]⟩ : ByteArray)[k]'h).toNat = shp k := by decide +kernel
set_option maxHeartbeats 400000 in
theorem shape_yes (k : Nat) (h : 1 ≤ k ∧ k ≤ 69) (w : World) : Calls Tryz.prog 15 #[.int .i64 (k : Int)] w (Quiet (.int .u8 (shp k : Int)) w) := by
  have C : Hid (∀ W, Calls Tryz.prog 39 #[.int .i64 (k : Int)] W (Quiet (.bool true) W)) := hide (fun W => known_yes k (by omega) W)
  go_enter Tryz.func15, Tryz.ntmps15
  go_wp2_with (go_at_call 39; (with_reducible refine (C.out _).mono ?_); rintro e w' ⟨rfl, n1, rfl⟩)
  go_ret
  exact ⟨ret_int (congrArg Int.ofNat (shapes_at k (by omega))), _, rfl⟩

set_option maxHeartbeats 400000 in
theorem name_yes (k : Nat) (h : 1 ≤ k ∧ k ≤ 69) (w : World) (hT : TabN w) : Calls Tryz.prog 46 #[.int .i64 (k : Int)] w (Quiet (.string (nameB k)) w) := by
  have C : Hid (∀ W, Calls Tryz.prog 39 #[.int .i64 (k : Int)] W (Quiet (.bool true) W)) := hide (fun W => known_yes k (by omega) W)
  have hc := hT k (by omega)
  clear hT
  generalize nameB k = S at *
  go_enter Tryz.func46, Tryz.ntmps46
  go_wp2_with (go_at_call 39; (with_reducible refine (C.out _).mono ?_); rintro e w' ⟨rfl, n1, rfl⟩)
  go_ret
  exact ⟨rfl, _, rfl⟩
set_option maxHeartbeats 400000 in
theorem name_no (k : Int) (h : ¬ (1 ≤ k ∧ k ≤ 69)) (w : World) : Calls Tryz.prog 46 #[.int .i64 k] w (Quiet (.string (nameB 0)) w) := by
  have C : Hid (∀ W, Calls Tryz.prog 39 #[.int .i64 k] W (Quiet (.bool false) W)) := hide (fun W => known_no k h W)
  clear h
  go_enter Tryz.func46, Tryz.ntmps46
  go_wp2_with (go_at_call 39; (with_reducible refine (C.out _).mono ?_); rintro e w' ⟨rfl, n1, rfl⟩)
  go_ret
  exact ⟨rfl, _, rfl⟩

theorem nm_one : ∀ j, j < 70 → ∀ k, k < 70 → j ≠ k → nmL.getD j [] ≠ nmL.getD k [] := by decide +kernel
theorem name_ne {j k : Nat} (hj : j < 70) (hk : k < 70) (h : j ≠ k) : ¬ (nameB j).toList = (nameB k).toList := fun e => nm_one j hj k hk h (by
  rw [ByteArray.toList_eq, ByteArray.toList_eq] at e
  simpa [nameB] using e)
set_option maxHeartbeats 1000000 in
theorem find_any (k : Nat) (hk : k < 70) (w : World) (hT : TabN w) : Calls Tryz.prog 50 #[.string (nameB k)] w (Quiet (.int .i64 (k : Int)) w) := by
  have HT := hide hT
  clear hT
  go_enter Tryz.func50, Tryz.ntmps50
  go_wp2
  go_loopw [3] (fun i wr => ∃ j n : Nat, wr = w.drewN n ∧ i = .int .i64 (j : Int) ∧ 1 ≤ j ∧ j ≤ 70 ∧ (1 ≤ k → j ≤ k)) (fun i _ => 70 - (intOf i).toNat)
  case atStart => exact ⟨1, 0, rfl, rfl, by omega, by omega, fun h => h⟩
  case round =>
    obtain ⟨j, n, rfl, rfl, hj, hj2, hle⟩ := hrel
    by_cases h : j < 70
    · have hc := HT.out j h
      by_cases he : j = k
      · subst he
        have hs : ((nameB j).toList == (nameB j).toList) = true := by simp
        generalize nameB j = S at *
        go_wp2
        go_ret
        exact ⟨rfl, _, rfl⟩
      · have hs : ((nameB j).toList == (nameB k).toList) = false := by simpa using name_ne h hk he
        generalize nameB j = S at *
        generalize nameB k = S2 at *
        go_wp2
        go_roundw
        case rel => exact ⟨j + 1, n, rfl, by go_num, by omega, by omega, fun h => by have := hle h; omega⟩
        case measure => simp [intOf]; omega
    · obtain rfl : j = 70 := by omega
      obtain rfl : k = 0 := by omega
      go_wp2
      go_ret
      exact ⟨rfl, _, rfl⟩

/-! switches on a shape's letter -/
set_option maxHeartbeats 400000 in
theorem fixed_R (w : World) : Calls Tryz.prog 37 #[.int .u8 82] w (Quiet (.int .u32 4261441663) w) := by
  go_enter Tryz.func37, Tryz.ntmps37
  go_wp2
  go_ret
  exact ⟨rfl, 0, rfl⟩
set_option maxHeartbeats 400000 in
theorem fixed_G (w : World) : Calls Tryz.prog 37 #[.int .u8 71] w (Quiet (.int .u32 4293947519) w) := by
  go_enter Tryz.func37, Tryz.ntmps37
  go_wp2
  go_ret
  exact ⟨rfl, 0, rfl⟩
set_option maxHeartbeats 400000 in
theorem fixed_H (w : World) : Calls Tryz.prog 37 #[.int .u8 72] w (Quiet (.int .u32 4227887231) w) := by
  go_enter Tryz.func37, Tryz.ntmps37
  go_wp2
  go_ret
  exact ⟨rfl, 0, rfl⟩
set_option maxHeartbeats 400000 in
theorem fixed_I (w : World) : Calls Tryz.prog 37 #[.int .u8 73] w (Quiet (.int .u32 28799) w) := by
  go_enter Tryz.func37, Tryz.ntmps37
  go_wp2
  go_ret
  exact ⟨rfl, 0, rfl⟩
set_option maxHeartbeats 400000 in
theorem fixed_C (w : World) : Calls Tryz.prog 37 #[.int .u8 67] w (Quiet (.int .u32 28799) w) := by
  go_enter Tryz.func37, Tryz.ntmps37
  go_wp2
  go_ret
  exact ⟨rfl, 0, rfl⟩
set_option maxHeartbeats 400000 in
theorem fixed_S (w : World) : Calls Tryz.prog 37 #[.int .u8 83] w (Quiet (.int .u32 28799) w) := by
  go_enter Tryz.func37, Tryz.ntmps37
  go_wp2
  go_ret
  exact ⟨rfl, 0, rfl⟩
set_option maxHeartbeats 400000 in
theorem fixed_B (w : World) : Calls Tryz.prog 37 #[.int .u8 66] w (Quiet (.int .u32 28799) w) := by
  go_enter Tryz.func37, Tryz.ntmps37
  go_wp2
  go_ret
  exact ⟨rfl, 0, rfl⟩
set_option maxHeartbeats 400000 in
theorem fixed_U (w : World) : Calls Tryz.prog 37 #[.int .u8 85] w (Quiet (.int .u32 127) w) := by
  go_enter Tryz.func37, Tryz.ntmps37
  go_wp2
  go_ret
  exact ⟨rfl, 0, rfl⟩
set_option maxHeartbeats 400000 in
theorem fixed_J (w : World) : Calls Tryz.prog 37 #[.int .u8 74] w (Quiet (.int .u32 127) w) := by
  go_enter Tryz.func37, Tryz.ntmps37
  go_wp2
  go_ret
  exact ⟨rfl, 0, rfl⟩
set_option maxHeartbeats 400000 in
theorem fixed_N (w : World) : Calls Tryz.prog 37 #[.int .u8 78] w (Quiet (.int .u32 4294967295) w) := by
  go_enter Tryz.func37, Tryz.ntmps37
  go_wp2
  go_ret
  exact ⟨rfl, 0, rfl⟩
theorem fixed_any (s : Nat) (hs : IsShape s) (w : World) : Calls Tryz.prog 37 #[.int .u8 (s : Int)] w (Quiet (.int .u32 (fixN s : Int)) w) :=
  each_shape (P := fun s => Calls Tryz.prog 37 #[.int .u8 (s : Int)] w (Quiet (.int .u32 (fixN s : Int)) w)) ⟨fixed_R w, fixed_G w, fixed_I w, fixed_C w, fixed_H w, fixed_S w, fixed_B w, fixed_U w, fixed_J w, fixed_N w⟩ hs
set_option maxHeartbeats 400000 in
theorem num_R (w : World) : Calls Tryz.prog 41 #[.int .u8 82] w (Makes (.agg #[.int .i64 12, .bool true, .int .i64 1]) w) := by
  go_enter Tryz.func41, Tryz.ntmps41
  go_wp2
  refine bodyPost_ret (v := .agg #[.int .i64 12, .bool true, .int .i64 1]) (by simp [results, Tryz.results41, go_sem, *]) rfl ?_
  exact ⟨rfl, bw_alloc (Below.refl _ _) _⟩
set_option maxHeartbeats 400000 in
theorem num_G (w : World) : Calls Tryz.prog 41 #[.int .u8 71] w (Makes (.agg #[.int .i64 12, .bool true, .int .i64 1]) w) := by
  go_enter Tryz.func41, Tryz.ntmps41
  go_wp2
  refine bodyPost_ret (v := .agg #[.int .i64 12, .bool true, .int .i64 1]) (by simp [results, Tryz.results41, go_sem, *]) rfl ?_
  exact ⟨rfl, bw_alloc (Below.refl _ _) _⟩
set_option maxHeartbeats 400000 in
theorem num_I (w : World) : Calls Tryz.prog 41 #[.int .u8 73] w (Makes (.agg #[.int .i64 12, .bool true, .int .i64 1]) w) := by
  go_enter Tryz.func41, Tryz.ntmps41
  go_wp2
  refine bodyPost_ret (v := .agg #[.int .i64 12, .bool true, .int .i64 1]) (by simp [results, Tryz.results41, go_sem, *]) rfl ?_
  exact ⟨rfl, bw_alloc (Below.refl _ _) _⟩
set_option maxHeartbeats 400000 in
theorem num_C (w : World) : Calls Tryz.prog 41 #[.int .u8 67] w (Makes (.agg #[.int .i64 12, .bool false, .int .i64 1]) w) := by
  go_enter Tryz.func41, Tryz.ntmps41
  go_wp2
  refine bodyPost_ret (v := .agg #[.int .i64 12, .bool false, .int .i64 1]) (by simp [results, Tryz.results41, go_sem, *]) rfl ?_
  exact ⟨rfl, bw_alloc (Below.refl _ _) _⟩
set_option maxHeartbeats 400000 in
theorem num_H (w : World) : Calls Tryz.prog 41 #[.int .u8 72] w (Makes (.agg #[.int .i64 6, .bool false, .int .i64 1]) w) := by
  go_enter Tryz.func41, Tryz.ntmps41
  go_wp2
  refine bodyPost_ret (v := .agg #[.int .i64 6, .bool false, .int .i64 1]) (by simp [results, Tryz.results41, go_sem, *]) rfl ?_
  exact ⟨rfl, bw_alloc (Below.refl _ _) _⟩
set_option maxHeartbeats 400000 in
theorem num_S (w : World) : Calls Tryz.prog 41 #[.int .u8 83] w (Makes (.agg #[.int .i64 12, .bool true, .int .i64 1]) w) := by
  go_enter Tryz.func41, Tryz.ntmps41
  go_wp2
  refine bodyPost_ret (v := .agg #[.int .i64 12, .bool true, .int .i64 1]) (by simp [results, Tryz.results41, go_sem, *]) rfl ?_
  exact ⟨rfl, bw_alloc (Below.refl _ _) _⟩
set_option maxHeartbeats 400000 in
theorem num_B (w : World) : Calls Tryz.prog 41 #[.int .u8 66] w (Makes (.agg #[.int .i64 13, .bool true, .int .i64 2]) w) := by
  go_enter Tryz.func41, Tryz.ntmps41
  go_wp2
  refine bodyPost_ret (v := .agg #[.int .i64 13, .bool true, .int .i64 2]) (by simp [results, Tryz.results41, go_sem, *]) rfl ?_
  exact ⟨rfl, bw_alloc (Below.refl _ _) _⟩
set_option maxHeartbeats 400000 in
theorem num_U (w : World) : Calls Tryz.prog 41 #[.int .u8 85] w (Makes (.agg #[.int .i64 32, .bool true, .int .i64 4096]) w) := by
  go_enter Tryz.func41, Tryz.ntmps41
  go_wp2
  refine bodyPost_ret (v := .agg #[.int .i64 32, .bool true, .int .i64 4096]) (by simp [results, Tryz.results41, go_sem, *]) rfl ?_
  exact ⟨rfl, bw_alloc (Below.refl _ _) _⟩
set_option maxHeartbeats 400000 in
theorem num_J (w : World) : Calls Tryz.prog 41 #[.int .u8 74] w (Makes (.agg #[.int .i64 21, .bool true, .int .i64 2]) w) := by
  go_enter Tryz.func41, Tryz.ntmps41
  go_wp2
  refine bodyPost_ret (v := .agg #[.int .i64 21, .bool true, .int .i64 2]) (by simp [results, Tryz.results41, go_sem, *]) rfl ?_
  exact ⟨rfl, bw_alloc (Below.refl _ _) _⟩
set_option maxHeartbeats 400000 in
theorem num_N (w : World) : Calls Tryz.prog 41 #[.int .u8 78] w (Makes (.agg #[.int .i64 12, .bool true, .int .i64 1]) w) := by
  go_enter Tryz.func41, Tryz.ntmps41
  go_wp2
  refine bodyPost_ret (v := .agg #[.int .i64 12, .bool true, .int .i64 1]) (by simp [results, Tryz.results41, go_sem, *]) rfl ?_
  exact ⟨rfl, bw_alloc (Below.refl _ _) _⟩
theorem num_any (s : Nat) (hs : IsShape s) (w : World) : Calls Tryz.prog 41 #[.int .u8 (s : Int)] w (Makes (.agg #[.int .i64 (nW s : Int), .bool (nS s), .int .i64 (nK s : Int)]) w) :=
  each_shape (P := fun s => Calls Tryz.prog 41 #[.int .u8 (s : Int)] w (Makes (.agg #[.int .i64 (nW s : Int), .bool (nS s), .int .i64 (nK s : Int)]) w)) ⟨num_R w, num_G w, num_I w, num_C w, num_H w, num_S w, num_B w, num_U w, num_J w, num_N w⟩ hs
end Go.Proofs.YtlommbeokbicjaaGreatDoor
