/-
  Texts laid one behind the other: Inst1, Inst2, Inst3, Inst4, Inst5, Inst6, InstLaid.
  The tables of package inst (words, names) as a walk reads them; what known, Shape, fixed, numberOf, Name answer.
  What inst.parts answers (a slice of its own that lists a shape's parts), and inst.fits.
  What inst.fits answers.
  What inst.Encode answers.
  What inst.read answers.
  What inst.Decode answers.
  The listed variables hold the tables (words, names); an instruction handed in, cell by cell; and the door's own heap meets it.
-/
import Derived.Test.YtlommbeokbicjaaGreatDoorGIm
import Derived.Test.YtlommbeokbicjaaGreatDoorGBase
import Derived.Laws.Strings
import Derived.Test.YtlommbeokbicjaaGreatDoorGField
import Derived.Deep.DeepCutAuto
import Derived.Deep.CutBlock
import Derived.Test.YtlommbeokbicjaaGreatDoorTail
import Derived.Test.YtlommbeokbicjaaGreatDoorTie
import Derived.Test.YtlommbeokbicjaaGreatDoorCards
namespace Go.Proofs.YtlommbeokbicjaaGreatDoor
open Go.RowKit Words FieldMath InstMath

/-- The names' bytes. -/
def nmL : List (List UInt8) := [[], [108, 117, 105], [97, 117, 105, 112, 99], [106, 97, 108], [106, 97, 108, 114], [98, 101, 113], [98, 110, 101], [98, 108, 116], [98, 103, 101], [98, 108, 116, 117], [98, 103, 101, 117], [108, 98], [108, 104], [108, 119], [108, 100], [108, 98, 117], [108, 104, 117], [108, 119, 117], [115, 98], [115, 104], [115, 119], [115, 100], [97, 100, 100, 105], [115, 108, 116, 105], [115, 108, 116, 105, 117], [120, 111, 114, 105], [111, 114, 105], [97, 110, 100, 105], [115, 108, 108, 105], [115, 114, 108, 105], [115, 114, 97, 105], [97, 100, 100], [115, 117, 98], [115, 108, 108], [115, 108, 116], [115, 108, 116, 117], [120, 111, 114], [115, 114, 108], [115, 114, 97], [111, 114], [97, 110, 100], [101, 99, 97, 108, 108], [101, 98, 114, 101, 97, 107], [99, 108, 99], [99, 115, 99], [99, 115, 101, 116, 98, 111, 117, 110, 100, 115], [99, 115, 101, 116, 98, 111, 117, 110, 100, 115, 101, 120, 97, 99, 116], [99, 115, 101, 97, 108], [99, 117, 110, 115, 101, 97, 108], [99, 97, 110, 100, 112, 101, 114, 109], [99, 115, 101, 116, 97, 100, 100, 114], [99, 105, 110, 99, 111, 102, 102, 115, 101, 116], [99, 115, 117, 98], [99, 98, 117, 105, 108, 100, 99, 97, 112], [99, 116, 101, 115, 116, 115, 117, 98, 115, 101, 116], [99, 115, 101, 116, 101, 113, 117, 97, 108], [99, 103, 101, 116, 112, 101, 114, 109], [99, 103, 101, 116, 116, 121, 112, 101], [99, 103, 101, 116, 98, 97, 115, 101], [99, 103, 101, 116, 108, 101, 110], [99, 103, 101, 116, 116, 97, 103], [99, 103, 101, 116, 111, 102, 102, 115, 101, 116], [99, 114, 114, 108], [99, 114, 97, 109], [99, 109, 111, 118, 101], [99, 99, 108, 101, 97, 114, 116, 97, 103], [99, 103, 101, 116, 97, 100, 100, 114], [99, 115, 101, 97, 108, 101, 110, 116, 114, 121], [99, 105, 110, 99, 111, 102, 102, 115, 101, 116, 105, 109, 109], [99, 115, 101, 116, 98, 111, 117, 110, 100, 115, 105, 109, 109]]
def nameB (k : Nat) : ByteArray := ⟨(nmL.getD k []).toArray⟩
/-- The words' cells. -/
def TabW (W : World) : Prop := ∀ k, k < 70 → W.cell? ⟨0, k, none⟩ = some (.int .u32 (wrd k : Int))
theorem TabW.pos {W : World} (h : TabW W) : 0 < W.heap.size := World.block_lt_of_cell? W _ (h 0 (by decide))
theorem TabW.behind {W W' : World} (h : TabW W) (hb : Below W.heap.size W W') : TabW W' := fun k hk => c_be hb (h k hk)
theorem TabW.drew {W : World} (h : TabW W) (n : Nat) : TabW (W.drewN n) := h
/-- The names' cells. -/
def TabN (W : World) : Prop := ∀ k, k < 70 → W.cell? ⟨1, k, none⟩ = some (.string (nameB k))
theorem TabN.behind {W W' : World} (h : TabN W) (hb : Below W.heap.size W W') : TabN W' := fun k hk => c_be hb (h k hk)

set_option maxHeartbeats 400000 in
theorem known_yes (k : Int) (h : 1 ≤ k ∧ k ≤ 69) (w : World) : Calls Tryz.prog 39 #[.int .i64 k] w (Quiet (.bool true) w) := by
  obtain ⟨h1, h2⟩ := h
  go_enter Tryz.func39, Tryz.ntmps39
  go_wp2
  go_ret
  exact ⟨rfl, 0, rfl⟩
set_option maxHeartbeats 400000 in
theorem known_no (k : Int) (h : ¬ (1 ≤ k ∧ k ≤ 69)) (w : World) : Calls Tryz.prog 39 #[.int .i64 k] w (Quiet (.bool false) w) := by
  by_cases h1 : 1 ≤ k
  · have h2 : 69 < k := by omega
    clear h
    go_enter Tryz.func39, Tryz.ntmps39
    go_wp2
    go_ret
    exact ⟨ret_bool (decide_eq_false (by omega)), 0, rfl⟩
  · have h2 : k < 1 := by omega
    clear h h1
    go_enter Tryz.func39, Tryz.ntmps39
    go_wp2
    go_ret
    exact ⟨rfl, 0, rfl⟩

set_option maxHeartbeats 400000 in
theorem shape_no (k : Int) (h : ¬ (1 ≤ k ∧ k ≤ 69)) (w : World) : Calls Tryz.prog 15 #[.int .i64 k] w (Quiet (.int .u8 0) w) := by
  have C : Hid (∀ W, Calls Tryz.prog 39 #[.int .i64 k] W (Quiet (.bool false) W)) := hide (fun W => known_no k h W)
  clear h
  go_enter Tryz.func15, Tryz.ntmps15
  go_wp2_with (go_at_call 39; (with_reducible refine (C.out _).mono ?_); rintro e w' ⟨rfl, n1, rfl⟩)
  go_ret
  exact ⟨rfl, _, rfl⟩
theorem shapes_at : ∀ (k : Nat) (h : k < 70), ((⟨#[45, 85, 85, 74, 73, 66, 66, 66, 66, 66, 66, 73, 73, 73, 73, 73, 73, 73, 83, 83, 83, 83, 73, 73, 73, 73, 73, 73, 72, 72, 72, 82, 82, 82, 82, 82, 82, 82, 82, 82, 82, 78, 78, 73, 83, 82, 82, 82, 82, 82, 82, 82, 82, 82, 82, 82, 71, 71, 71, 71, 71, 71, 71, 71, 71, 71, 71, 71, 73, 67]⟩ : ByteArray)[k]'h).toNat = shp k := by decide +kernel
set_option maxHeartbeats 400000 in
theorem shape_yes (k : Nat) (h : 1 ≤ k ∧ k ≤ 69) (w : World) : Calls Tryz.prog 15 #[.int .i64 (k : Int)] w (Quiet (.int .u8 (shp k : Int)) w) := by
  have C : Hid (∀ W, Calls Tryz.prog 39 #[.int .i64 (k : Int)] W (Quiet (.bool true) W)) := hide (fun W => known_yes k (by omega) W)
  go_enter Tryz.func15, Tryz.ntmps15
  go_wp2_with (go_at_call 39; (with_reducible refine (C.out _).mono ?_); rintro e w' ⟨rfl, n1, rfl⟩)
  go_ret
  exact ⟨ret_int (congrArg Int.ofNat (shapes_at k (by omega))), _, rfl⟩

set_option maxHeartbeats 400000 in
theorem name_yes (k : Nat) (h : 1 ≤ k ∧ k ≤ 69) (w : World) (hT : TabN w) : Calls Tryz.prog 46 #[.int .i64 (k : Int)] w (Quiet (.string (nameB k)) w) := by
  have C : Hid (∀ W, Calls Tryz.prog 39 #[.int .i64 (k : Int)] W (Quiet (.bool true) W)) := hide (fun W => known_yes k (by omega) W)
  have hc := hT k (by omega)
  clear hT
  generalize nameB k = S at *
  go_enter Tryz.func46, Tryz.ntmps46
  go_wp2_with (go_at_call 39; (with_reducible refine (C.out _).mono ?_); rintro e w' ⟨rfl, n1, rfl⟩)
  go_ret
  exact ⟨rfl, _, rfl⟩
set_option maxHeartbeats 400000 in
theorem name_no (k : Int) (h : ¬ (1 ≤ k ∧ k ≤ 69)) (w : World) : Calls Tryz.prog 46 #[.int .i64 k] w (Quiet (.string (nameB 0)) w) := by
  have C : Hid (∀ W, Calls Tryz.prog 39 #[.int .i64 k] W (Quiet (.bool false) W)) := hide (fun W => known_no k h W)
  clear h
  go_enter Tryz.func46, Tryz.ntmps46
  go_wp2_with (go_at_call 39; (with_reducible refine (C.out _).mono ?_); rintro e w' ⟨rfl, n1, rfl⟩)
  go_ret
  exact ⟨rfl, _, rfl⟩

theorem nm_one : ∀ j, j < 70 → ∀ k, k < 70 → j ≠ k → nmL.getD j [] ≠ nmL.getD k [] := by decide +kernel
theorem name_ne {j k : Nat} (hj : j < 70) (hk : k < 70) (h : j ≠ k) : ¬ (nameB j).toList = (nameB k).toList := fun e => nm_one j hj k hk h (by
  rw [ByteArray.toList_eq, ByteArray.toList_eq] at e
  simpa [nameB] using e)
set_option maxHeartbeats 1000000 in
theorem find_any (k : Nat) (hk : k < 70) (w : World) (hT : TabN w) : Calls Tryz.prog 50 #[.string (nameB k)] w (Quiet (.int .i64 (k : Int)) w) := by
  have HT := hide hT
  clear hT
  go_enter Tryz.func50, Tryz.ntmps50
  go_wp2
  go_loopw [3] (fun i wr => ∃ j n : Nat, wr = w.drewN n ∧ i = .int .i64 (j : Int) ∧ 1 ≤ j ∧ j ≤ 70 ∧ (1 ≤ k → j ≤ k)) (fun i _ => 70 - (intOf i).toNat)
  case atStart => exact ⟨1, 0, rfl, rfl, by omega, by omega, fun h => h⟩
  case round =>
    obtain ⟨j, n, rfl, rfl, hj, hj2, hle⟩ := hrel
    by_cases h : j < 70
    · have hc := HT.out j h
      by_cases he : j = k
      · subst he
        have hs : ((nameB j).toList == (nameB j).toList) = true := by simp
        generalize nameB j = S at *
        go_wp2
        go_ret
        exact ⟨rfl, _, rfl⟩
      · have hs : ((nameB j).toList == (nameB k).toList) = false := by simpa using name_ne h hk he
        generalize nameB j = S at *
        generalize nameB k = S2 at *
        go_wp2
        go_roundw
        case rel => exact ⟨j + 1, n, rfl, by go_num, by omega, by omega, fun h => by have := hle h; omega⟩
        case measure => simp [intOf]; omega
    · obtain rfl : j = 70 := by omega
      obtain rfl : k = 0 := by omega
      go_wp2
      go_ret
      exact ⟨rfl, _, rfl⟩

/-! switches on a shape's letter -/
set_option maxHeartbeats 400000 in
theorem fixed_R (w : World) : Calls Tryz.prog 37 #[.int .u8 82] w (Quiet (.int .u32 4261441663) w) := by
  go_enter Tryz.func37, Tryz.ntmps37
  go_wp2
  go_ret
  exact ⟨rfl, 0, rfl⟩
set_option maxHeartbeats 400000 in
theorem fixed_G (w : World) : Calls Tryz.prog 37 #[.int .u8 71] w (Quiet (.int .u32 4293947519) w) := by
  go_enter Tryz.func37, Tryz.ntmps37
  go_wp2
  go_ret
  exact ⟨rfl, 0, rfl⟩
set_option maxHeartbeats 400000 in
theorem fixed_H (w : World) : Calls Tryz.prog 37 #[.int .u8 72] w (Quiet (.int .u32 4227887231) w) := by
  go_enter Tryz.func37, Tryz.ntmps37
  go_wp2
  go_ret
  exact ⟨rfl, 0, rfl⟩
set_option maxHeartbeats 400000 in
theorem fixed_I (w : World) : Calls Tryz.prog 37 #[.int .u8 73] w (Quiet (.int .u32 28799) w) := by
  go_enter Tryz.func37, Tryz.ntmps37
  go_wp2
  go_ret
  exact ⟨rfl, 0, rfl⟩
set_option maxHeartbeats 400000 in
theorem fixed_C (w : World) : Calls Tryz.prog 37 #[.int .u8 67] w (Quiet (.int .u32 28799) w) := by
  go_enter Tryz.func37, Tryz.ntmps37
  go_wp2
  go_ret
  exact ⟨rfl, 0, rfl⟩
set_option maxHeartbeats 400000 in
theorem fixed_S (w : World) : Calls Tryz.prog 37 #[.int .u8 83] w (Quiet (.int .u32 28799) w) := by
  go_enter Tryz.func37, Tryz.ntmps37
  go_wp2
  go_ret
  exact ⟨rfl, 0, rfl⟩
set_option maxHeartbeats 400000 in
theorem fixed_B (w : World) : Calls Tryz.prog 37 #[.int .u8 66] w (Quiet (.int .u32 28799) w) := by
  go_enter Tryz.func37, Tryz.ntmps37
  go_wp2
  go_ret
  exact ⟨rfl, 0, rfl⟩
set_option maxHeartbeats 400000 in
theorem fixed_U (w : World) : Calls Tryz.prog 37 #[.int .u8 85] w (Quiet (.int .u32 127) w) := by
  go_enter Tryz.func37, Tryz.ntmps37
  go_wp2
  go_ret
  exact ⟨rfl, 0, rfl⟩
set_option maxHeartbeats 400000 in
theorem fixed_J (w : World) : Calls Tryz.prog 37 #[.int .u8 74] w (Quiet (.int .u32 127) w) := by
  go_enter Tryz.func37, Tryz.ntmps37
  go_wp2
  go_ret
  exact ⟨rfl, 0, rfl⟩
set_option maxHeartbeats 400000 in
theorem fixed_N (w : World) : Calls Tryz.prog 37 #[.int .u8 78] w (Quiet (.int .u32 4294967295) w) := by
  go_enter Tryz.func37, Tryz.ntmps37
  go_wp2
  go_ret
  exact ⟨rfl, 0, rfl⟩
theorem fixed_any (s : Nat) (hs : IsShape s) (w : World) : Calls Tryz.prog 37 #[.int .u8 (s : Int)] w (Quiet (.int .u32 (fixN s : Int)) w) :=
  each_shape (P := fun s => Calls Tryz.prog 37 #[.int .u8 (s : Int)] w (Quiet (.int .u32 (fixN s : Int)) w)) ⟨fixed_R w, fixed_G w, fixed_I w, fixed_C w, fixed_H w, fixed_S w, fixed_B w, fixed_U w, fixed_J w, fixed_N w⟩ hs
set_option maxHeartbeats 400000 in
theorem num_R (w : World) : Calls Tryz.prog 41 #[.int .u8 82] w (Makes (.agg #[.int .i64 12, .bool true, .int .i64 1]) w) := by
  go_enter Tryz.func41, Tryz.ntmps41
  go_wp2
  refine bodyPost_ret (v := .agg #[.int .i64 12, .bool true, .int .i64 1]) (by simp [results, Tryz.results41, go_sem, *]) rfl ?_
  exact ⟨rfl, bw_alloc (Below.refl _ _) _⟩
set_option maxHeartbeats 400000 in
theorem num_G (w : World) : Calls Tryz.prog 41 #[.int .u8 71] w (Makes (.agg #[.int .i64 12, .bool true, .int .i64 1]) w) := by
  go_enter Tryz.func41, Tryz.ntmps41
  go_wp2
  refine bodyPost_ret (v := .agg #[.int .i64 12, .bool true, .int .i64 1]) (by simp [results, Tryz.results41, go_sem, *]) rfl ?_
  exact ⟨rfl, bw_alloc (Below.refl _ _) _⟩
set_option maxHeartbeats 400000 in
theorem num_I (w : World) : Calls Tryz.prog 41 #[.int .u8 73] w (Makes (.agg #[.int .i64 12, .bool true, .int .i64 1]) w) := by
  go_enter Tryz.func41, Tryz.ntmps41
  go_wp2
  refine bodyPost_ret (v := .agg #[.int .i64 12, .bool true, .int .i64 1]) (by simp [results, Tryz.results41, go_sem, *]) rfl ?_
  exact ⟨rfl, bw_alloc (Below.refl _ _) _⟩
set_option maxHeartbeats 400000 in
theorem num_C (w : World) : Calls Tryz.prog 41 #[.int .u8 67] w (Makes (.agg #[.int .i64 12, .bool false, .int .i64 1]) w) := by
  go_enter Tryz.func41, Tryz.ntmps41
  go_wp2
  refine bodyPost_ret (v := .agg #[.int .i64 12, .bool false, .int .i64 1]) (by simp [results, Tryz.results41, go_sem, *]) rfl ?_
  exact ⟨rfl, bw_alloc (Below.refl _ _) _⟩
set_option maxHeartbeats 400000 in
theorem num_H (w : World) : Calls Tryz.prog 41 #[.int .u8 72] w (Makes (.agg #[.int .i64 6, .bool false, .int .i64 1]) w) := by
  go_enter Tryz.func41, Tryz.ntmps41
  go_wp2
  refine bodyPost_ret (v := .agg #[.int .i64 6, .bool false, .int .i64 1]) (by simp [results, Tryz.results41, go_sem, *]) rfl ?_
  exact ⟨rfl, bw_alloc (Below.refl _ _) _⟩
set_option maxHeartbeats 400000 in
theorem num_S (w : World) : Calls Tryz.prog 41 #[.int .u8 83] w (Makes (.agg #[.int .i64 12, .bool true, .int .i64 1]) w) := by
  go_enter Tryz.func41, Tryz.ntmps41
  go_wp2
  refine bodyPost_ret (v := .agg #[.int .i64 12, .bool true, .int .i64 1]) (by simp [results, Tryz.results41, go_sem, *]) rfl ?_
  exact ⟨rfl, bw_alloc (Below.refl _ _) _⟩
set_option maxHeartbeats 400000 in
theorem num_B (w : World) : Calls Tryz.prog 41 #[.int .u8 66] w (Makes (.agg #[.int .i64 13, .bool true, .int .i64 2]) w) := by
  go_enter Tryz.func41, Tryz.ntmps41
  go_wp2
  refine bodyPost_ret (v := .agg #[.int .i64 13, .bool true, .int .i64 2]) (by simp [results, Tryz.results41, go_sem, *]) rfl ?_
  exact ⟨rfl, bw_alloc (Below.refl _ _) _⟩
set_option maxHeartbeats 400000 in
theorem num_U (w : World) : Calls Tryz.prog 41 #[.int .u8 85] w (Makes (.agg #[.int .i64 32, .bool true, .int .i64 4096]) w) := by
  go_enter Tryz.func41, Tryz.ntmps41
  go_wp2
  refine bodyPost_ret (v := .agg #[.int .i64 32, .bool true, .int .i64 4096]) (by simp [results, Tryz.results41, go_sem, *]) rfl ?_
  exact ⟨rfl, bw_alloc (Below.refl _ _) _⟩
set_option maxHeartbeats 400000 in
theorem num_J (w : World) : Calls Tryz.prog 41 #[.int .u8 74] w (Makes (.agg #[.int .i64 21, .bool true, .int .i64 2]) w) := by
  go_enter Tryz.func41, Tryz.ntmps41
  go_wp2
  refine bodyPost_ret (v := .agg #[.int .i64 21, .bool true, .int .i64 2]) (by simp [results, Tryz.results41, go_sem, *]) rfl ?_
  exact ⟨rfl, bw_alloc (Below.refl _ _) _⟩
set_option maxHeartbeats 400000 in
theorem num_N (w : World) : Calls Tryz.prog 41 #[.int .u8 78] w (Makes (.agg #[.int .i64 12, .bool true, .int .i64 1]) w) := by
  go_enter Tryz.func41, Tryz.ntmps41
  go_wp2
  refine bodyPost_ret (v := .agg #[.int .i64 12, .bool true, .int .i64 1]) (by simp [results, Tryz.results41, go_sem, *]) rfl ?_
  exact ⟨rfl, bw_alloc (Below.refl _ _) _⟩
theorem num_any (s : Nat) (hs : IsShape s) (w : World) : Calls Tryz.prog 41 #[.int .u8 (s : Int)] w (Makes (.agg #[.int .i64 (nW s : Int), .bool (nS s), .int .i64 (nK s : Int)]) w) :=
  each_shape (P := fun s => Calls Tryz.prog 41 #[.int .u8 (s : Int)] w (Makes (.agg #[.int .i64 (nW s : Int), .bool (nS s), .int .i64 (nK s : Int)]) w)) ⟨num_R w, num_G w, num_I w, num_C w, num_H w, num_S w, num_B w, num_U w, num_J w, num_N w⟩ hs
end Go.Proofs.YtlommbeokbicjaaGreatDoor

namespace Go.Proofs.YtlommbeokbicjaaGreatDoor
open Go.RowKit Words FieldMath InstMath

/-- v is a slice, from block b on, that lists the parts L. -/
def Parts (v : Value) (L : List Prt) (W : World) (b : Nat) : Prop :=
  (L = [] ∧ v = .slice none 0 0) ∨ ∃ N : Nat, b ≤ N ∧ v = .slice (some ⟨N, 0, none⟩) L.length L.length ∧ ∀ i p, L[i]? = some p →
    W.cell? ⟨N, i * 4, none⟩ = some (.int .i64 (p.1 : Int)) ∧ W.cell? ⟨N, i * 4 + 1, none⟩ = some (.int .i64 (p.2.1 : Int)) ∧
    W.cell? ⟨N, i * 4 + 2, none⟩ = some (.int .i64 (p.2.2.1 : Int)) ∧ W.cell? ⟨N, i * 4 + 3, none⟩ = some (.int .i64 (p.2.2.2 : Int))
def GivesP (L : List Prt) (w : World) (e : Ending) (w' : World) : Prop := ∃ v, e = .returned v ∧ Below w.heap.size w w' ∧ Parts v L w' w.heap.size
set_option maxHeartbeats 1000000 in
theorem parts_R (w : World) : Calls Tryz.prog 16 #[.int .u8 82] w (GivesP (partsL 82) w) := by
  rw [show partsL 82 = [(0, 0, 5, 7), (1, 0, 5, 15), (2, 0, 5, 20)] from rfl]
  have SS := cell_same
  have LB' := ltB_add
  have LS := ltB_self
  have LA' := alloc_reads
  have LH := alloc_holds
  go_enter Tryz.func16, Tryz.ntmps16
  go_wp2
  refine bodyPost_ret (by simp (maxDischargeDepth := 4) [results, Tryz.results16, go_sem, *]; rfl) rfl ?_
  refine ⟨_, rfl, ?_, .inr ⟨_, ?_, rfl, fun i p hp => ?_⟩⟩
  · repeat (first | with_reducible assumption | with_reducible exact Below.refl _ _ | with_reducible refine Below.drew ?_ | with_reducible refine below_drewN ?_ _ | with_reducible refine bw_alloc ?_ _ | (with_reducible refine bw_set ?_ ?_ _; focus (dsimp only; omega)) | (with_reducible apply bw_behind; with_reducible assumption))
  · (first | omega | (simp; done) | (simp; omega))
  · match i, hp with
    | 0, hp => obtain rfl := Option.some.inj hp; refine ⟨?_, ?_, ?_, ?_⟩ <;> (simp [go_sem])
    | 1, hp => obtain rfl := Option.some.inj hp; refine ⟨?_, ?_, ?_, ?_⟩ <;> (simp [go_sem])
    | 2, hp => obtain rfl := Option.some.inj hp; refine ⟨?_, ?_, ?_, ?_⟩ <;> (simp [go_sem])
    | i + 3, hp => simp at hp
set_option maxHeartbeats 1000000 in
theorem parts_G (w : World) : Calls Tryz.prog 16 #[.int .u8 71] w (GivesP (partsL 71) w) := by
  rw [show partsL 71 = [(0, 0, 5, 7), (1, 0, 5, 15)] from rfl]
  have SS := cell_same
  have LB' := ltB_add
  have LS := ltB_self
  have LA' := alloc_reads
  have LH := alloc_holds
  go_enter Tryz.func16, Tryz.ntmps16
  go_wp2
  refine bodyPost_ret (by simp (maxDischargeDepth := 4) [results, Tryz.results16, go_sem, *]; rfl) rfl ?_
  refine ⟨_, rfl, ?_, .inr ⟨_, ?_, rfl, fun i p hp => ?_⟩⟩
  · repeat (first | with_reducible assumption | with_reducible exact Below.refl _ _ | with_reducible refine Below.drew ?_ | with_reducible refine below_drewN ?_ _ | with_reducible refine bw_alloc ?_ _ | (with_reducible refine bw_set ?_ ?_ _; focus (dsimp only; omega)) | (with_reducible apply bw_behind; with_reducible assumption))
  · (first | omega | (simp; done) | (simp; omega))
  · match i, hp with
    | 0, hp => obtain rfl := Option.some.inj hp; refine ⟨?_, ?_, ?_, ?_⟩ <;> (simp [go_sem])
    | 1, hp => obtain rfl := Option.some.inj hp; refine ⟨?_, ?_, ?_, ?_⟩ <;> (simp [go_sem])
    | i + 2, hp => simp at hp
set_option maxHeartbeats 1000000 in
theorem parts_I (w : World) : Calls Tryz.prog 16 #[.int .u8 73] w (GivesP (partsL 73) w) := by
  rw [show partsL 73 = [(0, 0, 5, 7), (1, 0, 5, 15), (3, 0, 12, 20)] from rfl]
  have SS := cell_same
  have LB' := ltB_add
  have LS := ltB_self
  have LA' := alloc_reads
  have LH := alloc_holds
  go_enter Tryz.func16, Tryz.ntmps16
  go_wp2
  refine bodyPost_ret (by simp (maxDischargeDepth := 4) [results, Tryz.results16, go_sem, *]; rfl) rfl ?_
  refine ⟨_, rfl, ?_, .inr ⟨_, ?_, rfl, fun i p hp => ?_⟩⟩
  · repeat (first | with_reducible assumption | with_reducible exact Below.refl _ _ | with_reducible refine Below.drew ?_ | with_reducible refine below_drewN ?_ _ | with_reducible refine bw_alloc ?_ _ | (with_reducible refine bw_set ?_ ?_ _; focus (dsimp only; omega)) | (with_reducible apply bw_behind; with_reducible assumption))
  · (first | omega | (simp; done) | (simp; omega))
  · match i, hp with
    | 0, hp => obtain rfl := Option.some.inj hp; refine ⟨?_, ?_, ?_, ?_⟩ <;> (simp [go_sem])
    | 1, hp => obtain rfl := Option.some.inj hp; refine ⟨?_, ?_, ?_, ?_⟩ <;> (simp [go_sem])
    | 2, hp => obtain rfl := Option.some.inj hp; refine ⟨?_, ?_, ?_, ?_⟩ <;> (simp [go_sem])
    | i + 3, hp => simp at hp
set_option maxHeartbeats 1000000 in
theorem parts_C (w : World) : Calls Tryz.prog 16 #[.int .u8 67] w (GivesP (partsL 67) w) := by
  rw [show partsL 67 = [(0, 0, 5, 7), (1, 0, 5, 15), (3, 0, 12, 20)] from rfl]
  have SS := cell_same
  have LB' := ltB_add
  have LS := ltB_self
  have LA' := alloc_reads
  have LH := alloc_holds
  go_enter Tryz.func16, Tryz.ntmps16
  go_wp2
  refine bodyPost_ret (by simp (maxDischargeDepth := 4) [results, Tryz.results16, go_sem, *]; rfl) rfl ?_
  refine ⟨_, rfl, ?_, .inr ⟨_, ?_, rfl, fun i p hp => ?_⟩⟩
  · repeat (first | with_reducible assumption | with_reducible exact Below.refl _ _ | with_reducible refine Below.drew ?_ | with_reducible refine below_drewN ?_ _ | with_reducible refine bw_alloc ?_ _ | (with_reducible refine bw_set ?_ ?_ _; focus (dsimp only; omega)) | (with_reducible apply bw_behind; with_reducible assumption))
  · (first | omega | (simp; done) | (simp; omega))
  · match i, hp with
    | 0, hp => obtain rfl := Option.some.inj hp; refine ⟨?_, ?_, ?_, ?_⟩ <;> (simp [go_sem])
    | 1, hp => obtain rfl := Option.some.inj hp; refine ⟨?_, ?_, ?_, ?_⟩ <;> (simp [go_sem])
    | 2, hp => obtain rfl := Option.some.inj hp; refine ⟨?_, ?_, ?_, ?_⟩ <;> (simp [go_sem])
    | i + 3, hp => simp at hp
set_option maxHeartbeats 1000000 in
theorem parts_H (w : World) : Calls Tryz.prog 16 #[.int .u8 72] w (GivesP (partsL 72) w) := by
  rw [show partsL 72 = [(0, 0, 5, 7), (1, 0, 5, 15), (3, 0, 6, 20)] from rfl]
  have SS := cell_same
  have LB' := ltB_add
  have LS := ltB_self
  have LA' := alloc_reads
  have LH := alloc_holds
  go_enter Tryz.func16, Tryz.ntmps16
  go_wp2
  refine bodyPost_ret (by simp (maxDischargeDepth := 4) [results, Tryz.results16, go_sem, *]; rfl) rfl ?_
  refine ⟨_, rfl, ?_, .inr ⟨_, ?_, rfl, fun i p hp => ?_⟩⟩
  · repeat (first | with_reducible assumption | with_reducible exact Below.refl _ _ | with_reducible refine Below.drew ?_ | with_reducible refine below_drewN ?_ _ | with_reducible refine bw_alloc ?_ _ | (with_reducible refine bw_set ?_ ?_ _; focus (dsimp only; omega)) | (with_reducible apply bw_behind; with_reducible assumption))
  · (first | omega | (simp; done) | (simp; omega))
  · match i, hp with
    | 0, hp => obtain rfl := Option.some.inj hp; refine ⟨?_, ?_, ?_, ?_⟩ <;> (simp [go_sem])
    | 1, hp => obtain rfl := Option.some.inj hp; refine ⟨?_, ?_, ?_, ?_⟩ <;> (simp [go_sem])
    | 2, hp => obtain rfl := Option.some.inj hp; refine ⟨?_, ?_, ?_, ?_⟩ <;> (simp [go_sem])
    | i + 3, hp => simp at hp
set_option maxHeartbeats 1000000 in
theorem parts_S (w : World) : Calls Tryz.prog 16 #[.int .u8 83] w (GivesP (partsL 83) w) := by
  rw [show partsL 83 = [(1, 0, 5, 15), (2, 0, 5, 20), (3, 0, 5, 7), (3, 5, 7, 25)] from rfl]
  have SS := cell_same
  have LB' := ltB_add
  have LS := ltB_self
  have LA' := alloc_reads
  have LH := alloc_holds
  go_enter Tryz.func16, Tryz.ntmps16
  go_wp2
  refine bodyPost_ret (by simp (maxDischargeDepth := 4) [results, Tryz.results16, go_sem, *]; rfl) rfl ?_
  refine ⟨_, rfl, ?_, .inr ⟨_, ?_, rfl, fun i p hp => ?_⟩⟩
  · repeat (first | with_reducible assumption | with_reducible exact Below.refl _ _ | with_reducible refine Below.drew ?_ | with_reducible refine below_drewN ?_ _ | with_reducible refine bw_alloc ?_ _ | (with_reducible refine bw_set ?_ ?_ _; focus (dsimp only; omega)) | (with_reducible apply bw_behind; with_reducible assumption))
  · (first | omega | (simp; done) | (simp; omega))
  · match i, hp with
    | 0, hp => obtain rfl := Option.some.inj hp; refine ⟨?_, ?_, ?_, ?_⟩ <;> (simp [go_sem])
    | 1, hp => obtain rfl := Option.some.inj hp; refine ⟨?_, ?_, ?_, ?_⟩ <;> (simp [go_sem])
    | 2, hp => obtain rfl := Option.some.inj hp; refine ⟨?_, ?_, ?_, ?_⟩ <;> (simp [go_sem])
    | 3, hp => obtain rfl := Option.some.inj hp; refine ⟨?_, ?_, ?_, ?_⟩ <;> (simp [go_sem])
    | i + 4, hp => simp at hp
set_option maxHeartbeats 1000000 in
theorem parts_B (w : World) : Calls Tryz.prog 16 #[.int .u8 66] w (GivesP (partsL 66) w) := by
  rw [show partsL 66 = [(1, 0, 5, 15), (2, 0, 5, 20), (3, 1, 4, 8), (3, 5, 6, 25), (3, 11, 1, 7), (3, 12, 1, 31)] from rfl]
  have SS := cell_same
  have LB' := ltB_add
  have LS := ltB_self
  have LA' := alloc_reads
  have LH := alloc_holds
  go_enter Tryz.func16, Tryz.ntmps16
  go_wp2
  refine bodyPost_ret (by simp (maxDischargeDepth := 4) [results, Tryz.results16, go_sem, *]; rfl) rfl ?_
  refine ⟨_, rfl, ?_, .inr ⟨_, ?_, rfl, fun i p hp => ?_⟩⟩
  · repeat (first | with_reducible assumption | with_reducible exact Below.refl _ _ | with_reducible refine Below.drew ?_ | with_reducible refine below_drewN ?_ _ | with_reducible refine bw_alloc ?_ _ | (with_reducible refine bw_set ?_ ?_ _; focus (dsimp only; omega)) | (with_reducible apply bw_behind; with_reducible assumption))
  · (first | omega | (simp; done) | (simp; omega))
  · match i, hp with
    | 0, hp => obtain rfl := Option.some.inj hp; refine ⟨?_, ?_, ?_, ?_⟩ <;> (simp [go_sem])
    | 1, hp => obtain rfl := Option.some.inj hp; refine ⟨?_, ?_, ?_, ?_⟩ <;> (simp [go_sem])
    | 2, hp => obtain rfl := Option.some.inj hp; refine ⟨?_, ?_, ?_, ?_⟩ <;> (simp [go_sem])
    | 3, hp => obtain rfl := Option.some.inj hp; refine ⟨?_, ?_, ?_, ?_⟩ <;> (simp [go_sem])
    | 4, hp => obtain rfl := Option.some.inj hp; refine ⟨?_, ?_, ?_, ?_⟩ <;> (simp [go_sem])
    | 5, hp => obtain rfl := Option.some.inj hp; refine ⟨?_, ?_, ?_, ?_⟩ <;> (simp [go_sem])
    | i + 6, hp => simp at hp
set_option maxHeartbeats 1000000 in
theorem parts_U (w : World) : Calls Tryz.prog 16 #[.int .u8 85] w (GivesP (partsL 85) w) := by
  rw [show partsL 85 = [(0, 0, 5, 7), (3, 12, 20, 12)] from rfl]
  have SS := cell_same
  have LB' := ltB_add
  have LS := ltB_self
  have LA' := alloc_reads
  have LH := alloc_holds
  go_enter Tryz.func16, Tryz.ntmps16
  go_wp2
  refine bodyPost_ret (by simp (maxDischargeDepth := 4) [results, Tryz.results16, go_sem, *]; rfl) rfl ?_
  refine ⟨_, rfl, ?_, .inr ⟨_, ?_, rfl, fun i p hp => ?_⟩⟩
  · repeat (first | with_reducible assumption | with_reducible exact Below.refl _ _ | with_reducible refine Below.drew ?_ | with_reducible refine below_drewN ?_ _ | with_reducible refine bw_alloc ?_ _ | (with_reducible refine bw_set ?_ ?_ _; focus (dsimp only; omega)) | (with_reducible apply bw_behind; with_reducible assumption))
  · (first | omega | (simp; done) | (simp; omega))
  · match i, hp with
    | 0, hp => obtain rfl := Option.some.inj hp; refine ⟨?_, ?_, ?_, ?_⟩ <;> (simp [go_sem])
    | 1, hp => obtain rfl := Option.some.inj hp; refine ⟨?_, ?_, ?_, ?_⟩ <;> (simp [go_sem])
    | i + 2, hp => simp at hp
set_option maxHeartbeats 1000000 in
theorem parts_J (w : World) : Calls Tryz.prog 16 #[.int .u8 74] w (GivesP (partsL 74) w) := by
  rw [show partsL 74 = [(0, 0, 5, 7), (3, 12, 8, 12), (3, 11, 1, 20), (3, 1, 10, 21), (3, 20, 1, 31)] from rfl]
  have SS := cell_same
  have LB' := ltB_add
  have LS := ltB_self
  have LA' := alloc_reads
  have LH := alloc_holds
  go_enter Tryz.func16, Tryz.ntmps16
  go_wp2
  refine bodyPost_ret (by simp (maxDischargeDepth := 4) [results, Tryz.results16, go_sem, *]; rfl) rfl ?_
  refine ⟨_, rfl, ?_, .inr ⟨_, ?_, rfl, fun i p hp => ?_⟩⟩
  · repeat (first | with_reducible assumption | with_reducible exact Below.refl _ _ | with_reducible refine Below.drew ?_ | with_reducible refine below_drewN ?_ _ | with_reducible refine bw_alloc ?_ _ | (with_reducible refine bw_set ?_ ?_ _; focus (dsimp only; omega)) | (with_reducible apply bw_behind; with_reducible assumption))
  · (first | omega | (simp; done) | (simp; omega))
  · match i, hp with
    | 0, hp => obtain rfl := Option.some.inj hp; refine ⟨?_, ?_, ?_, ?_⟩ <;> (simp [go_sem])
    | 1, hp => obtain rfl := Option.some.inj hp; refine ⟨?_, ?_, ?_, ?_⟩ <;> (simp [go_sem])
    | 2, hp => obtain rfl := Option.some.inj hp; refine ⟨?_, ?_, ?_, ?_⟩ <;> (simp [go_sem])
    | 3, hp => obtain rfl := Option.some.inj hp; refine ⟨?_, ?_, ?_, ?_⟩ <;> (simp [go_sem])
    | 4, hp => obtain rfl := Option.some.inj hp; refine ⟨?_, ?_, ?_, ?_⟩ <;> (simp [go_sem])
    | i + 5, hp => simp at hp
set_option maxHeartbeats 1000000 in
theorem parts_N (w : World) : Calls Tryz.prog 16 #[.int .u8 78] w (GivesP (partsL 78) w) := by
  rw [show partsL 78 = [] from rfl]
  have SS := cell_same
  have LB' := ltB_add
  have LS := ltB_self
  have LA' := alloc_reads
  have LH := alloc_holds
  go_enter Tryz.func16, Tryz.ntmps16
  go_wp2
  refine bodyPost_ret (by simp (maxDischargeDepth := 4) [results, Tryz.results16, go_sem, *]; rfl) rfl ?_
  exact ⟨_, rfl, by (repeat (first | with_reducible assumption | with_reducible exact Below.refl _ _ | with_reducible refine Below.drew ?_ | with_reducible refine below_drewN ?_ _ | with_reducible refine bw_alloc ?_ _ | (with_reducible refine bw_set ?_ ?_ _; focus (dsimp only; omega)) | (with_reducible apply bw_behind; with_reducible assumption))), .inl ⟨rfl, rfl⟩⟩
theorem parts_any (s : Nat) (hs : IsShape s) (w : World) : Calls Tryz.prog 16 #[.int .u8 (s : Int)] w (GivesP (partsL s) w) :=
  each_shape (P := fun s => Calls Tryz.prog 16 #[.int .u8 (s : Int)] w (GivesP (partsL s) w)) ⟨parts_R w, parts_G w, parts_I w, parts_C w, parts_H w, parts_S w, parts_B w, parts_U w, parts_J w, parts_N w⟩ hs
end Go.Proofs.YtlommbeokbicjaaGreatDoor

namespace Go.Proofs.YtlommbeokbicjaaGreatDoor
open Go.RowKit Words FieldMath InstMath

set_option maxHeartbeats 1000000 in
theorem fit_reg (s o : Int) (v : Int) (B : Bool) (ho : (o != 3) = true) (hF : ∀ W, Calls Tryz.prog 40 #[.int .i64 v, .int .i64 5, .bool false] W (Quiet (.bool B) W)) (w : World) :
    Calls Tryz.prog 17 #[.int .u8 s, .int .i64 o, .int .i64 v] w (Makes (.bool B) w) := by
  have CF := hide hF
  clear hF
  go_enter Tryz.func17, Tryz.ntmps17
  go_wp2_with (go_at_call 40; (with_reducible refine (CF.out _).mono ?_); rintro e w' ⟨rfl, n1, rfl⟩)
  go_ret
  exact ⟨rfl, below_drewN (Below.refl _ _) _⟩
set_option maxHeartbeats 1000000 in
theorem fit_imm (s : Int) (v A K M : Int) (S B Z : Bool) (hK : K ≠ 0) (hM : v.tmod K = M) (hZ : (M == 0) = Z) (hN : ∀ W, Calls Tryz.prog 41 #[.int .u8 s] W (Makes (.agg #[.int .i64 A, .bool S, .int .i64 K]) W))
    (hF : ∀ W, Calls Tryz.prog 40 #[.int .i64 v, .int .i64 A, .bool S] W (Quiet (.bool B) W)) (w : World) :
    Calls Tryz.prog 17 #[.int .u8 s, .int .i64 3, .int .i64 v] w (Makes (.bool (B && Z)) w) := by
  have CF := hide hF
  have CN := hide hN
  clear hF hN
  have SS := cell_same
  have LB' := ltB_add
  have LS := ltB_self
  have LA' := alloc_reads
  have LH := alloc_holds
  cases B with
  | false =>
    go_enter Tryz.func17, Tryz.ntmps17
    go_wp2_with (first | (go_at_call 40; (with_reducible refine (CF.out _).mono ?_); rintro e w' ⟨rfl, n1, rfl⟩) | (go_at_call 41; (with_reducible first | refine (CN.out _).mono ?_); rintro e w1 ⟨rfl, hb1⟩; have hr1 := below_reads hb1; have hh1 := below_holds hb1; obtain ⟨m1, hs1⟩ := below_grew hb1))
    go_ret
    refine ⟨rfl, ?_⟩
    repeat (first | with_reducible assumption | with_reducible exact Below.refl _ _ | with_reducible refine Below.drew ?_ | with_reducible refine below_drewN ?_ _ | with_reducible refine bw_alloc ?_ _ | (with_reducible refine bw_set ?_ ?_ _; focus (dsimp only; omega)) | (with_reducible apply bw_behind; with_reducible assumption))
  | true =>
    go_enter Tryz.func17, Tryz.ntmps17
    go_wp2_with (first | (go_at_call 40; (with_reducible refine (CF.out _).mono ?_); rintro e w' ⟨rfl, n1, rfl⟩) | (go_at_call 41; (with_reducible first | refine (CN.out _).mono ?_); rintro e w1 ⟨rfl, hb1⟩; have hr1 := below_reads hb1; have hh1 := below_holds hb1; obtain ⟨m1, hs1⟩ := below_grew hb1))
    go_ret
    refine ⟨rfl, ?_⟩
    repeat (first | with_reducible assumption | with_reducible exact Below.refl _ _ | with_reducible refine Below.drew ?_ | with_reducible refine below_drewN ?_ _ | with_reducible refine bw_alloc ?_ _ | (with_reducible refine bw_set ?_ ?_ _; focus (dsimp only; omega)) | (with_reducible apply bw_behind; with_reducible assumption))
theorem nK_pos {s : Nat} (hs : IsShape s) : (nK s : Int) ≠ 0 := by
  have : nK s ≠ 0 := each_shape (P := fun s => nK s ≠ 0) (by decide +kernel) hs
  omega
theorem ifits_any (s : Nat) (hs : IsShape s) (o : Nat) (v : Int) (h1 : -9223372036854775808 ≤ v) (h2 : v < 9223372036854775808) (w : World) :
    Calls Tryz.prog 17 #[.int .u8 (s : Int), .int .i64 (o : Int), .int .i64 v] w (Makes (.bool (fitB s o v)) w) := by
  unfold fitB
  by_cases ho : o = 3
  · subst ho
    rw [if_pos rfl]
    exact fit_imm s v _ _ _ _ _ _ (nK_pos hs) rfl rfl (num_any s hs) (fun W => fits_any v _ _ W h1 h2) w
  · rw [if_neg ho]
    exact fit_reg s o v _ (by simp; omega) (fun W => fits_any v _ _ W h1 h2) w
end Go.Proofs.YtlommbeokbicjaaGreatDoor

namespace Go.Proofs.YtlommbeokbicjaaGreatDoor
open Go.RowKit Words FieldMath InstMath

def four (a b c m : Int) (o : Nat) : Int := match o with | 0 => a | 1 => b | 2 => c | _ => m
def encV : Option (BitVec 64) → Value
  | some y => .tuple #[.int .u32 (y.toNat : Int), .bool true]
  | none => .tuple #[.int .u32 0, .bool false]
def rng (v : Int) : Prop := -9223372036854775808 ≤ v ∧ v < 9223372036854775808
theorem parts_be {v : Value} {L : List Prt} {W W' : World} {n : Nat} (h : Parts v L W n) (hb : Below W.heap.size W W') : Parts v L W' n := by
  rcases h with h | ⟨N, h0, h1, h2⟩
  · exact .inl h
  · exact .inr ⟨N, h0, h1, fun i p hp => by
      obtain ⟨a, b, c, d⟩ := h2 i p hp
      exact ⟨c_be hb a, c_be hb b, c_be hb c, c_be hb d⟩⟩
theorem parts_len {s : Nat} (hs : IsShape s) : (partsL s).length ≤ 6 := each_shape (P := fun s => (partsL s).length ≤ 6) (by decide) hs
theorem shr_walk (x : BitVec 64) (n : Nat) : ((x.toNat : Int) / 2 ^ n) = ((x >>> n).toNat : Int) := shr_bv x n

theorem behind_one0 {w0 : World} {f : FuncId} {args : Array Value} {v : Value} (c : ∀ W : World, Calls Tryz.prog f args W (Quiet v W)) (y : Behind w0.heap.size w0) :
    Calls Tryz.prog f args y.world fun e w'' => e = .returned v ∧ ∃ z : Behind w0.heap.size w0, w'' = z.world :=
  Behind.call (fun W => (c W).mono fun _ _ h => quiet_makes h) y

set_option maxHeartbeats 400000 in
theorem enc_no (k a b c m : Int) (h : ¬ (1 ≤ k ∧ k ≤ 69)) (w : World) : Calls Tryz.prog 6 #[.agg #[.int .i64 k, .int .i64 a, .int .i64 b, .int .i64 c, .int .i64 m]] w (Makes (encV none) w) := by
  have C : Hid (∀ W, Calls Tryz.prog 15 #[.int .i64 k] W (Quiet (.int .u8 0) W)) := hide (fun W => shape_no k h W)
  clear h
  go_enter Tryz.func6, Tryz.ntmps6
  go_wp2_with (go_at_call 15; (with_reducible refine (C.out _).mono ?_); rintro e w' ⟨rfl, n1, rfl⟩)
  refine bodyPost_ret (v := .tuple #[.int .u32 0, .bool false]) (by simp (maxDischargeDepth := 4) [results, Tryz.results6, go_sem, *]) rfl ?_
  refine ⟨rfl, ?_⟩
  repeat (first | with_reducible assumption | with_reducible exact Below.refl _ _ | with_reducible refine Below.drew ?_ | with_reducible refine below_drewN ?_ _ | with_reducible refine bw_alloc ?_ _ | (with_reducible refine bw_set ?_ ?_ _; focus (dsimp only; omega)) | (with_reducible apply bw_behind; with_reducible assumption))

set_option maxHeartbeats 2000000 in
theorem enc_yes (k : Nat) (h1 : 1 ≤ k) (h2 : k ≤ 69) (a b c m : Int) (ra : rng a) (rb : rng b) (rc : rng c) (rm : rng m) (w : World) (hT : TabW w) :
    Calls Tryz.prog 6 #[.agg #[.int .i64 (k : Int), .int .i64 a, .int .i64 b, .int .i64 c, .int .i64 m]] w (Makes (encV (encK k (four a b c m))) w) := by
  have hsh := shape_of h1 h2
  have CS : Hid (∀ W, Calls Tryz.prog 15 #[.int .i64 (k : Int)] W (Quiet (.int .u8 (shp k : Int)) W)) := hide (shape_yes k ⟨h1, h2⟩)
  have CP : Hid (∀ W, Calls Tryz.prog 16 #[.int .u8 (shp k : Int)] W (GivesP (partsL (shp k)) W)) := hide (parts_any (shp k) hsh)
  have CF : Hid (∀ (o : Nat) (v : Int), rng v → ∀ W, Calls Tryz.prog 17 #[.int .u8 (shp k : Int), .int .i64 (o : Int), .int .i64 v] W (Makes (.bool (fitB (shp k) o v)) W)) := hide (fun o v r W => ifits_any (shp k) hsh o v r.1 r.2 W)
  have RR : Hid (∀ o, rng (four a b c m o)) := hide (fun o => by unfold four; split <;> assumption)
  have ok := ok_shape hsh
  have H4 := hide ok.four
  have hin := hide ok.inw
  have htop := hide ok.top
  clear ok ra rb rc rm
  have hlt : ∀ y, encK k (four a b c m) = some y → IntKind.u32.wrap (y.toNat : Int) = (y.toNat : Int) := fun y hy => by
    have := (enc_match h1 h2 hy).1
    rw [IntKind.wrap_u32']
    omega
  have HL := hide hlt
  have hw0 : ((wrd k : Nat) : Int) = ((BitVec.ofNat 64 (wrd k)).toNat : Int) := by
    have := wrd_lt k h2
    rw [BitVec.toNat_ofNat, Nat.mod_eq_of_lt (by omega)]
  have hc0 := hT k (by omega)
  rw [hw0] at hc0
  have hu0 : IntKind.u64.wrap ((BitVec.ofNat 64 (wrd k)).toNat : Int) = ((BitVec.ofNat 64 (wrd k)).toNat : Int) := by
    rw [IntKind.wrap_u64]
    have := (BitVec.ofNat 64 (wrd k)).isLt
    omega
  have hg : ltB 0 w.heap.size = true := by unfold ltB; simpa using hT.pos
  have hk0 : ((shp k : Int) == 0) = false := by
    have : shp k ≠ 0 := each_shape (P := fun s => s ≠ 0) (by decide) hsh
    simp; omega
  have hR : encK k (four a b c m) = encL (shp k) (four a b c m) (partsL (shp k)) (BitVec.ofNat 64 (wrd k)) := rfl
  obtain ⟨R, eR⟩ : ∃ R, encK k (four a b c m) = R := ⟨_, rfl⟩
  rw [eR] at hR HL ⊢
  have HR := hide hR
  clear hlt eR hR hT hw0
  generalize BitVec.ofNat 64 (wrd k) = w00 at *
  have hlen := parts_len hsh
  obtain ⟨L, hL⟩ : ∃ L, partsL (shp k) = L := ⟨_, rfl⟩
  rw [hL] at hlen CP H4 hin htop HR
  generalize shp k = s at *
  clear hL
  obtain ⟨F, hF⟩ : ∃ F, four a b c m = F := ⟨_, rfl⟩
  have f0 : a = F 0 := by rw [← hF]; rfl
  have f1 : b = F 1 := by rw [← hF]; rfl
  have f2 : c = F 2 := by rw [← hF]; rfl
  have f3 : m = F 3 := by rw [← hF]; rfl
  rw [hF] at RR HR
  rw [f0, f1, f2, f3]
  clear hF f0 f1 f2 f3 h1
  generalize q0 : F 0 = x0 at *
  generalize q1 : F 1 = x1 at *
  generalize q2 : F 2 = x2 at *
  generalize q3 : F 3 = x3 at *
  have Q := hide (And.intro q0 (And.intro q1 (And.intro q2 q3)))
  clear q0 q1 q2 q3
  have SS := cell_same
  have LB' := ltB_add
  have LS := ltB_self
  have LA' := alloc_reads
  have LH := alloc_holds
  go_enter Tryz.func6, Tryz.ntmps6
  go_wp2_with (first | (go_at_call 15; (with_reducible refine (CS.out _).mono ?_); rintro e w' ⟨rfl, n1, rfl⟩) | (go_at_call 16; (with_reducible refine (CP.out _).mono ?_); rintro e w1 ⟨v, rfl, hb1, hp1⟩; (rcases hp1 with ⟨rfl, rfl⟩ | ⟨N, _, rfl, hp1⟩)))
  case _ =>
    have hR0 : R = some w00 := HR.out
    clear CF CS CP RR
    have hy := HL.out _ hR0
    subst hR0
    refine wp_loop_rounds 1 ?_
    rw [rounds_succ]
    go_wp2
    refine bodyPost_ret (v := .tuple #[.int .u32 (w00.toNat : Int), .bool true]) (by simp (maxDischargeDepth := 4) [results, Tryz.results6, go_sem, *]) rfl ?_
    refine ⟨rfl, ?_⟩
    repeat (first | with_reducible assumption | with_reducible exact Below.refl _ _ | with_reducible refine Below.drew ?_ | with_reducible refine below_drewN ?_ _ | with_reducible refine bw_alloc ?_ _ | (with_reducible refine bw_set ?_ ?_ _; focus (dsimp only; omega)) | (with_reducible apply bw_behind; with_reducible assumption))
  case _ =>
    obtain ⟨q0, q1, q2, q3⟩ := Q.out
    have hA : ∀ o, o < 4 → w1.cell? ⟨w.heap.size + 1, o, none⟩ = some (.int .i64 (F o)) := by
      intro o ho
      match o, ho with
      | 0, _ => rw [q0]; exact c_be hb1 (by simp [go_sem])
      | 1, _ => rw [q1]; exact c_be hb1 (by simp [go_sem])
      | 2, _ => rw [q2]; exact c_be hb1 (by simp [go_sem])
      | 3, _ => rw [q3]; exact c_be hb1 (by simp [go_sem])
    have HA := hide hA
    have HP := hide hp1
    have hw1 : Below w.heap.size w w1 := by
      repeat (first | with_reducible assumption | with_reducible exact Below.refl _ _ | with_reducible refine Below.drew ?_ | with_reducible refine below_drewN ?_ _ | with_reducible refine bw_alloc ?_ _ | (with_reducible refine bw_set ?_ ?_ _; focus (dsimp only; omega)) | (with_reducible apply bw_behind; with_reducible assumption))
    clear hA hp1 hb1 q0 q1 q2 q3 Q CS CP
    go_loopw [6, 32] (fun x i wr => ∃ (j : Nat) (acc : BitVec 64), j ≤ L.length ∧ i = .int .i64 (j : Int) ∧ x = .int .u64 (acc.toNat : Int) ∧ encL s F (L.drop j) acc = R ∧ Below w1.heap.size w1 wr) (fun _ i _ => L.length - (intOf i).toNat)
    case atStart => exact ⟨0, w00, by omega, rfl, rfl, HR.out.symm, Below.refl _ _⟩
    case round =>
      obtain ⟨j, acc, hj, rfl, rfl, hE, hB⟩ := hrel
      by_cases hlt : j < L.length
      · obtain ⟨p0, p1, p2, p3⟩ := HP.out j L[j] (by simp [hlt])
        have hmem : L[j] ∈ L := List.getElem_mem hlt
        have ho := H4.out _ hmem
        have hok := ok_part (hin.out _ hmem)
        have ht := htop.out _ hmem
        have a0 := HA.out _ ho
        rw [List.drop_eq_getElem_cons hlt, encL] at hE
        generalize L[j] = p at *
        obtain ⟨o, l, n, at'⟩ := p
        simp only at p0 p1 p2 p3 ho hok hE a0 ht
        have hl64 : l ≤ 64 := by omega
        have hl64' : (l : Int) ≤ 64 := by omega
        have rr := RR.out o
        have c0 := c_be hB p0
        have c1 := c_be hB p1
        have c2 := c_be hB p2
        have c3 := c_be hB p3
        have a1 := c_be hB a0
        have C2 : Hid (∀ W, Calls Tryz.prog 17 #[.int .u8 (s : Int), .int .i64 (o : Int), .int .i64 (F o)] W (Makes (.bool (fitB s o (F o))) W)) := hide (CF.out o (F o) rr)
        have hu := wrap_u64_bv (F o)
        have hs := shr_bv (BitVec.ofInt 64 (F o)) l
        have C3 : Hid (∀ W, Calls Tryz.prog 18 #[.int .u64 (acc.toNat : Int), .int .i64 (at' : Int), .int .i64 (n : Int), .int .u64 ((BitVec.ofInt 64 (F o) >>> l).toNat : Int)] W (Quiet (.int .u64 ((putB acc at' n (BitVec.ofInt 64 (F o) >>> l)).toNat : Int)) W)) := hide (put_any _ _ _ _)
        have HE := hide hE
        clear p0 p1 p2 p3 a0 rr CF hE hmem
        generalize putB acc at' n (BitVec.ofInt 64 (F o) >>> l) = acc2 at *
        generalize BitVec.ofInt 64 (F o) >>> l = X2 at *
        generalize BitVec.ofInt 64 (F o) = X1 at *
        generalize F o = V at *
        have hwz := hw1.size
        have hna : ltB (w.heap.size + 1) wr.heap.size = true := by unfold ltB; simpa using World.block_lt_of_cell? _ _ a1
        have HOK := hide hok
        clear hok
        obtain ⟨B, eB⟩ : ∃ B, fitB s o V = B := ⟨_, rfl⟩
        rw [eB] at C2 HE
        clear eB
        cases B with
        | false =>
          have hR : R = none := HE.out.symm
          subst hR
          clear HE
          go_wp2_with (first | (go_at_call 17; (with_reducible first | refine (C2.out _).mono ?_); rintro e w2 ⟨rfl, hb2⟩; have hr2 := below_reads hb2; have hh2 := below_holds hb2; obtain ⟨m2, hs2⟩ := below_grew hb2))
          refine bodyPost_ret (v := .tuple #[.int .u32 0, .bool false]) (by simp (maxDischargeDepth := 4) [results, Tryz.results6, go_sem, *]) rfl ?_
          refine ⟨rfl, ?_⟩
          repeat (first | with_reducible assumption | with_reducible exact Below.refl _ _ | with_reducible refine Below.drew ?_ | with_reducible refine below_drewN ?_ _ | with_reducible refine bw_alloc ?_ _ | (with_reducible refine bw_set ?_ ?_ _; focus (dsimp only; omega)) | (with_reducible apply bw_behind; with_reducible assumption))
        | true =>
          simp only [if_true] at HE
          go_wp2_with (first | (go_at_call 17; (with_reducible first | refine (C2.out _).mono ?_); rintro e w2 ⟨rfl, hb2⟩; have hr2 := below_reads hb2; have hh2 := below_holds hb2; obtain ⟨m2, hs2⟩ := below_grew hb2))

          refine wp_abs (fun W => Below w1.heap.size w1 W ∧ W.cell? ⟨wr.heap.size, 1, none⟩ = some (.int .i64 (l : Int)) ∧ W.cell? ⟨wr.heap.size, 2, none⟩ = some (.int .i64 (n : Int)) ∧ W.cell? ⟨wr.heap.size, 3, none⟩ = some (.int .i64 (at' : Int))) ?_ ?_
          · refine ⟨?_, ?_, ?_, ?_⟩
            all_goals (first | with_reducible assumption | ((repeat (first | with_reducible assumption | with_reducible refine c_dr _ ?_ | with_reducible refine c_d1 ?_ | with_reducible refine c_al _ ?_ | (with_reducible refine c_set ?_ ?_; focus (dsimp only; omega)) | (with_reducible apply c_be; with_reducible assumption))); done) | ((repeat (first | with_reducible assumption | with_reducible refine o_dr _ ?_ | with_reducible refine o_d1 ?_ | with_reducible refine o_set ?_ | (with_reducible refine o_new ?_ ?_; (focus (simp)); (focus (simp))) | with_reducible refine o_al _ ?_ | (with_reducible apply o_be; with_reducible assumption))); done) | ((repeat (first | with_reducible assumption | with_reducible exact Below.refl _ _ | with_reducible refine Below.drew ?_ | with_reducible refine below_drewN ?_ _ | with_reducible refine bw_alloc ?_ _ | (with_reducible refine bw_set ?_ ?_ _; focus (dsimp only; omega)) | (with_reducible apply bw_behind; with_reducible assumption))); done) | (simp [go_sem, *]; omega) | (simp (maxDischargeDepth := 4) [go_sem, *]; done))
          rintro w0 ⟨hB0, c0, c1, c2⟩
          have y0 := behind_cell0 c0
          have y1 := behind_cell0 c1
          have y2 := behind_cell0 c2
          have hsome := Behind.any w0
          clear c0 c1 c2
          refine wp_region_behind w0 (by kernel_rfl) (by kernel_rfl) (Below.refl _ _) ?_
          repeat (go_big_quiet_step (first | (go_at_call 18; with_reducible exact behind_one0 C3.out _)))
          refine wpQuiet_nil ?_
          rintro _ ⟨y, rfl⟩
          have hBy := bw_behind y.below hB0
          have x0 := y0 y
          have x1 := y1 y
          have x2 := y2 y
          clear hsome y0 y1 y2
          obtain ⟨w1, hw1⟩ : ∃ W, W = y.world := ⟨_, rfl⟩
          rw [← hw1] at hBy x0 x1 x2 ⊢
          clear hw1 y hB0
          go_wp2
          go_roundw
          case rel => exact ⟨j + 1, acc2, by omega, by go_num, rfl, HE.out, by assumption⟩
          case measure => simp [intOf]; omega
      · have : j = L.length := by omega
        subst this
        have hR : R = some acc := by
          rw [List.drop_length] at hE
          exact hE.symm
        have hy := HL.out _ hR
        subst hR
        clear hE
        go_wp2
        refine bodyPost_ret (v := .tuple #[.int .u32 (acc.toNat : Int), .bool true]) (by simp (maxDischargeDepth := 4) [results, Tryz.results6, go_sem, *]) rfl ?_
        refine ⟨rfl, ?_⟩
        repeat (first | with_reducible assumption | with_reducible exact Below.refl _ _ | with_reducible refine Below.drew ?_ | with_reducible refine below_drewN ?_ _ | with_reducible refine bw_alloc ?_ _ | (with_reducible refine bw_set ?_ ?_ _; focus (dsimp only; omega)) | (with_reducible apply bw_behind; with_reducible assumption))
end Go.Proofs.YtlommbeokbicjaaGreatDoor

namespace Go.Proofs.YtlommbeokbicjaaGreatDoor
open Go.RowKit Words FieldMath InstMath

def PCells (W : World) (N i : Nat) (p : Prt) : Prop :=
    W.cell? ⟨N, i * 4, none⟩ = some (.int .i64 (p.1 : Int)) ∧ W.cell? ⟨N, i * 4 + 1, none⟩ = some (.int .i64 (p.2.1 : Int)) ∧
    W.cell? ⟨N, i * 4 + 2, none⟩ = some (.int .i64 (p.2.2.1 : Int)) ∧ W.cell? ⟨N, i * 4 + 3, none⟩ = some (.int .i64 (p.2.2.2 : Int))
theorem parts_one {v : Value} {L : List Prt} {W : World} {b : Nat} (h : Parts v L W b) : ∃ sl, v = .slice sl L.length L.length ∧ ∀ i p, L[i]? = some p → ∃ N, b ≤ N ∧ sl = some ⟨N, 0, none⟩ ∧ PCells W N i p := by
  rcases h with ⟨rfl, rfl⟩ | ⟨N, h0, rfl, h2⟩
  · exact ⟨none, rfl, fun i p h => by simp at h⟩
  · exact ⟨_, rfl, fun i p h => ⟨N, h0, rfl, h2 i p h⟩⟩
theorem pc_be {W W' : World} {N i : Nat} {p : Prt} (hb : Below W.heap.size W W') (h : PCells W N i p) : PCells W' N i p := ⟨c_be hb h.1, c_be hb h.2.1, c_be hb h.2.2.1, c_be hb h.2.2.2⟩
theorem pc_set {W : World} {N i : Nat} {p : Prt} {a : Addr} {u : Value} (hne : a.block ≠ N) (h : PCells W N i p) : PCells (W.setCell a u) N i p := ⟨c_set hne h.1, c_set hne h.2.1, c_set hne h.2.2.1, c_set hne h.2.2.2⟩
def instV (k a b c m : Int) : Value := .agg #[.int .i64 k, .int .i64 a, .int .i64 b, .int .i64 c, .int .i64 m]
set_option maxHeartbeats 2000000 in
theorem read_any (k : Nat) (h1 : 1 ≤ k) (h2 : k ≤ 69) (x : BitVec 64) (hx : x.toNat < 4294967296) (w : World) :
    Calls Tryz.prog 38 #[.int .i64 (k : Int), .int .u32 (x.toNat : Int)] w (Makes (instV k (opsI k x 0) (opsI k x 1) (opsI k x 2) (opsI k x 3)) w) := by
  have hsh := shape_of h1 h2
  have CS : Hid (∀ W, Calls Tryz.prog 15 #[.int .i64 (k : Int)] W (Quiet (.int .u8 (shp k : Int)) W)) := hide (shape_yes k ⟨h1, h2⟩)
  have CP : Hid (∀ W, Calls Tryz.prog 16 #[.int .u8 (shp k : Int)] W (GivesP (partsL (shp k)) W)) := hide (parts_any (shp k) hsh)
  have CN : Hid (∀ W, Calls Tryz.prog 41 #[.int .u8 (shp k : Int)] W (Makes (.agg #[.int .i64 (nW (shp k) : Int), .bool (nS (shp k)), .int .i64 (nK (shp k) : Int)]) W)) := hide (num_any (shp k) hsh)
  have ok := ok_shape hsh
  have H4 := hide ok.four
  have htop := hide ok.top
  have hlen := parts_len hsh
  have hux : IntKind.u64.wrap (x.toNat : Int) = (x.toNat : Int) := by
    rw [IntKind.wrap_u64]; omega
  have e0 : opsI k x 0 = (rawB k x 0).toInt := by unfold opsI opsB; rw [if_neg (fun h => absurd h.1 (by decide))]
  have e1 : opsI k x 1 = (rawB k x 1).toInt := by unfold opsI opsB; rw [if_neg (fun h => absurd h.1 (by decide))]
  have e2 : opsI k x 2 = (rawB k x 2).toInt := by unfold opsI opsB; rw [if_neg (fun h => absurd h.1 (by decide))]
  have e3 : opsI k x 3 = (if nS (shp k) = true then signB (rawB k x 3) (nW (shp k)) else rawB k x 3).toInt := by
    unfold opsI opsB
    cases nS (shp k) <;> simp
  rw [e0, e1, e2, e3]
  obtain ⟨T, hT⟩ : ∃ T, rawB k x = T := ⟨_, rfl⟩
  rw [hT]
  unfold rawB at hT
  have HT := hide (hT : readL x (partsL (shp k)) (fun _ => 0) = T)
  clear e0 e1 e2 e3 ok hT
  obtain ⟨L, hL⟩ : ∃ L, partsL (shp k) = L := ⟨_, rfl⟩
  rw [hL] at hlen CP H4 htop HT
  generalize nW (shp k) = n0 at *
  generalize nK (shp k) = k0 at *
  generalize nS (shp k) = s0 at *
  generalize shp k = s at *
  clear hL hx
  obtain ⟨R3, hR3⟩ : ∃ R3, (if s0 = true then signB (T 3) n0 else T 3) = R3 := ⟨_, rfl⟩
  rw [hR3]
  have HR3 := hide hR3
  clear hR3
  have SS := cell_same
  have LB' := ltB_add
  have LS := ltB_self
  have LA' := alloc_reads
  have LH := alloc_holds
  go_enter Tryz.func38, Tryz.ntmps38
  go_wp2_with (first | (go_at_call 15; (with_reducible refine (CS.out _).mono ?_); rintro e w' ⟨rfl, n1, rfl⟩) | (go_at_call 16; (with_reducible refine (CP.out _).mono ?_); rintro e w1 ⟨v, rfl, hb1, hp1⟩; (obtain ⟨sl, rfl, hp5⟩ := parts_one hp1)))
  have hA : ∀ o, o < 4 → w1.cell? ⟨w.heap.size + 1, o, none⟩ = some (.int .u64 ((0#64).toNat : Int)) := by
    intro o ho
    match o, ho with
    | 0, _ => exact c_be hb1 (by simp [go_sem])
    | 1, _ => exact c_be hb1 (by simp [go_sem])
    | 2, _ => exact c_be hb1 (by simp [go_sem])
    | 3, _ => exact c_be hb1 (by simp [go_sem])
  have hO : Own w1 (w.heap.size + 1) 4 := by
    repeat (first | with_reducible assumption | with_reducible refine o_dr _ ?_ | with_reducible refine o_d1 ?_ | with_reducible refine o_set ?_ | (with_reducible refine o_new ?_ ?_; (focus (simp)); (focus (simp))) | with_reducible refine o_al _ ?_ | (with_reducible apply o_be; with_reducible assumption))
  have hO5 : Own w1 w.heap.size 5 := by
    repeat (first | with_reducible assumption | with_reducible refine o_dr _ ?_ | with_reducible refine o_d1 ?_ | with_reducible refine o_set ?_ | (with_reducible refine o_new ?_ ?_; (focus (simp)); (focus (simp))) | with_reducible refine o_al _ ?_ | (with_reducible apply o_be; with_reducible assumption))
  have hw1 : Below w.heap.size w w1 := by
    repeat (first | with_reducible assumption | with_reducible exact Below.refl _ _ | with_reducible refine Below.drew ?_ | with_reducible refine below_drewN ?_ _ | with_reducible refine bw_alloc ?_ _ | (with_reducible refine bw_set ?_ ?_ _; focus (dsimp only; omega)) | (with_reducible apply bw_behind; with_reducible assumption))
  have hp2 : ∀ i p, L[i]? = some p → ∃ N, w.heap.size + 1 < N ∧ sl = some ⟨N, 0, none⟩ ∧ PCells w1 N i p := fun i p h => by
    obtain ⟨N, hN, e, hc⟩ := hp5 i p h
    exact ⟨N, by simp at hN; omega, e, hc⟩
  clear hb1 hp1 hp5 CS CP
  go_loopw [15] (fun i wr => ∃ (j : Nat) (f : Nat → BitVec 64), j ≤ L.length ∧ i = .int .i64 (j : Int) ∧ readL x (L.drop j) f = T ∧ (∀ o, o < 4 → wr.cell? ⟨w.heap.size + 1, o, none⟩ = some (.int .u64 ((f o).toNat : Int))) ∧ Own wr (w.heap.size + 1) 4 ∧ Own wr w.heap.size 5 ∧ Below w.heap.size w wr ∧
      (∀ i p, L[i]? = some p → ∃ N, w.heap.size + 1 < N ∧ sl = some ⟨N, 0, none⟩ ∧ PCells wr N i p)) (fun i _ => L.length - (intOf i).toNat)
  case atStart => exact ⟨0, fun _ => 0, by omega, rfl, HT.out, hA, hO, hO5, hw1, hp2⟩
  case round =>
    clear hA hO hO5 hw1 hp2 w1
    obtain ⟨j, f, hj, rfl, hE, hA, hO, hO5, hB, hp2⟩ := hrel
    by_cases hlt : j < L.length
    · obtain ⟨N, hN, rfl, p0, p1, p2, p3⟩ := hp2 j L[j] (by simp [hlt])
      have hmem : L[j] ∈ L := List.getElem_mem hlt
      have ho := H4.out _ hmem
      have ht := htop.out _ hmem
      rw [List.drop_eq_getElem_cons hlt, readL] at hE
      generalize L[j] = p at *
      obtain ⟨o, l, n, at'⟩ := p
      simp only at p0 p1 p2 p3 ho hE ht
      have hl64 : l ≤ 64 := by omega
      have hl64' : (l : Int) ≤ 64 := by omega
      have a0 := hA o ho
      have CG : Hid (∀ W, Calls Tryz.prog 71 #[.int .u64 (x.toNat : Int), .int .i64 (at' : Int), .int .i64 (n : Int)] W (Quiet (.int .u64 ((getB x at' n).toNat : Int)) W)) := hide (get_any x at' n)
      have hs1 := shl_bv (getB x at' n) l
      have hs2 := or_bv (f o) (getB x at' n <<< l)
      have HE := hide hE
      have HA := hide hA
      have HP := hide hp2
      clear hE hA hp2 hmem
      obtain ⟨Z, hZ⟩ : ∃ Z, f o ||| getB x at' n <<< l = Z := ⟨_, rfl⟩
      rw [hZ] at hs2
      have HZ := hide hZ
      clear hZ
      generalize getB x at' n <<< l = G2 at hs1 hs2
      generalize getB x at' n = G1 at hs1 CG
      generalize f o = F0 at a0 hs2
      go_upto_block 1 with fail
      go_cut [] (fun wx => ∃ W2 : World, Below wr.heap.size wr W2 ∧ wx = W2.setCell ⟨w.heap.size + 1, o, none⟩ (.int .u64 (Z.toNat : Int)))
      case first =>
        go_upto_region 6 with fail
        refine wp_abs (fun W => Below wr.heap.size wr W ∧ W.cell? ⟨wr.heap.size, 0, none⟩ = some (.int .i64 (o : Int)) ∧ W.cell? ⟨wr.heap.size, 1, none⟩ = some (.int .i64 (l : Int)) ∧ W.cell? ⟨wr.heap.size, 2, none⟩ = some (.int .i64 (n : Int)) ∧ W.cell? ⟨wr.heap.size, 3, none⟩ = some (.int .i64 (at' : Int))) ?_ ?_
        · refine ⟨?_, ?_, ?_, ?_, ?_⟩
          · repeat (first | with_reducible assumption | with_reducible exact Below.refl _ _ | with_reducible refine Below.drew ?_ | with_reducible refine below_drewN ?_ _ | with_reducible refine bw_alloc ?_ _ | (with_reducible refine bw_set ?_ ?_ _; focus (dsimp only; omega)) | (with_reducible apply bw_behind; with_reducible assumption))
          all_goals (simp [go_sem])
        rintro w2 ⟨hB2, b0, b1, b2, b3⟩
        have a2 := c_be hB2 a0
        have o2 := o_be hB2 hO
        have f2 := o2.free o ho
        refine wp_region_tail_lit (C := fun W => ∃ y : Behind w2.heap.size w2, W = y.world) 16 _ rfl (by kernel_rfl) (by kernel_rfl) (by kernel_rfl) ⟨⟨w2.drew, (Below.refl _ _).drew⟩, rfl⟩ ?_
        have y0 := behind_cell0 b0
        have y1 := behind_cell0 b1
        have y2 := behind_cell0 b2
        have y3 := behind_cell0 b3
        have y4 := behind_cell0 a2
        have hsome := Behind.any w2
        clear b0 b1 b2 b3 a2
        simp only [List.take_succ_cons, List.take_zero, List.cons_append, List.nil_append, mute]
        repeat (go_big_quiet_step (first | (go_at_call 71; with_reducible exact behind_one0 CG.out _)))
        refine wpQuiet_nil ?_
        rintro _ ⟨y, rfl⟩
        have x4 := y4 y
        have o3 := o_be y.below o2
        have f3 := o3.free o ho
        have hB5 := bw_behind y.below hB2
        clear hsome y0 y1 y2 y3 y4
        obtain ⟨w3, hw3⟩ : ∃ W, W = y.world := ⟨_, rfl⟩
        rw [← hw3] at x4 f3 hB5 ⊢
        clear hw3 o3 y
        go_wp2
        go_meet
        exact ⟨w3, hB5, rfl⟩
      case rest =>
        obtain ⟨W2, hB3, rfl⟩ := hcut
        have hsz := hB3.size
        have hsz2 := hB.size
        go_wp2
        go_roundw
        case rel =>
          refine ⟨j + 1, _, by omega, by go_num, HE.out, fun o' ho' => ?_, o_set (o_be hB3 hO), o_set (o_be hB3 hO5), bw_set (Nat.le_succ _) (bw_behind hB3 hB) _, fun i p h => ?_⟩
          · by_cases hoo : o' = o
            · subst hoo
              rw [if_pos rfl, HZ.out]
              exact cell_same _ _ _ ((o_be hB3 hO).some _ ho')
            · rw [if_neg hoo]
              exact (World.cell?_setCell_other _ _ _ _ (fun e => hoo (congrArg Addr.off e).symm)).trans (c_be hB3 (HA.out o' ho'))
          · obtain ⟨N', hN', e', hc'⟩ := HP.out i p h
            exact ⟨N', hN', e', pc_set (by dsimp only; omega) (pc_be hB3 hc')⟩
        case measure => simp [intOf]; omega
    · have : j = L.length := by omega
      subst this
      rw [List.drop_length] at hE
      have hfT : f = T := hE
      subst hfT
      have t0 := hA 0 (by omega)
      have t1 := hA 1 (by omega)
      have t2 := hA 2 (by omega)
      have t3 := hA 3 (by omega)
      have g3 := hO.free 3 (by omega)
      have CSg : Hid (∀ W, Calls Tryz.prog 72 #[.int .u64 ((f 3).toNat : Int), .int .i64 (n0 : Int)] W (Quiet (.int .u64 ((signB (f 3) n0).toNat : Int)) W)) := hide (sign_any (f 3) n0)
      obtain ⟨v0, e0⟩ := hO5.val 0 (by omega)
      obtain ⟨v1, e1⟩ := hO5.val 1 (by omega)
      obtain ⟨v2, e2⟩ := hO5.val 2 (by omega)
      obtain ⟨v3, e3⟩ := hO5.val 3 (by omega)
      obtain ⟨v4, e4⟩ := hO5.val 4 (by omega)
      have d0 := hO5.free 0 (by omega)
      have d1 := hO5.free 1 (by omega)
      have d2 := hO5.free 2 (by omega)
      have d3 := hO5.free 3 (by omega)
      have d4 := hO5.free 4 (by omega)
      have u0 := wrap64_bv (f 0)
      have u1 := wrap64_bv (f 1)
      have u2 := wrap64_bv (f 2)
      have hz : w.heap.size + 1 < wr.heap.size := World.block_lt_of_cell? _ _ t0
      have z1 : ltB w.heap.size wr.heap.size = true := by unfold ltB; simp; omega
      have z2 : ltB (w.heap.size + 1) wr.heap.size = true := by unfold ltB; simp; omega
      clear hE hA hO hO5 hp2 H4 htop HT
      cases s0 with
      | true =>
        have hR3 : signB (f 3) n0 = R3 := HR3.out
        rw [hR3] at CSg
        have u3 := wrap64_bv R3
        clear hR3 HR3
        generalize f 0 = F0 at *
        generalize f 1 = F1 at *
        generalize f 2 = F2 at *
        generalize f 3 = F3 at *
        generalize F0.toInt = I0 at *
        generalize F1.toInt = I1 at *
        generalize F2.toInt = I2 at *
        generalize R3.toInt = I3 at *
        go_wp2_with (first | (go_at_call 41; (with_reducible first | refine (CN.out _).mono ?_); rintro e w4 ⟨rfl, hb4⟩; have hr4 := below_reads hb4; have hh4 := below_holds hb4; obtain ⟨m4, hs4⟩ := below_grew hb4) | (go_at_call 72; (with_reducible refine (CSg.out _).mono ?_); rintro e w' ⟨rfl, n3, rfl⟩))
        refine bodyPost_ret (v := instV k I0 I1 I2 I3) (by simp (maxDischargeDepth := 4) [instV, results, Tryz.results38, go_sem, *]) rfl ?_
        refine ⟨rfl, ?_⟩
        repeat (first | with_reducible assumption | with_reducible exact Below.refl _ _ | with_reducible refine Below.drew ?_ | with_reducible refine below_drewN ?_ _ | with_reducible refine bw_alloc ?_ _ | (with_reducible refine bw_set ?_ ?_ _; focus (dsimp only; omega)) | (with_reducible apply bw_behind; with_reducible assumption))
      | false =>
        have hR3 : f 3 = R3 := HR3.out
        rw [hR3] at t3
        have u3 := wrap64_bv R3
        clear hR3 HR3 CSg
        generalize f 0 = F0 at *
        generalize f 1 = F1 at *
        generalize f 2 = F2 at *
        generalize F0.toInt = I0 at *
        generalize F1.toInt = I1 at *
        generalize F2.toInt = I2 at *
        generalize R3.toInt = I3 at *
        go_wp2_with (first | (go_at_call 41; (with_reducible first | refine (CN.out _).mono ?_); rintro e w4 ⟨rfl, hb4⟩; have hr4 := below_reads hb4; have hh4 := below_holds hb4; obtain ⟨m4, hs4⟩ := below_grew hb4))
        refine bodyPost_ret (v := instV k I0 I1 I2 I3) (by simp (maxDischargeDepth := 4) [instV, results, Tryz.results38, go_sem, *]) rfl ?_
        refine ⟨rfl, ?_⟩
        repeat (first | with_reducible assumption | with_reducible exact Below.refl _ _ | with_reducible refine Below.drew ?_ | with_reducible refine below_drewN ?_ _ | with_reducible refine bw_alloc ?_ _ | (with_reducible refine bw_set ?_ ?_ _; focus (dsimp only; omega)) | (with_reducible apply bw_behind; with_reducible assumption))
end Go.Proofs.YtlommbeokbicjaaGreatDoor

namespace Go.Proofs.YtlommbeokbicjaaGreatDoor
open Go.RowKit Words FieldMath InstMath

theorem match_walk {k : Nat} (h1 : 1 ≤ k) (h2 : k ≤ 69) {x : BitVec 64} (hx : x.toNat < 4294967296) : (bits .and .u32 (x.toNat : Int) (fixN (shp k) : Int) == (wrd k : Int)) = matchB k x := by
  have ok := ok_shape (shape_of h1 h2)
  have hf := ok.fixl
  have hw := wrd_lt k h2
  rw [u32_and_nat _ _ hx hf]
  unfold matchB
  rw [Bool.eq_iff_iff, beq_iff_eq, beq_iff_eq, ← BitVec.toNat_inj, BitVec.toNat_and, BitVec.toNat_ofNat, BitVec.toNat_ofNat, Nat.mod_eq_of_lt (by omega), Nat.mod_eq_of_lt (by omega)]
  omega
def decV : Option Nat → BitVec 64 → Value
  | some k, x => .tuple #[instV k (opsI k x 0) (opsI k x 1) (opsI k x 2) (opsI k x 3), .bool true]
  | none, _ => .tuple #[instV 0 0 0 0 0, .bool false]
/-- Which instruction a word is: none, or the only one. -/
def IsDec (x : BitVec 64) : Option Nat → Prop
  | some k => 1 ≤ k ∧ k ≤ 69 ∧ matchB k x = true
  | none => ∀ k, 1 ≤ k → k ≤ 69 → matchB k x = false
theorem dec_ex (x : BitVec 64) : ∃ d, IsDec x d := by
  by_cases h : ∃ k, 1 ≤ k ∧ k ≤ 69 ∧ matchB k x = true
  · obtain ⟨k, hk⟩ := h
    exact ⟨some k, hk⟩
  · exact ⟨none, fun k h1 h2 => by
      cases e : matchB k x with
      | false => rfl
      | true => exact absurd ⟨k, h1, h2, e⟩ h⟩

set_option maxHeartbeats 2000000 in
theorem dec_any (x : BitVec 64) (hx : x.toNat < 4294967296) (d : Option Nat) (hd : IsDec x d) (w : World) (hT : TabW w) :
    Calls Tryz.prog 13 #[.int .u32 (x.toNat : Int)] w (Makes (decV d x) w) := by
  have CS : Hid (∀ (k : Nat), 1 ≤ k ∧ k ≤ 69 → ∀ W, Calls Tryz.prog 15 #[.int .i64 (k : Int)] W (Quiet (.int .u8 (shp k : Int)) W)) := hide (fun k h => shape_yes k h)
  have CX : Hid (∀ (s : Nat), IsShape s → ∀ W, Calls Tryz.prog 37 #[.int .u8 (s : Int)] W (Quiet (.int .u32 (fixN s : Int)) W)) := hide fixed_any
  have CR : Hid (∀ (k : Nat), 1 ≤ k → k ≤ 69 → ∀ W, Calls Tryz.prog 38 #[.int .i64 (k : Int), .int .u32 (x.toNat : Int)] W (Makes (instV k (opsI k x 0) (opsI k x 1) (opsI k x 2) (opsI k x 3)) W)) := hide (fun k h1 h2 => read_any k h1 h2 x hx)
  have HD := hide hd
  have HX := hide hx
  have HT := hide hT
  have hg := hT.pos
  clear hd hT
  have SS := cell_same
  have LB' := ltB_add
  have LS := ltB_self
  have LA' := alloc_reads
  have LH := alloc_holds
  go_enter Tryz.func13, Tryz.ntmps13
  go_wp2
  go_loopw [4] (fun i wr => ∃ (j : Nat), i = .int .i64 (j : Int) ∧ 1 ≤ j ∧ j ≤ 70 ∧ (∀ k, 1 ≤ k → k < j → matchB k x = false) ∧ Below w.heap.size w wr ∧ Own wr w.heap.size 5 ∧ w.heap.size < wr.heap.size) (fun i _ => 70 - (intOf i).toNat)
  case atStart => exact ⟨1, rfl, by omega, by omega, fun k h1 h2 => by omega, by (repeat (first | with_reducible assumption | with_reducible exact Below.refl _ _ | with_reducible refine Below.drew ?_ | with_reducible refine below_drewN ?_ _ | with_reducible refine bw_alloc ?_ _ | (with_reducible refine bw_set ?_ ?_ _; focus (dsimp only; omega)) | (with_reducible apply bw_behind; with_reducible assumption))), by (repeat (first | with_reducible assumption | with_reducible refine o_dr _ ?_ | with_reducible refine o_d1 ?_ | with_reducible refine o_set ?_ | (with_reducible refine o_new ?_ ?_; (focus (simp)); (focus (simp))) | with_reducible refine o_al _ ?_ | (with_reducible apply o_be; with_reducible assumption))), by simp⟩
  case round =>
    obtain ⟨j, rfl, hj, hj2, hall, hB, hO, hz⟩ := hrel
    have HA := hide hall
    clear hall
    by_cases hlt : j < 70
    · have hc := (hB.cell (p := ⟨0, j, none⟩) (by exact hg)).trans (HT.out j hlt)
      have hm := match_walk hj (by omega) HX.out
      have C1 := hide (CS.out j ⟨hj, by omega⟩)
      have C2 := hide (CX.out (shp j) (shape_of hj (by omega)))
      have C3 := hide (CR.out j hj (by omega))
      have hlt2 : j ≤ 69 := by omega
      have hlt3 : (j : Int) < 70 := by omega
      generalize shp j = s at *
      generalize (fixN s : Int) = fx at *
      generalize (wrd j : Int) = wj at *
      obtain ⟨M, hM⟩ : ∃ M, matchB j x = M := ⟨_, rfl⟩
      rw [hM] at hm
      have HM := hide hM
      clear hM CS CX CR
      go_upto_region 4 with fail

      refine wp_abs (fun W => Below w.heap.size w W ∧ W.cell? ⟨0, j, none⟩ = some (.int .u32 wj) ∧ Own W (w.heap.size) 5) ?_ ?_
      · refine ⟨?_, ?_, ?_⟩
        all_goals (first | with_reducible assumption | ((repeat (first | with_reducible assumption | with_reducible refine c_dr _ ?_ | with_reducible refine c_d1 ?_ | with_reducible refine c_al _ ?_ | (with_reducible refine c_set ?_ ?_; focus (dsimp only; omega)) | (with_reducible apply c_be; with_reducible assumption))); done) | ((repeat (first | with_reducible assumption | with_reducible refine o_dr _ ?_ | with_reducible refine o_d1 ?_ | with_reducible refine o_set ?_ | (with_reducible refine o_new ?_ ?_; (focus (simp)); (focus (simp))) | with_reducible refine o_al _ ?_ | (with_reducible apply o_be; with_reducible assumption))); done) | ((repeat (first | with_reducible assumption | with_reducible exact Below.refl _ _ | with_reducible refine Below.drew ?_ | with_reducible refine below_drewN ?_ _ | with_reducible refine bw_alloc ?_ _ | (with_reducible refine bw_set ?_ ?_ _; focus (dsimp only; omega)) | (with_reducible apply bw_behind; with_reducible assumption))); done) | (simp [go_sem, *]; omega) | (simp (maxDischargeDepth := 4) [go_sem, *]; done))
      rintro w0 ⟨hB0, c0, o0⟩
      have y0 := behind_cell0 c0
      have hsome := Behind.any w0
      clear c0
      refine wp_region_behind w0 (by kernel_rfl) (by kernel_rfl) (Below.refl _ _) ?_
      repeat (go_big_quiet_step (first | (go_at_call 15; with_reducible first | exact behind_one0 C1.out _) | (go_at_call 37; with_reducible first | exact behind_one0 C2.out _)))
      refine wpQuiet_nil ?_
      rintro _ ⟨y, rfl⟩
      have hBy := bw_behind y.below hB0
      have po0 := o_be y.below o0
      clear o0
      have x0 := y0 y
      clear hsome y0
      obtain ⟨w1, hw1⟩ : ∃ W, W = y.world := ⟨_, rfl⟩
      rw [← hw1] at hBy x0 po0 ⊢
      clear hw1 y hB0
      cases M with
      | true =>
        obtain rfl : d = some j := by
          cases d with
          | none => have := HD.out j hj hlt2; rw [HM.out] at this; cases this
          | some k => rw [match_one ⟨HD.out.1, HD.out.2.1⟩ ⟨hj, hlt2⟩ HD.out.2.2 HM.out]
        have o5 := po0
        obtain ⟨v0, e0⟩ := o5.val 0 (by omega)
        obtain ⟨v1, e1⟩ := o5.val 1 (by omega)
        obtain ⟨v2, e2⟩ := o5.val 2 (by omega)
        obtain ⟨v3, e3⟩ := o5.val 3 (by omega)
        obtain ⟨v4, e4⟩ := o5.val 4 (by omega)
        have d0 := o5.free 0 (by omega)
        have d1 := o5.free 1 (by omega)
        have d2 := o5.free 2 (by omega)
        have d3 := o5.free 3 (by omega)
        have d4 := o5.free 4 (by omega)
        have z1 : ltB w.heap.size w1.heap.size = true := by
          have := World.block_lt_of_cell? _ _ e0
          unfold ltB
          simpa using this
        unfold instV at C3
        obtain ⟨I0, i0⟩ : ∃ I0, opsI j x 0 = I0 := ⟨_, rfl⟩
        obtain ⟨I1, i1⟩ : ∃ I1, opsI j x 1 = I1 := ⟨_, rfl⟩
        obtain ⟨I2, i2⟩ : ∃ I2, opsI j x 2 = I2 := ⟨_, rfl⟩
        obtain ⟨I3, i3⟩ : ∃ I3, opsI j x 3 = I3 := ⟨_, rfl⟩
        rw [i0, i1, i2, i3] at C3
        have HI : Hid (decV (some j) x = .tuple #[.agg #[.int .i64 j, .int .i64 I0, .int .i64 I1, .int .i64 I2, .int .i64 I3], .bool true]) := hide (by rw [← i0, ← i1, ← i2, ← i3]; rfl)
        clear i0 i1 i2 i3
        go_wp2_with (first | (go_at_call 38; (with_reducible first | refine (C3.out _).mono ?_); rintro e w4 ⟨rfl, hb4⟩; have hr4 := below_reads hb4; have hh4 := below_holds hb4; obtain ⟨m4, hs4⟩ := below_grew hb4))
        refine bodyPost_ret (v := .tuple #[.agg #[.int .i64 j, .int .i64 I0, .int .i64 I1, .int .i64 I2, .int .i64 I3], .bool true]) (by simp (maxDischargeDepth := 4) [results, Tryz.results13, go_sem, *]) rfl ?_
        refine ⟨congrArg _ HI.out.symm, ?_⟩
        repeat (first | with_reducible assumption | with_reducible exact Below.refl _ _ | with_reducible refine Below.drew ?_ | with_reducible refine below_drewN ?_ _ | with_reducible refine bw_alloc ?_ _ | (with_reducible refine bw_set ?_ ?_ _; focus (dsimp only; omega)) | (with_reducible apply bw_behind; with_reducible assumption))
      | false =>
        go_wp2
        go_roundw
        case rel =>
          refine ⟨j + 1, by go_num, by omega, by omega, fun k h1 h2 => ?_, by assumption, by assumption, ?_⟩
          · by_cases hk : k = j
            · subst hk; exact HM.out
            · exact HA.out k h1 (by omega)
          · obtain ⟨v0, e0⟩ := po0.val 0 (by omega)
            exact World.block_lt_of_cell? _ _ e0
        case measure => simp [intOf]; omega
    · obtain rfl : j = 70 := by omega
      obtain rfl : d = none := by
        cases d with
        | none => rfl
        | some k => have := HA.out k HD.out.1 (by have := HD.out.2.1; omega); rw [HD.out.2.2] at this; cases this
      obtain ⟨v0, e0⟩ := hO.val 0 (by omega)
      obtain ⟨v1, e1⟩ := hO.val 1 (by omega)
      obtain ⟨v2, e2⟩ := hO.val 2 (by omega)
      obtain ⟨v3, e3⟩ := hO.val 3 (by omega)
      obtain ⟨v4, e4⟩ := hO.val 4 (by omega)
      have d0 := hO.free 0 (by omega)
      have d1 := hO.free 1 (by omega)
      have d2 := hO.free 2 (by omega)
      have d3 := hO.free 3 (by omega)
      have d4 := hO.free 4 (by omega)
      go_wp2
      refine bodyPost_ret (v := .tuple #[.agg #[.int .i64 0, .int .i64 0, .int .i64 0, .int .i64 0, .int .i64 0], .bool false]) (by simp (maxDischargeDepth := 4) [results, Tryz.results13, go_sem, *]) rfl ?_
      refine ⟨rfl, ?_⟩
      repeat (first | with_reducible assumption | with_reducible exact Below.refl _ _ | with_reducible refine Below.drew ?_ | with_reducible refine below_drewN ?_ _ | with_reducible refine bw_alloc ?_ _ | (with_reducible refine bw_set ?_ ?_ _; focus (dsimp only; omega)) | (with_reducible apply bw_behind; with_reducible assumption))
end Go.Proofs.YtlommbeokbicjaaGreatDoor

namespace Go.Proofs.YtlommbeokbicjaaGreatDoor
open Go.RowKit InstMath

theorem bytes_eq {s : ByteArray} {l : List UInt8} (h : s.data.toList = l) : s = ⟨l.toArray⟩ := by
  cases s with | mk d => cases d with | mk x => simp at h; rw [h]
theorem says_get : ∀ {ls : List Lit} {cs : List Value}, Frame.Says ls cs → ∀ (k : Nat) (l : Lit), ls[k]? = some l → ∃ c, cs[k]? = some c ∧ Frame.Say l c
  | [], _, _, k, l, hl => by simp at hl
  | _ :: _, [], h, _, _, _ => h.elim
  | a :: ls, c :: cs, h, 0, l, hl => by
    obtain rfl := Option.some.inj hl
    exact ⟨c, rfl, h.1⟩
  | a :: ls, c :: cs, h, k + 1, l, hl => says_get h.2 k l hl
def litW : List Lit := (List.range 70).map (fun k => Lit.int .u32 (wrd k : Int))
def litN : List Lit := (List.range 70).map (fun k => Lit.string (nmL.getD k []))
theorem words_cells {W : World} {cs : Array Value} (hv : W.var? Tryz.prog "mintmark/inst.words" = some cs) (hg : Tryz.prog.globalNamed "mintmark/inst.words" = some 0) (hs : Frame.Says litW cs.toList) : TabW W := fun k hk => by
  obtain ⟨c, h1, h2⟩ := says_get hs k (.int .u32 (wrd k : Int)) (by simp [litW, hk])
  have h3 : c = .int .u32 (wrd k : Int) := h2
  rw [← h3]
  have := World.var?_cell hg hv k
  simp at this h1
  rw [this, h1]
theorem names_cells {W : World} {cs : Array Value} (hv : W.var? Tryz.prog "mintmark/inst.names" = some cs) (hg : Tryz.prog.globalNamed "mintmark/inst.names" = some 1) (hs : Frame.Says litN cs.toList) : TabN W := fun k hk => by
  obtain ⟨c, h1, s, h2, h4⟩ := says_get hs k (.string (nmL.getD k [])) (by simp [litN, hk])
  have h3 : c = .string (nameB k) := by rw [h2]; exact congrArg _ (bytes_eq h4)
  rw [← h3]
  have := World.var?_cell hg hv k
  simp at this h1
  rw [this, h1]
set_option maxRecDepth 100000 in
theorem litW_is : Frame.lits (H := Unit) 4 Rows.laid_mintmark_inst_words = litW := by kernel_rfl
set_option maxRecDepth 100000 in
theorem litN_is : Frame.lits (H := Unit) 4 Rows.laid_mintmark_inst_names = litN := by kernel_rfl
set_option maxRecDepth 100000 in
theorem tabW_of_laid {W : World} (h : laidMetH Tryz.prog [("mintmark/inst.words", Rows.laid_mintmark_inst_words)] W) : TabW W := by
  rw [MakeChecks.laidMetH_plain _ _ _ (by kernel_rfl)] at h
  obtain ⟨ps, ⟨g0, t0, cs0, f0, p0, q0, hg0, ht0, hv0, hd0, _, _⟩, _, _⟩ := h
  obtain rfl := Option.some.inj ((show Tryz.prog.globalNamed "mintmark/inst.words" = some 0 by kernel_rfl).symm.trans hg0)
  obtain rfl := Option.some.inj ((show (Tryz.prog.globals[0]?).map (·.type) = some 47 by kernel_rfl).symm.trans ht0)
  have hs0 := Frame.says_of 4 47 [.inl .u32, .inl .u32, .inl .u32, .inl .u32, .inl .u32, .inl .u32, .inl .u32, .inl .u32, .inl .u32, .inl .u32, .inl .u32, .inl .u32, .inl .u32, .inl .u32, .inl .u32, .inl .u32, .inl .u32, .inl .u32, .inl .u32, .inl .u32, .inl .u32, .inl .u32, .inl .u32, .inl .u32, .inl .u32, .inl .u32, .inl .u32, .inl .u32, .inl .u32, .inl .u32, .inl .u32, .inl .u32, .inl .u32, .inl .u32, .inl .u32, .inl .u32, .inl .u32, .inl .u32, .inl .u32, .inl .u32, .inl .u32, .inl .u32, .inl .u32, .inl .u32, .inl .u32, .inl .u32, .inl .u32, .inl .u32, .inl .u32, .inl .u32, .inl .u32, .inl .u32, .inl .u32, .inl .u32, .inl .u32, .inl .u32, .inl .u32, .inl .u32, .inl .u32, .inl .u32, .inl .u32, .inl .u32, .inl .u32, .inl .u32, .inl .u32, .inl .u32, .inl .u32, .inl .u32, .inl .u32, .inl .u32] _ _ _ (by kernel_rfl) hd0
  exact words_cells hv0 hg0 (litW_is ▸ hs0)
set_option maxRecDepth 100000 in
theorem tabs_of_laid {W : World} (h : laidMetH Tryz.prog [("mintmark/inst.names", Rows.laid_mintmark_inst_names), ("mintmark/inst.words", Rows.laid_mintmark_inst_words)] W) : TabN W ∧ TabW W := by
  rw [MakeChecks.laidMetH_plain _ _ _ (by kernel_rfl)] at h
  obtain ⟨ps, ⟨g0, t0, cs0, f0, p0, q0, hg0, ht0, hv0, hd0, ⟨g1, t1, cs1, f1, p1, q1, hg1, ht1, hv1, hd1, _, _⟩, _⟩, _, _⟩ := h
  obtain rfl := Option.some.inj ((show Tryz.prog.globalNamed "mintmark/inst.names" = some 1 by kernel_rfl).symm.trans hg0)
  obtain rfl := Option.some.inj ((show (Tryz.prog.globals[1]?).map (·.type) = some 131 by kernel_rfl).symm.trans ht0)
  have hs0 := Frame.says_of 4 131 [.inr true, .inr true, .inr true, .inr true, .inr true, .inr true, .inr true, .inr true, .inr true, .inr true, .inr true, .inr true, .inr true, .inr true, .inr true, .inr true, .inr true, .inr true, .inr true, .inr true, .inr true, .inr true, .inr true, .inr true, .inr true, .inr true, .inr true, .inr true, .inr true, .inr true, .inr true, .inr true, .inr true, .inr true, .inr true, .inr true, .inr true, .inr true, .inr true, .inr true, .inr true, .inr true, .inr true, .inr true, .inr true, .inr true, .inr true, .inr true, .inr true, .inr true, .inr true, .inr true, .inr true, .inr true, .inr true, .inr true, .inr true, .inr true, .inr true, .inr true, .inr true, .inr true, .inr true, .inr true, .inr true, .inr true, .inr true, .inr true, .inr true, .inr true] _ _ _ (by kernel_rfl) hd0
  obtain rfl := Option.some.inj ((show Tryz.prog.globalNamed "mintmark/inst.words" = some 0 by kernel_rfl).symm.trans hg1)
  obtain rfl := Option.some.inj ((show (Tryz.prog.globals[0]?).map (·.type) = some 47 by kernel_rfl).symm.trans ht1)
  have hs1 := Frame.says_of 4 47 [.inl .u32, .inl .u32, .inl .u32, .inl .u32, .inl .u32, .inl .u32, .inl .u32, .inl .u32, .inl .u32, .inl .u32, .inl .u32, .inl .u32, .inl .u32, .inl .u32, .inl .u32, .inl .u32, .inl .u32, .inl .u32, .inl .u32, .inl .u32, .inl .u32, .inl .u32, .inl .u32, .inl .u32, .inl .u32, .inl .u32, .inl .u32, .inl .u32, .inl .u32, .inl .u32, .inl .u32, .inl .u32, .inl .u32, .inl .u32, .inl .u32, .inl .u32, .inl .u32, .inl .u32, .inl .u32, .inl .u32, .inl .u32, .inl .u32, .inl .u32, .inl .u32, .inl .u32, .inl .u32, .inl .u32, .inl .u32, .inl .u32, .inl .u32, .inl .u32, .inl .u32, .inl .u32, .inl .u32, .inl .u32, .inl .u32, .inl .u32, .inl .u32, .inl .u32, .inl .u32, .inl .u32, .inl .u32, .inl .u32, .inl .u32, .inl .u32, .inl .u32, .inl .u32, .inl .u32, .inl .u32, .inl .u32] _ _ _ (by kernel_rfl) hd1
  exact ⟨names_cells hv0 hg0 (litN_is ▸ hs0), words_cells hv1 hg1 (litW_is ▸ hs1)⟩
set_option maxRecDepth 100000 in
theorem door_met1 (os : Os) (args : Array Value) : laidMetH Tryz.prog [("mintmark/inst.words", Rows.laid_mintmark_inst_words)] ((World.doorLaid Tryz.prog 400 os).forCall (fun _ _ => 0) ⟨#[], args, []⟩).memory :=
  laidMetH_of_parts3 (fuel := 8) (laidMet_of_run' 8 (by kernel_rfl) (by kernel_rfl)) (by kernel_rfl) (by kernel_rfl)
set_option maxRecDepth 100000 in
theorem door_met2 (os : Os) (args : Array Value) : laidMetH Tryz.prog [("mintmark/inst.names", Rows.laid_mintmark_inst_names), ("mintmark/inst.words", Rows.laid_mintmark_inst_words)] ((World.doorLaid Tryz.prog 400 os).forCall (fun _ _ => 0) ⟨#[], args, []⟩).memory :=
  laidMetH_of_parts3 (fuel := 8) (laidMet_of_run' 8 (by kernel_rfl) (by kernel_rfl)) (by kernel_rfl) (by kernel_rfl)
end Go.Proofs.YtlommbeokbicjaaGreatDoor
