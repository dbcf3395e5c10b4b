/-
  The document's table of instructions (mintmarkref13.Rows): a new slice at each call, row by row.
-/
import Derived.Test.YtlommbeokbicjaaGreatDoorGInst
import Derived.Test.YtlommbeokbicjaaGreatDoorGBase
import Derived.Deep.DeepCutAuto
import Derived.Great.Walk
namespace Go.Proofs.YtlommbeokbicjaaGreatDoor
open Go.RowKit Words FieldMath InstMath

def codL : List Nat := [0, 55, 23, 111, 103, 99, 99, 99, 99, 99, 99, 3, 3, 3, 3, 3, 3, 3, 35, 35, 35, 35, 19, 19, 19, 19, 19, 19, 19, 19, 19, 51, 51, 51, 51, 51, 51, 51, 51, 51, 51, 115, 115, 15, 35, 91, 91, 91, 91, 91, 91, 91, 91, 91, 91, 91, 91, 91, 91, 91, 91, 91, 91, 91, 91, 91, 91, 91, 91, 91]
def fL : List Nat := [0, 0, 0, 0, 0, 0, 1, 4, 5, 6, 7, 0, 1, 2, 3, 4, 5, 6, 0, 1, 2, 3, 0, 2, 3, 4, 6, 7, 1, 5, 5, 0, 0, 1, 2, 3, 4, 5, 5, 6, 7, 0, 0, 2, 4, 0, 0, 0, 0, 0, 0, 0, 0, 0, 0, 0, 0, 0, 0, 0, 0, 0, 0, 0, 0, 0, 0, 0, 1, 2]
def othL : List Nat := [0, 0, 0, 0, 0, 0, 0, 0, 0, 0, 0, 0, 0, 0, 0, 0, 0, 0, 0, 0, 0, 0, 0, 0, 0, 0, 0, 0, 0, 0, 16, 0, 32, 0, 0, 0, 0, 0, 32, 0, 0, 0, 1, 0, 0, 8, 9, 11, 12, 13, 16, 17, 20, 29, 32, 33, 0, 1, 2, 3, 4, 6, 8, 9, 10, 11, 15, 17, 0, 0]
def cod (k : Nat) : Nat := codL.getD k 0
def fof (k : Nat) : Nat := fL.getD k 0
def oth (k : Nat) : Nat := othL.getD k 0
def rowV (k : Nat) : List Value := [.string (nameB k), .int .u8 (shp k : Int), .int .u32 (cod k : Int), .int .u32 (fof k : Int), .int .u32 (oth k : Int)]
def rowsV : List Value := (List.range 69).flatMap (fun k => rowV (k + 1))
/-- The rows lie in block N. -/
def RowsAt (W : World) (N : Nat) : Prop := ∀ k, k < 69 → W.cell? ⟨N, k * 5, none⟩ = some (.string (nameB (k + 1))) ∧ W.cell? ⟨N, k * 5 + 1, none⟩ = some (.int .u8 (shp (k + 1) : Int)) ∧ W.cell? ⟨N, k * 5 + 2, none⟩ = some (.int .u32 (cod (k + 1) : Int)) ∧
  W.cell? ⟨N, k * 5 + 3, none⟩ = some (.int .u32 (fof (k + 1) : Int)) ∧ W.cell? ⟨N, k * 5 + 4, none⟩ = some (.int .u32 (oth (k + 1) : Int))
theorem RowsAt.be {W W' : World} {N : Nat} (h : RowsAt W N) (hb : Below W.heap.size W W') : RowsAt W' N := fun k hk => by
  obtain ⟨a, b, c, d, e⟩ := h k hk
  exact ⟨c_be hb a, c_be hb b, c_be hb c, c_be hb d, c_be hb e⟩
def GivesR (w : World) (e : Ending) (w' : World) : Prop := ∃ N, e = .returned (.slice (some ⟨N, 0, none⟩) 69 69) ∧ w.heap.size ≤ N ∧ Below w.heap.size w w' ∧ RowsAt w' N
theorem rows_get : ∀ k, k < 69 → ∀ j, j < 5 → rowsV[k * 5 + j]? = (rowV (k + 1))[j]? := by
  intro k hk j hj
  have key : ∀ (l : List Nat) (k : Nat) (h : k < l.length), (l.flatMap (fun k => rowV (k + 1)))[k * 5 + j]? = (rowV (l[k] + 1))[j]? := by
    intro l
    induction l with
    | nil => intro k h; simp at h
    | cons a l ih =>
      intro k h
      rw [List.flatMap_cons]
      have hl : (rowV (a + 1)).length = 5 := rfl
      cases k with
      | zero => rw [List.getElem?_append_left (by omega)]; simp
      | succ k =>
        rw [List.getElem?_append_right (by omega), hl, show (k + 1) * 5 + j - 5 = k * 5 + j by omega, ih k (by simpa using h)]
        rfl
  have := key (List.range 69) k (by simpa using hk)
  simp only [List.getElem_range] at this
  exact this

set_option maxRecDepth 100000 in
set_option maxHeartbeats 4000000 in
theorem rows_any (w : World) : Calls Tryz.prog 66 #[] w (GivesR w) := by
  go_enter Tryz.func66, Tryz.ntmps66
  go_upto_region 1 with fail
  refine wp_region_lit ?_
  refine wpList_buildTo rfl 124 _ rfl (some 1) rfl #[.string ⟨#[108, 117, 105]⟩, .int .u8 85, .int .u32 55, .int .u32 0, .int .u32 0] (by kernel_rfl) ?_
  refine wpList_buildTo rfl 124 _ rfl (some 2) rfl #[.string ⟨#[97, 117, 105, 112, 99]⟩, .int .u8 85, .int .u32 23, .int .u32 0, .int .u32 0] (by kernel_rfl) ?_
  refine wpList_buildTo rfl 124 _ rfl (some 3) rfl #[.string ⟨#[106, 97, 108]⟩, .int .u8 74, .int .u32 111, .int .u32 0, .int .u32 0] (by kernel_rfl) ?_
  refine wpList_buildTo rfl 124 _ rfl (some 4) rfl #[.string ⟨#[106, 97, 108, 114]⟩, .int .u8 73, .int .u32 103, .int .u32 0, .int .u32 0] (by kernel_rfl) ?_
  refine wpList_buildTo rfl 124 _ rfl (some 5) rfl #[.string ⟨#[98, 101, 113]⟩, .int .u8 66, .int .u32 99, .int .u32 0, .int .u32 0] (by kernel_rfl) ?_
  refine wpList_buildTo rfl 124 _ rfl (some 6) rfl #[.string ⟨#[98, 110, 101]⟩, .int .u8 66, .int .u32 99, .int .u32 1, .int .u32 0] (by kernel_rfl) ?_
  refine wpList_buildTo rfl 124 _ rfl (some 7) rfl #[.string ⟨#[98, 108, 116]⟩, .int .u8 66, .int .u32 99, .int .u32 4, .int .u32 0] (by kernel_rfl) ?_
  refine wpList_buildTo rfl 124 _ rfl (some 8) rfl #[.string ⟨#[98, 103, 101]⟩, .int .u8 66, .int .u32 99, .int .u32 5, .int .u32 0] (by kernel_rfl) ?_
  refine wpList_buildTo rfl 124 _ rfl (some 9) rfl #[.string ⟨#[98, 108, 116, 117]⟩, .int .u8 66, .int .u32 99, .int .u32 6, .int .u32 0] (by kernel_rfl) ?_
  refine wpList_buildTo rfl 124 _ rfl (some 10) rfl #[.string ⟨#[98, 103, 101, 117]⟩, .int .u8 66, .int .u32 99, .int .u32 7, .int .u32 0] (by kernel_rfl) ?_
  refine wpList_buildTo rfl 124 _ rfl (some 11) rfl #[.string ⟨#[108, 98]⟩, .int .u8 73, .int .u32 3, .int .u32 0, .int .u32 0] (by kernel_rfl) ?_
  refine wpList_buildTo rfl 124 _ rfl (some 12) rfl #[.string ⟨#[108, 104]⟩, .int .u8 73, .int .u32 3, .int .u32 1, .int .u32 0] (by kernel_rfl) ?_
  refine wpList_buildTo rfl 124 _ rfl (some 13) rfl #[.string ⟨#[108, 119]⟩, .int .u8 73, .int .u32 3, .int .u32 2, .int .u32 0] (by kernel_rfl) ?_
  refine wpList_buildTo rfl 124 _ rfl (some 14) rfl #[.string ⟨#[108, 100]⟩, .int .u8 73, .int .u32 3, .int .u32 3, .int .u32 0] (by kernel_rfl) ?_
  refine wpList_buildTo rfl 124 _ rfl (some 15) rfl #[.string ⟨#[108, 98, 117]⟩, .int .u8 73, .int .u32 3, .int .u32 4, .int .u32 0] (by kernel_rfl) ?_
  refine wpList_buildTo rfl 124 _ rfl (some 16) rfl #[.string ⟨#[108, 104, 117]⟩, .int .u8 73, .int .u32 3, .int .u32 5, .int .u32 0] (by kernel_rfl) ?_
  refine wpList_buildTo rfl 124 _ rfl (some 17) rfl #[.string ⟨#[108, 119, 117]⟩, .int .u8 73, .int .u32 3, .int .u32 6, .int .u32 0] (by kernel_rfl) ?_
  refine wpList_buildTo rfl 124 _ rfl (some 18) rfl #[.string ⟨#[115, 98]⟩, .int .u8 83, .int .u32 35, .int .u32 0, .int .u32 0] (by kernel_rfl) ?_
  refine wpList_buildTo rfl 124 _ rfl (some 19) rfl #[.string ⟨#[115, 104]⟩, .int .u8 83, .int .u32 35, .int .u32 1, .int .u32 0] (by kernel_rfl) ?_
  refine wpList_buildTo rfl 124 _ rfl (some 20) rfl #[.string ⟨#[115, 119]⟩, .int .u8 83, .int .u32 35, .int .u32 2, .int .u32 0] (by kernel_rfl) ?_
  refine wpList_buildTo rfl 124 _ rfl (some 21) rfl #[.string ⟨#[115, 100]⟩, .int .u8 83, .int .u32 35, .int .u32 3, .int .u32 0] (by kernel_rfl) ?_
  refine wpList_buildTo rfl 124 _ rfl (some 22) rfl #[.string ⟨#[97, 100, 100, 105]⟩, .int .u8 73, .int .u32 19, .int .u32 0, .int .u32 0] (by kernel_rfl) ?_
  refine wpList_buildTo rfl 124 _ rfl (some 23) rfl #[.string ⟨#[115, 108, 116, 105]⟩, .int .u8 73, .int .u32 19, .int .u32 2, .int .u32 0] (by kernel_rfl) ?_
  refine wpList_buildTo rfl 124 _ rfl (some 24) rfl #[.string ⟨#[115, 108, 116, 105, 117]⟩, .int .u8 73, .int .u32 19, .int .u32 3, .int .u32 0] (by kernel_rfl) ?_
  refine wpList_buildTo rfl 124 _ rfl (some 25) rfl #[.string ⟨#[120, 111, 114, 105]⟩, .int .u8 73, .int .u32 19, .int .u32 4, .int .u32 0] (by kernel_rfl) ?_
  refine wpList_buildTo rfl 124 _ rfl (some 26) rfl #[.string ⟨#[111, 114, 105]⟩, .int .u8 73, .int .u32 19, .int .u32 6, .int .u32 0] (by kernel_rfl) ?_
  refine wpList_buildTo rfl 124 _ rfl (some 27) rfl #[.string ⟨#[97, 110, 100, 105]⟩, .int .u8 73, .int .u32 19, .int .u32 7, .int .u32 0] (by kernel_rfl) ?_
  refine wpList_buildTo rfl 124 _ rfl (some 28) rfl #[.string ⟨#[115, 108, 108, 105]⟩, .int .u8 72, .int .u32 19, .int .u32 1, .int .u32 0] (by kernel_rfl) ?_
  refine wpList_buildTo rfl 124 _ rfl (some 29) rfl #[.string ⟨#[115, 114, 108, 105]⟩, .int .u8 72, .int .u32 19, .int .u32 5, .int .u32 0] (by kernel_rfl) ?_
  refine wpList_buildTo rfl 124 _ rfl (some 30) rfl #[.string ⟨#[115, 114, 97, 105]⟩, .int .u8 72, .int .u32 19, .int .u32 5, .int .u32 16] (by kernel_rfl) ?_
  refine wpList_buildTo rfl 124 _ rfl (some 31) rfl #[.string ⟨#[97, 100, 100]⟩, .int .u8 82, .int .u32 51, .int .u32 0, .int .u32 0] (by kernel_rfl) ?_
  refine wpList_buildTo rfl 124 _ rfl (some 32) rfl #[.string ⟨#[115, 117, 98]⟩, .int .u8 82, .int .u32 51, .int .u32 0, .int .u32 32] (by kernel_rfl) ?_
  refine wpList_buildTo rfl 124 _ rfl (some 33) rfl #[.string ⟨#[115, 108, 108]⟩, .int .u8 82, .int .u32 51, .int .u32 1, .int .u32 0] (by kernel_rfl) ?_
  refine wpList_buildTo rfl 124 _ rfl (some 34) rfl #[.string ⟨#[115, 108, 116]⟩, .int .u8 82, .int .u32 51, .int .u32 2, .int .u32 0] (by kernel_rfl) ?_
  refine wpList_buildTo rfl 124 _ rfl (some 35) rfl #[.string ⟨#[115, 108, 116, 117]⟩, .int .u8 82, .int .u32 51, .int .u32 3, .int .u32 0] (by kernel_rfl) ?_
  refine wpList_buildTo rfl 124 _ rfl (some 36) rfl #[.string ⟨#[120, 111, 114]⟩, .int .u8 82, .int .u32 51, .int .u32 4, .int .u32 0] (by kernel_rfl) ?_
  refine wpList_buildTo rfl 124 _ rfl (some 37) rfl #[.string ⟨#[115, 114, 108]⟩, .int .u8 82, .int .u32 51, .int .u32 5, .int .u32 0] (by kernel_rfl) ?_
  refine wpList_buildTo rfl 124 _ rfl (some 38) rfl #[.string ⟨#[115, 114, 97]⟩, .int .u8 82, .int .u32 51, .int .u32 5, .int .u32 32] (by kernel_rfl) ?_
  refine wpList_buildTo rfl 124 _ rfl (some 39) rfl #[.string ⟨#[111, 114]⟩, .int .u8 82, .int .u32 51, .int .u32 6, .int .u32 0] (by kernel_rfl) ?_
  refine wpList_buildTo rfl 124 _ rfl (some 40) rfl #[.string ⟨#[97, 110, 100]⟩, .int .u8 82, .int .u32 51, .int .u32 7, .int .u32 0] (by kernel_rfl) ?_
  refine wpList_buildTo rfl 124 _ rfl (some 41) rfl #[.string ⟨#[101, 99, 97, 108, 108]⟩, .int .u8 78, .int .u32 115, .int .u32 0, .int .u32 0] (by kernel_rfl) ?_
  refine wpList_buildTo rfl 124 _ rfl (some 42) rfl #[.string ⟨#[101, 98, 114, 101, 97, 107]⟩, .int .u8 78, .int .u32 115, .int .u32 0, .int .u32 1] (by kernel_rfl) ?_
  refine wpList_buildTo rfl 124 _ rfl (some 43) rfl #[.string ⟨#[99, 108, 99]⟩, .int .u8 73, .int .u32 15, .int .u32 2, .int .u32 0] (by kernel_rfl) ?_
  refine wpList_buildTo rfl 124 _ rfl (some 44) rfl #[.string ⟨#[99, 115, 99]⟩, .int .u8 83, .int .u32 35, .int .u32 4, .int .u32 0] (by kernel_rfl) ?_
  refine wpList_buildTo rfl 124 _ rfl (some 45) rfl #[.string ⟨#[99, 115, 101, 116, 98, 111, 117, 110, 100, 115]⟩, .int .u8 82, .int .u32 91, .int .u32 0, .int .u32 8] (by kernel_rfl) ?_
  refine wpList_buildTo rfl 124 _ rfl (some 46) rfl #[.string ⟨#[99, 115, 101, 116, 98, 111, 117, 110, 100, 115, 101, 120, 97, 99, 116]⟩, .int .u8 82, .int .u32 91, .int .u32 0, .int .u32 9] (by kernel_rfl) ?_
  refine wpList_buildTo rfl 124 _ rfl (some 47) rfl #[.string ⟨#[99, 115, 101, 97, 108]⟩, .int .u8 82, .int .u32 91, .int .u32 0, .int .u32 11] (by kernel_rfl) ?_
  refine wpList_buildTo rfl 124 _ rfl (some 48) rfl #[.string ⟨#[99, 117, 110, 115, 101, 97, 108]⟩, .int .u8 82, .int .u32 91, .int .u32 0, .int .u32 12] (by kernel_rfl) ?_
  refine wpList_buildTo rfl 124 _ rfl (some 49) rfl #[.string ⟨#[99, 97, 110, 100, 112, 101, 114, 109]⟩, .int .u8 82, .int .u32 91, .int .u32 0, .int .u32 13] (by kernel_rfl) ?_
  refine wpList_buildTo rfl 124 _ rfl (some 50) rfl #[.string ⟨#[99, 115, 101, 116, 97, 100, 100, 114]⟩, .int .u8 82, .int .u32 91, .int .u32 0, .int .u32 16] (by kernel_rfl) ?_
  refine wpList_buildTo rfl 124 _ rfl (some 51) rfl #[.string ⟨#[99, 105, 110, 99, 111, 102, 102, 115, 101, 116]⟩, .int .u8 82, .int .u32 91, .int .u32 0, .int .u32 17] (by kernel_rfl) ?_
  refine wpList_buildTo rfl 124 _ rfl (some 52) rfl #[.string ⟨#[99, 115, 117, 98]⟩, .int .u8 82, .int .u32 91, .int .u32 0, .int .u32 20] (by kernel_rfl) ?_
  refine wpList_buildTo rfl 124 _ rfl (some 53) rfl #[.string ⟨#[99, 98, 117, 105, 108, 100, 99, 97, 112]⟩, .int .u8 82, .int .u32 91, .int .u32 0, .int .u32 29] (by kernel_rfl) ?_
  refine wpList_buildTo rfl 124 _ rfl (some 54) rfl #[.string ⟨#[99, 116, 101, 115, 116, 115, 117, 98, 115, 101, 116]⟩, .int .u8 82, .int .u32 91, .int .u32 0, .int .u32 32] (by kernel_rfl) ?_
  refine wpList_buildTo rfl 124 _ rfl (some 55) rfl #[.string ⟨#[99, 115, 101, 116, 101, 113, 117, 97, 108]⟩, .int .u8 82, .int .u32 91, .int .u32 0, .int .u32 33] (by kernel_rfl) ?_
  refine wpList_buildTo rfl 124 _ rfl (some 56) rfl #[.string ⟨#[99, 103, 101, 116, 112, 101, 114, 109]⟩, .int .u8 71, .int .u32 91, .int .u32 0, .int .u32 0] (by kernel_rfl) ?_
  refine wpList_buildTo rfl 124 _ rfl (some 57) rfl #[.string ⟨#[99, 103, 101, 116, 116, 121, 112, 101]⟩, .int .u8 71, .int .u32 91, .int .u32 0, .int .u32 1] (by kernel_rfl) ?_
  refine wpList_buildTo rfl 124 _ rfl (some 58) rfl #[.string ⟨#[99, 103, 101, 116, 98, 97, 115, 101]⟩, .int .u8 71, .int .u32 91, .int .u32 0, .int .u32 2] (by kernel_rfl) ?_
  refine wpList_buildTo rfl 124 _ rfl (some 59) rfl #[.string ⟨#[99, 103, 101, 116, 108, 101, 110]⟩, .int .u8 71, .int .u32 91, .int .u32 0, .int .u32 3] (by kernel_rfl) ?_
  refine wpList_buildTo rfl 124 _ rfl (some 60) rfl #[.string ⟨#[99, 103, 101, 116, 116, 97, 103]⟩, .int .u8 71, .int .u32 91, .int .u32 0, .int .u32 4] (by kernel_rfl) ?_
  refine wpList_buildTo rfl 124 _ rfl (some 61) rfl #[.string ⟨#[99, 103, 101, 116, 111, 102, 102, 115, 101, 116]⟩, .int .u8 71, .int .u32 91, .int .u32 0, .int .u32 6] (by kernel_rfl) ?_
  refine wpList_buildTo rfl 124 _ rfl (some 62) rfl #[.string ⟨#[99, 114, 114, 108]⟩, .int .u8 71, .int .u32 91, .int .u32 0, .int .u32 8] (by kernel_rfl) ?_
  refine wpList_buildTo rfl 124 _ rfl (some 63) rfl #[.string ⟨#[99, 114, 97, 109]⟩, .int .u8 71, .int .u32 91, .int .u32 0, .int .u32 9] (by kernel_rfl) ?_
  refine wpList_buildTo rfl 124 _ rfl (some 64) rfl #[.string ⟨#[99, 109, 111, 118, 101]⟩, .int .u8 71, .int .u32 91, .int .u32 0, .int .u32 10] (by kernel_rfl) ?_
  refine wpList_buildTo rfl 124 _ rfl (some 65) rfl #[.string ⟨#[99, 99, 108, 101, 97, 114, 116, 97, 103]⟩, .int .u8 71, .int .u32 91, .int .u32 0, .int .u32 11] (by kernel_rfl) ?_
  refine wpList_buildTo rfl 124 _ rfl (some 66) rfl #[.string ⟨#[99, 103, 101, 116, 97, 100, 100, 114]⟩, .int .u8 71, .int .u32 91, .int .u32 0, .int .u32 15] (by kernel_rfl) ?_
  refine wpList_buildTo rfl 124 _ rfl (some 67) rfl #[.string ⟨#[99, 115, 101, 97, 108, 101, 110, 116, 114, 121]⟩, .int .u8 71, .int .u32 91, .int .u32 0, .int .u32 17] (by kernel_rfl) ?_
  refine wpList_buildTo rfl 124 _ rfl (some 68) rfl #[.string ⟨#[99, 105, 110, 99, 111, 102, 102, 115, 101, 116, 105, 109, 109]⟩, .int .u8 73, .int .u32 91, .int .u32 1, .int .u32 0] (by kernel_rfl) ?_
  refine wpList_buildTo rfl 124 _ rfl (some 69) rfl #[.string ⟨#[99, 115, 101, 116, 98, 111, 117, 110, 100, 115, 105, 109, 109]⟩, .int .u8 67, .int .u32 91, .int .u32 2, .int .u32 0] (by kernel_rfl) ?_
  refine Great.wpList_buildSliceTo rfl 121 124 69 _ rfl w.heap.size rfl (some 70) rfl (by kernel_rfl) rowsV.toArray (by kernel_rfl) ?_
  refine Great.wpList_runTo rfl (some 0) rfl (.slice (some ⟨w.heap.size, 0, none⟩) 69 69) _ rfl ?_
  refine wpList_nil ?_
  rename_i K hK
  refine hK _ _ ?_
  refine wp_ret ?_
  refine bodyPost_ret (v := .slice (some ⟨w.heap.size, 0, none⟩) 69 69) (by kernel_rfl) (by kernel_rfl) ?_
  refine ⟨w.heap.size, rfl, Nat.le_refl _, bw_alloc (Below.refl _ _) _, fun k hk => ?_⟩
  have hR : Row (w.alloc (.cells rowsV.toArray 124)) w.heap.size rowsV := row_new rfl rfl
  have g := rows_get k hk
  exact ⟨hR _ _ (g 0 (by omega)), hR _ _ (g 1 (by omega)), hR _ _ (g 2 (by omega)), hR _ _ (g 3 (by omega)), hR _ _ (g 4 (by omega))⟩
end Go.Proofs.YtlommbeokbicjaaGreatDoor
