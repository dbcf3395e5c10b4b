/-
  AsmMarks' program: its lines and its text.
-/
import Derived.Test.YtlommbeokbicjaaGreatDoorAsmBackMath
import Derived.Test.YtlommbeokbicjaaGreatDoorInstOne0
namespace Go.Proofs.YtlommbeokbicjaaGreatDoor
open Go.RowKit InstMath AsmMath
open Go.Lib (itoa)

/-- "addi c1, c1, 1" and a newline. -/
def addiB : List UInt8 := [97, 100, 100, 105, 32, 99, 49, 44, 32, 99, 49, 44, 32, 49, 10]
def exB : Nat → List UInt8
  | 0 => []
  | 1 => [10]
  | 2 => [35, 32, 120, 10]
  | _ => [32, 32, 10]
theorem exB_len (c : Nat) : (exB c).length ≤ 4 := by unfold exB; split <;> simp
def lo2 (x : Int) : Nat := (BitVec.ofInt 64 x &&& BitVec.ofInt 64 ((3 : Nat) : Int)).toNat
def extB (l : List Int) (i : Nat) : List UInt8 := match l[i]? with | some x => exB (lo2 x) | none => []
def layB (l : List Int) (n : Nat) : List UInt8 := (List.range n).flatMap (fun i => addiB ++ extB l i)
theorem layB_succ (l : List Int) (n : Nat) : layB l (n + 1) = layB l n ++ (addiB ++ extB l n) := by
  unfold layB
  rw [List.range_succ, List.flatMap_append]
  simp
theorem layB_len (l : List Int) : ∀ n, (layB l n).length ≤ 19 * n
  | 0 => by simp [layB]
  | n + 1 => by
    have h1 := layB_len l n
    have h2 : (extB l n).length ≤ 4 := by
      unfold extB
      split
      · exact exB_len _
      · simp
    rw [layB_succ]
    simp [addiB]
    omega
end Go.Proofs.YtlommbeokbicjaaGreatDoor
