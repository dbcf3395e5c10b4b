/-
  Texts of rows of bytes; small numbers.
-/
import Derived.Test.YtadhjgjemndnpaaBlk4
namespace Go.Proofs.Ytadhjgjemndnpaa
open Go.RowKit Go.Maps

theorem row_range {W : World} {g : Nat} {l : List Value} (h : Row W g l) : W.rangeAt g 0 l := fun j v hv => by
  rw [Nat.zero_add]
  exact h j v hv
/-- string(b), b a slice whose bytes lie in a row. -/
theorem text_of {W : World} {g o c n : Nat} {L : List UInt8} (hn : L.length = n) (h : W.rangeAt g o (cellsB L)) : (convert 33 9 (.slice (some ⟨g, o, none⟩) n c)).run Try.prog W = .ok (.string (str L)) W := by
  subst hn
  exact run_convert_bytes_back (P := Try.prog) W 33 9 5 ⟨g, o, none⟩ c L Try.underlying33 Try.underlying5 Try.underlying9 (fun k hk => by
    rw [Addr.add_mid]
    exact h k _ (cellsB_get (List.getElem?_eq_getElem hk)))
theorem row_lt {W : World} {g : Nat} {L : List UInt8} (hL : L.length = 4096) (h : Row W g (cellsB L)) : g < W.heap.size := by
  have : (cellsB L)[0]? = some (.int .u8 (L[0].toNat : Int)) := cellsB_get (List.getElem?_eq_getElem (by omega))
  exact World.block_lt_of_cell? _ _ (h 0 _ this)
theorem row_out {N g : Nat} {W W' : World} {l : List Value} (ho : OutB N W W') (hne : g ≠ N) (h : Row W g l) : Row W' g l := fun j v hv => ob_cell ho hne (h j v hv)
theorem text_eq (a b : List UInt8) (W : World) : (Op.stringOp .eql (str a) (str b)).run Try.prog W = .ok (.bool (decide (a = b))) W := by
  have : ((str a).toList == (str b).toList) = decide (a = b) := by
    rw [Bool.eq_iff_iff]
    simp only [beq_iff_eq, decide_eq_true_eq]
    constructor
    · intro h
      apply str_inj
      have := congrArg (fun l : List UInt8 => (⟨l.toArray⟩ : ByteArray)) h
      exact ByteArray.ext (by simpa [ByteArray.toList_eq] using this)
    · intro h
      rw [h]
  simp [Op.stringOp, this]
theorem wrap_pred {f : Int} (h : 0 < f) (h2 : f < 9223372036854775808) : wrap64 (f - 1) = f - 1 := by unfold wrap64; omega
theorem and_7 (x : Int) : ∃ n : Nat, n ≤ 7 ∧ bits .and .i64 x 7 = (n : Int) := by
  have h2 : (BitVec.ofInt 64 (7 : Int)).toNat = 7 := by decide
  have h3 : (BitVec.ofInt 64 x &&& BitVec.ofInt 64 (7 : Int)).toNat ≤ 7 := by
    rw [BitVec.toNat_and, h2]
    exact Nat.and_le_right
  refine ⟨_, h3, ?_⟩
  show IntKind.i64.wrap ((BitVec.ofInt 64 x &&& BitVec.ofInt 64 (7 : Int)).toNat : Int) = _
  rw [IntKind.wrap_i64]
  omega
theorem odd_7 (k : Nat) (h : k < 8) : bits .and .i64 (k : Int) 1 = ((k % 2 : Nat) : Int) := by
  have : ∀ k : Fin 8, bits .and .i64 ((k.val : Nat) : Int) 1 = ((k.val % 2 : Nat) : Int) := by decide +kernel
  exact this ⟨k, h⟩
theorem wf_u8 {x : Int} (h : (Lit.int .u8 x).wf = true) : ∃ X : UInt8, x = (X.toNat : Int) := by
  have e1 : IntKind.u8.min = 0 := by decide
  have e2 : IntKind.u8.max = 255 := by decide
  simp only [Lit.wf, e1, e2, Bool.and_eq_true, decide_eq_true_eq] at h
  refine ⟨UInt8.ofNat x.toNat, ?_⟩
  rw [UInt8.toNat_ofNat']
  omega
end Go.Proofs.Ytadhjgjemndnpaa
