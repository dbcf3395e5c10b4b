/-
  The buffer as four lists of lines.
-/
import Derived.Test.YtikdoknfcikfgaaTlbMem
namespace Go.Proofs.Ytikdoknfcikfgaa
open Go.RowKit

/-- The buffer in block N: set q has the lines M q. -/
def TlbM (W : World) (N : Nat) (M : Nat → List Ln) : Prop := ∃ R, TlbAt W N R (fun q => (M q).length) ∧ ∀ q, q < 4 → (M q).length ≤ 2 ∧ ∀ j l, (M q)[j]? = some l → R (2 * q + j) = l
theorem tm_be {W W' : World} {N : Nat} {M : Nat → List Ln} (hb : Below W.heap.size W W') (h : TlbM W N M) : TlbM W' N M := by
  obtain ⟨R, h1, h2⟩ := h
  exact ⟨R, ta_be hb h1, h2⟩
theorem tm_bn {n : Nat} {W W' : World} {N : Nat} {M : Nat → List Ln} (hb : Below n W W') (hlt : N < n) (h : TlbM W N M) : TlbM W' N M := by
  obtain ⟨R, h1, h2⟩ := h
  exact ⟨R, ta_bn hb hlt h1, h2⟩
theorem tm_dr {W : World} {N : Nat} {M : Nat → List Ln} (n : Nat) (h : TlbM W N M) : TlbM (W.drewN n) N M := by
  obtain ⟨R, h1, h2⟩ := h
  exact ⟨R, ta_dr n h1, h2⟩
theorem tm_d1 {W : World} {N : Nat} {M : Nat → List Ln} (h : TlbM W N M) : TlbM W.drew N M := by
  obtain ⟨R, h1, h2⟩ := h
  exact ⟨R, ta_d1 h1, h2⟩
theorem tm_al {W : World} {N : Nat} {M : Nat → List Ln} (ob : Obj) (h : TlbM W N M) : TlbM (W.alloc ob) N M := tm_be (below_alloc (Below.refl _ _) (Nat.le_refl _) ob) h
theorem tm_set {W : World} {N : Nat} {M : Nat → List Ln} {p : Addr} {u : Value} (hne : p.block ≠ N) (h : TlbM W N M) : TlbM (W.setCell p u) N M := by
  obtain ⟨R, h1, h2⟩ := h
  exact ⟨R, ta_set hne h1, h2⟩
theorem TlbM.here {W : World} {N : Nat} {M : Nat → List Ln} (h : TlbM W N M) : N < W.heap.size := by
  obtain ⟨R, h1, h2⟩ := h
  exact h1.here
theorem tm_out {W W' : World} {N K : Nat} {M : Nat → List Ln} (ho : Out1 K W W') (hne : N ≠ K) (h : TlbM W N M) : TlbM W' N M := by
  obtain ⟨R, h1, h2⟩ := h
  exact ⟨R, ta_out ho hne h1, h2⟩
theorem tm_congr {W : World} {N : Nat} {M M' : Nat → List Ln} (he : ∀ q, q < 4 → M q = M' q) (h : TlbM W N M) : TlbM W N M' := by
  obtain ⟨R, h1, h2⟩ := h
  refine ⟨R, ⟨h1.line, fun q hq => ?_, h1.there⟩, fun q hq => ?_⟩
  · show W.cell? ⟨N, 128 + q, none⟩ = some (Value.int .i64 ((M' q).length : Int))
    rw [← he q hq]
    exact h1.fill q hq
  · rw [← he q hq]
    exact h2 q hq
/-- What a set is where the buffer has turned up to set k. -/
def upTo (M M2 : Nat → List Ln) (k : Nat) : Nat → List Ln := fun q => if q < k then M2 q else M q
theorem updL_upTo (M M2 : Nat → List Ln) (q m : Nat) (hm : (M2 q).length = m) : updL (fun r => (upTo M M2 q r).length) q m = fun r => (upTo M M2 (q + 1) r).length := by
  funext r
  unfold updL upTo
  by_cases e : r = q
  · subst e
    rw [if_pos rfl, if_pos (by omega), hm]
  · rw [if_neg e]
    dsimp only
    by_cases h : r < q
    · rw [if_pos h, if_pos (by omega)]
    · rw [if_neg h, if_neg (by omega)]
end Go.Proofs.Ytikdoknfcikfgaa
