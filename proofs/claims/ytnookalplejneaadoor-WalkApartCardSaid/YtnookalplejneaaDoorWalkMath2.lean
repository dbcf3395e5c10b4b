/-
  What a mark does to a walk; Mark of an entry where it is.
-/
import Derived.Test.YtnookalplejneaaDoorWalkSet2
namespace Go.Proofs.YtnookalplejneaaDoor
open Go.RowKit Words FieldMath PteMath

/-- A word that serves at level 0 in the place of another one is found where that was. -/
theorem good_both {x : BitVec 64} {C : Nat} (h1 : goodQ x true C = true) (h2 : goodQ x false C = true) : False := by
  unfold goodQ at h1 h2
  generalize (x.getLsbD 0 && (x.getLsbD 1 || x.getLsbD 2 || x.getLsbD 3)) = L at *
  cases L <;> simp at h1 h2
theorem good_frame {x : BitVec 64} {l : Bool} {C : Nat} (h : goodQ x l C = true) : (getB x 10 44).toNat < C := by
  unfold goodQ at h
  simp only [Bool.and_eq_true] at h
  exact of_decide_eq_true h.2
theorem step_put (M : Nat → Nat → BitVec 64) (C v : Nat) (V : BitVec 64) : ∀ l t x a, t < C → stepM M C v l t = some (x, a) → ∃ p k, p < C ∧ k < 512 ∧ a = p * 4096 + 8 * k ∧ M p k = x ∧ goodQ x true C = true ∧ (goodQ V true C = true → stepM (putM M p k V) C v l t = some (V, a))
  | 0, t, x, a, ht, h => by
    unfold stepM at h
    split at h
    · rename_i hg
      simp only [Option.some.injEq, Prod.mk.injEq] at h
      obtain ⟨rfl, rfl⟩ := h
      refine ⟨t, idx v 0, ht, idx_lt v 0, rfl, rfl, hg, fun hV => ?_⟩
      unfold stepM
      rw [putM_same, if_pos hV]
    · cases h
  | l + 1, t, x, a, ht, h => by
    unfold stepM at h
    split at h
    · rename_i hg
      obtain ⟨p, k, hp, hk, ha, hx, hgx, hV⟩ := step_put M C v V l _ x a (good_frame hg) h
      refine ⟨p, k, hp, hk, ha, hx, hgx, fun hv => ?_⟩
      have hne : t ≠ p ∨ idx v ((l + 1 : Nat) : Int) ≠ k := by
        by_cases e : t = p
        · refine .inr (fun e2 => ?_)
          rw [e, e2, hx] at hg
          exact good_both hgx hg
        · exact .inl e
      rw [stepM]
      rw [putM_else _ _ _ _ _ _ hne, if_pos hg]
      exact hV hv
    · cases h
theorem walk_put (M : Nat → Nat → BitVec 64) (C root v : Nat) (V : BitVec 64) (x : BitVec 64) (a : Nat) (h : walkM M C root v = some (x, a)) : ∃ p k, p < C ∧ k < 512 ∧ a = p * 4096 + 8 * k ∧ M p k = x ∧ goodQ x true C = true ∧ (goodQ V true C = true → walkM (putM M p k V) C root v = some (V, a)) := by
  unfold walkM at h ⊢
  split at h
  · rename_i hc
    obtain ⟨p, k, hp, hk, ha, hx, hg, hV⟩ := step_put M C v V 2 root x a hc.2 h
    refine ⟨p, k, hp, hk, ha, hx, hg, fun hv => ?_⟩
    rw [if_pos hc]
    exact hV hv
  · cases h
/-- The word of twelve flags and a frame. -/
theorem word_bits (b0 b1 b2 b3 b4 b5 b6 b7 b8 b9 b10 b11 : Bool) (F : BitVec 64) : (wk (bs b0 b1 b2 b3 b4 b5 b6 b7 b8 b9 b10 b11) F 12).getLsbD 0 = b0 ∧ (wk (bs b0 b1 b2 b3 b4 b5 b6 b7 b8 b9 b10 b11) F 12).getLsbD 1 = b1 ∧ (wk (bs b0 b1 b2 b3 b4 b5 b6 b7 b8 b9 b10 b11) F 12).getLsbD 2 = b2 ∧ (wk (bs b0 b1 b2 b3 b4 b5 b6 b7 b8 b9 b10 b11) F 12).getLsbD 3 = b3 ∧ (wk (bs b0 b1 b2 b3 b4 b5 b6 b7 b8 b9 b10 b11) F 12).getLsbD 4 = b4 ∧ (wk (bs b0 b1 b2 b3 b4 b5 b6 b7 b8 b9 b10 b11) F 12).getLsbD 5 = b5 ∧ (wk (bs b0 b1 b2 b3 b4 b5 b6 b7 b8 b9 b10 b11) F 12).getLsbD 6 = b6 ∧ (wk (bs b0 b1 b2 b3 b4 b5 b6 b7 b8 b9 b10 b11) F 12).getLsbD 7 = b7 ∧ (wk (bs b0 b1 b2 b3 b4 b5 b6 b7 b8 b9 b10 b11) F 12).getLsbD 58 = b8 ∧ (wk (bs b0 b1 b2 b3 b4 b5 b6 b7 b8 b9 b10 b11) F 12).getLsbD 59 = b9 ∧ (wk (bs b0 b1 b2 b3 b4 b5 b6 b7 b8 b9 b10 b11) F 12).getLsbD 60 = b10 ∧ (wk (bs b0 b1 b2 b3 b4 b5 b6 b7 b8 b9 b10 b11) F 12).getLsbD 61 = b11 := by
  have hf := fun j hj => word_flag (bs b0 b1 b2 b3 b4 b5 b6 b7 b8 b9 b10 b11) F j hj
  exact ⟨hf 0 (by omega), hf 1 (by omega), hf 2 (by omega), hf 3 (by omega), hf 4 (by omega), hf 5 (by omega), hf 6 (by omega), hf 7 (by omega), hf 8 (by omega), hf 9 (by omega), hf 10 (by omega), hf 11 (by omega)⟩
theorem frame_small (x : BitVec 64) : (getB x 10 44) &&& maskB 44 = getB x 10 44 := by
  apply BitVec.eq_of_toNat_eq
  rw [frame_nat, show getB x 10 44 = getB x ((10 : Nat) : Int) ((44 : Nat) : Int) from rfl, get_nat _ _ _ (by omega)]
  omega
theorem right_marks (b0 b1 b2 b3 b4 b5 b6 b7 b8 b9 b10 b11 y6 y7 y10 : Bool) (N : Int) (hL : (b0 && (b1 || b2 || b3)) = true) : rightQ b0 b1 b2 b3 b4 b5 y6 y7 b8 b9 y10 b11 N = rightQ b0 b1 b2 b3 b4 b5 b6 b7 b8 b9 b10 b11 N := by
  unfold rightQ
  rw [hL]
  rfl

set_option maxRecDepth 100000 in
set_option maxHeartbeats 8000000 in
theorem eqi_mark (b0 b1 b2 b3 b4 b5 b6 b7 b8 b9 b10 b11 D X : Bool) (N : Int) : ∀ W, (Op.equalIn 10000 32 (.agg #[.bool b0, .bool b1, .bool b2, .bool b3, .bool b4, .bool b5, .bool true, .bool D, .bool b8, .bool b9, .bool X, .bool b11, .int .u64 N]) (.agg #[.bool b0, .bool b1, .bool b2, .bool b3, .bool b4, .bool b5, .bool b6, .bool b7, .bool b8, .bool b9, .bool b10, .bool b11, .int .u64 N])).run Tryd.prog W = .ok (b6 && (D == b7) && (X == b10)) W := by
  intro W
  cases b6
  · simp [go_sem]
  · cases b7 <;> cases D
    all_goals first | (cases b10 <;> cases X <;> simp [go_sem]; done) | simp [go_sem]
theorem ne_mark (b0 b1 b2 b3 b4 b5 b6 b7 b8 b9 b10 b11 D X : Bool) (N : Int) : ∀ W, (binOp .neq 32 (.agg #[.bool b0, .bool b1, .bool b2, .bool b3, .bool b4, .bool b5, .bool true, .bool D, .bool b8, .bool b9, .bool X, .bool b11, .int .u64 N]) (.agg #[.bool b0, .bool b1, .bool b2, .bool b3, .bool b4, .bool b5, .bool b6, .bool b7, .bool b8, .bool b9, .bool b10, .bool b11, .int .u64 N])).run Tryd.prog W = .ok (.bool (!(b6 && (D == b7) && (X == b10)))) W := fun W => by
  rw [run_neq_struct, eqi_mark]
  rfl

/-- Has an entry its marks? -/
def sameQ (b6 b7 b10 : Bool) (k : Int) (tagged : Bool) : Bool := b6 && (markD b7 k == b7) && (markC b10 k tagged == b10)
def markW (b0 b1 b2 b3 b4 b5 _b6 b7 b8 b9 b10 b11 : Bool) (k : Int) (tagged : Bool) (F : BitVec 64) : BitVec 64 := wk (bs b0 b1 b2 b3 b4 b5 true (markD b7 k) b8 b9 (markC b10 k tagged) b11) F 12
theorem mark_any {p i C : Nat} (hp : p < C) (hi : i < 512) (hC : C ≤ 64) (b0 b1 b2 b3 b4 b5 b6 b7 b8 b9 b10 b11 tagged : Bool) (F : BitVec 64) (k : Int) (R N : Nat) (M : Nat → Nat → BitVec 64) (w : World) (hT : Tab w) (hM : MemW w R N C M) :
    Calls Tryd.prog 17 #[.pointer (some ⟨R, 0, none⟩), .agg #[.bool b0, .bool b1, .bool b2, .bool b3, .bool b4, .bool b5, .bool b6, .bool b7, .bool b8, .bool b9, .bool b10, .bool b11, .int .u64 (F.toNat : Int), .int .u64 ((p * 4096 + 8 * i : Nat) : Int)], .int .i64 k, .bool tagged] w fun e w' => e = .returned (.agg #[.bool b0, .bool b1, .bool b2, .bool b3, .bool b4, .bool b5, .bool true, .bool (markD b7 k), .bool b8, .bool b9, .bool (markC b10 k tagged), .bool b11, .int .u64 (F.toNat : Int), .int .u64 ((p * 4096 + 8 * i : Nat) : Int)]) ∧ MemW w' R N C (if sameQ b6 b7 b10 k tagged = true then M else putM M p i (markW b0 b1 b2 b3 b4 b5 b6 b7 b8 b9 b10 b11 k tagged F)) ∧ Out N (p * 4100) w w' := by
  have hst : ∀ pb fb W, Tab W → MemW W R N C M → W.cell? ⟨pb, 0, none⟩ = some (.pointer (some ⟨R, 0, none⟩)) → W.cell? ⟨fb, 13, none⟩ = some (.int .u64 ((p * 4096 + 8 * i : Nat) : Int)) → Calls Tryd.prog 39 #[.agg #[.bool b0, .bool b1, .bool b2, .bool b3, .bool b4, .bool b5, .bool true, .bool (markD b7 k), .bool b8, .bool b9, .bool (markC b10 k tagged), .bool b11, .int .u64 (F.toNat : Int)], .pointer (some ⟨pb, 0, none⟩), .pointer (some ⟨fb, 0, none⟩)] W fun e w' => e = .returned (.tuple #[]) ∧ MemW w' R N C (putM M p i (markW b0 b1 b2 b3 b4 b5 b6 b7 b8 b9 b10 b11 k tagged F)) ∧ Out N (p * 4100) W w' :=
    fun pb fb W h1 h2 h3 h4 => store_mark b0 b1 b2 b3 b4 b5 true (markD b7 k) b8 b9 (markC b10 k tagged) b11 R N C (p * 4100) pb fb M _ _ _ _ (fun W h => word_any b0 b1 b2 b3 b4 b5 true (markD b7 k) b8 b9 (markC b10 k tagged) b11 F W h) (fun W h => store_w hp hi hC _ R N M W h) W h1 h2 h3 h4
  have hne := ne_mark b0 b1 b2 b3 b4 b5 b6 b7 b8 b9 b10 b11 (markD b7 k) (markC b10 k tagged) (F.toNat : Int)
  have hm := fun W => marked_any b0 b1 b2 b3 b4 b5 b6 b7 b8 b9 b10 b11 tagged (F.toNat : Int) k W
  cases hs : sameQ b6 b7 b10 k tagged with
  | true =>
    rw [show (b6 && (markD b7 k == b7) && (markC b10 k tagged == b10)) = true from hs] at hne
    rw [if_pos rfl]
    exact mark_let b0 b1 b2 b3 b4 b5 b6 b7 b8 b9 b10 b11 b0 b1 b2 b3 b4 b5 true (markD b7 k) b8 b9 (markC b10 k tagged) b11 tagged R N C (p * 4100) M M _ _ k (by omega) hm (fun pb fb W h1 h2 h3 h4 => replaced_no b0 b1 b2 b3 b4 b5 b6 b7 b8 b9 b10 b11 b0 b1 b2 b3 b4 b5 true (markD b7 k) b8 b9 (markC b10 k tagged) b11 R N C (p * 4100) pb fb M _ _ _ (by omega) (fun W a b c d => hst pb fb W a b c d) hne W h1 h2 h3 h4) w hT hM
  | false =>
    rw [show (b6 && (markD b7 k == b7) && (markC b10 k tagged == b10)) = false from hs] at hne
    rw [if_neg (by simp)]
    exact mark_let b0 b1 b2 b3 b4 b5 b6 b7 b8 b9 b10 b11 b0 b1 b2 b3 b4 b5 true (markD b7 k) b8 b9 (markC b10 k tagged) b11 tagged R N C (p * 4100) M _ _ _ k (by omega) hm (fun pb fb W h1 h2 h3 h4 => replaced_yes b0 b1 b2 b3 b4 b5 b6 b7 b8 b9 b10 b11 b0 b1 b2 b3 b4 b5 true (markD b7 k) b8 b9 (markC b10 k tagged) b11 R N C (p * 4100) pb fb M _ _ _ (by omega) (fun W a b c d => hst pb fb W a b c d) hne W h1 h2 h3 h4) w hT hM
end Go.Proofs.YtnookalplejneaaDoor
