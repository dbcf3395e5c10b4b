/-
  What Get and With answer of any set, and Without, Count, Any, Aligned.
-/
import Derived.Test.YtnookalplejneaaDoorTag2
namespace Go.Proofs.YtnookalplejneaaDoor
open Go.RowKit Words

theorem gran_split {i : Int} (h : granB i = true) : ∃ q r : Nat, q < 4 ∧ r < 64 ∧ i.toNat = 64 * q + r ∧ 0 ≤ i ∧ i < 256 ∧ i.tdiv 64 = (q : Int) ∧ i / 64 = (q : Int) ∧ i.tmod 64 = (r : Int) ∧ i % 64 = (r : Int) := by
  have h2 : 0 ≤ i ∧ i < 256 := by simpa [granB] using h
  refine ⟨(i / 64).toNat, (i % 64).toNat, by omega, by omega, by omega, h2.1, h2.2, ?_, by omega, ?_, by omega⟩
  · rw [Int.tdiv_eq_ediv_of_nonneg h2.1]; omega
  · rw [Int.tmod_eq_emod_of_nonneg h2.1]; omega
theorem gran_nat {k : Nat} (h : k < 256) : granB (k : Int) = true := by unfold granB; simp; omega
theorem four_of {q : Nat} (h : q < 4) : q = 0 ∨ q = 1 ∨ q = 2 ∨ q = 3 := by omega
theorem bit_nz {x : BitVec 64} (h : x ≠ 0) : (x.toNat : Int) ≠ 0 ∧ ((x.toNat : Int) == 0) = false := by
  have h1 : x.toNat ≠ 0 := fun e => h (BitVec.eq_of_toNat_eq e)
  have h2 : (x.toNat : Int) ≠ 0 := by omega
  exact ⟨h2, by simp [h1]⟩
theorem gran_yes {i : Int} (h : granB i = true) : ∀ W, Calls Tryd.prog 61 #[.int .i64 i] W (Quiet (.bool true) W) := fun W => by
  have := gran_any i W
  rw [h] at this
  exact this
theorem gran_no {i : Int} (h : granB i = false) : ∀ W, Calls Tryd.prog 61 #[.int .i64 i] W (Quiet (.bool false) W) := fun W => by
  have := gran_any i W
  rw [h] at this
  exact this
theorem gran_lohi {i : Int} (h : granB i = false) : i < 0 ∨ 0 ≤ i ∧ 255 < i := by
  have h2 : ¬ (0 ≤ i ∧ i < 256) := by simpa [granB] using h
  omega
theorem shr_num (s : BitVec 256) (q r : Nat) (hr : r < 64) : bits .and .u64 (((wd s q).toNat : Int) / 2 ^ (r : Int).toNat) 1 = if s.getLsbD (64 * q + r) then 1 else 0 := by
  rw [Int.toNat_natCast, shr_bv]
  have := and_bv (wd s q >>> r) 1#64
  rw [word_shr s q r hr] at this
  exact this.trans (by split <;> rfl)

theorem with_any (s : BitVec 256) (i : Int) (tag : Bool) (w : World) : Calls Tryd.prog 60 #[.agg #[.int .u64 ((wd s 0).toNat : Int), .int .u64 ((wd s 1).toNat : Int), .int .u64 ((wd s 2).toNat : Int), .int .u64 ((wd s 3).toNat : Int)], .int .i64 i, .bool tag] w (Makes (.agg #[.int .u64 ((wd (withS s i tag) 0).toNat : Int), .int .u64 ((wd (withS s i tag) 1).toNat : Int), .int .u64 ((wd (withS s i tag) 2).toNat : Int), .int .u64 ((wd (withS s i tag) 3).toNat : Int)]) w) := by
  unfold withS
  cases hg : granB i with
  | false =>
    rw [if_neg (by simp)]
    exact with_none _ _ _ _ _ _ (gran_no hg) w
  | true =>
    rw [if_pos rfl]
    obtain ⟨q, r, hq, hr, hn, h0, h1, hd, hde, hm, hme⟩ := gran_split hg
    have c1 := gran_yes hg
    have c2 := fun W => bit_any i r hm hr W
    rw [hn]
    cases tag with
    | true =>
      rcases four_of hq with rfl | rfl | rfl | rfl
      · rw [wd_put_yes s 0 r (by omega) hr, wd_put_else s 0 r 1 _ (by omega) hr (by omega), wd_put_else s 0 r 2 _ (by omega) hr (by omega), wd_put_else s 0 r 3 _ (by omega) hr (by omega)]
        exact with_0_true _ _ _ _ _ _ _ c1 c2 h0 h1 hd hde (or_bv _ _) w
      · rw [wd_put_else s 1 r 0 _ (by omega) hr (by omega), wd_put_yes s 1 r (by omega) hr, wd_put_else s 1 r 2 _ (by omega) hr (by omega), wd_put_else s 1 r 3 _ (by omega) hr (by omega)]
        exact with_1_true _ _ _ _ _ _ _ c1 c2 h0 h1 hd hde (or_bv _ _) w
      · rw [wd_put_else s 2 r 0 _ (by omega) hr (by omega), wd_put_else s 2 r 1 _ (by omega) hr (by omega), wd_put_yes s 2 r (by omega) hr, wd_put_else s 2 r 3 _ (by omega) hr (by omega)]
        exact with_2_true _ _ _ _ _ _ _ c1 c2 h0 h1 hd hde (or_bv _ _) w
      · rw [wd_put_else s 3 r 0 _ (by omega) hr (by omega), wd_put_else s 3 r 1 _ (by omega) hr (by omega), wd_put_else s 3 r 2 _ (by omega) hr (by omega), wd_put_yes s 3 r (by omega) hr]
        exact with_3_true _ _ _ _ _ _ _ c1 c2 h0 h1 hd hde (or_bv _ _) w
    | false =>
      rcases four_of hq with rfl | rfl | rfl | rfl
      · rw [wd_put_no s 0 r (by omega) hr, wd_put_else s 0 r 1 _ (by omega) hr (by omega), wd_put_else s 0 r 2 _ (by omega) hr (by omega), wd_put_else s 0 r 3 _ (by omega) hr (by omega)]
        exact with_0_false _ _ _ _ _ _ _ c1 c2 h0 h1 hd hde (andNot_bv _ _) w
      · rw [wd_put_else s 1 r 0 _ (by omega) hr (by omega), wd_put_no s 1 r (by omega) hr, wd_put_else s 1 r 2 _ (by omega) hr (by omega), wd_put_else s 1 r 3 _ (by omega) hr (by omega)]
        exact with_1_false _ _ _ _ _ _ _ c1 c2 h0 h1 hd hde (andNot_bv _ _) w
      · rw [wd_put_else s 2 r 0 _ (by omega) hr (by omega), wd_put_else s 2 r 1 _ (by omega) hr (by omega), wd_put_no s 2 r (by omega) hr, wd_put_else s 2 r 3 _ (by omega) hr (by omega)]
        exact with_2_false _ _ _ _ _ _ _ c1 c2 h0 h1 hd hde (andNot_bv _ _) w
      · rw [wd_put_else s 3 r 0 _ (by omega) hr (by omega), wd_put_else s 3 r 1 _ (by omega) hr (by omega), wd_put_else s 3 r 2 _ (by omega) hr (by omega), wd_put_no s 3 r (by omega) hr]
        exact with_3_false _ _ _ _ _ _ _ c1 c2 h0 h1 hd hde (andNot_bv _ _) w

end Go.Proofs.YtnookalplejneaaDoor