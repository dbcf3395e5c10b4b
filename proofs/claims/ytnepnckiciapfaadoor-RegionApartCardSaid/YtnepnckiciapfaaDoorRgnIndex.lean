/-
  When two reservations, two spans are the same; slices.Index of reservations.
-/
import Derived.Test.YtnepnckiciapfaaDoorRgnClone
import Derived.Laws.StructEq
import Derived.DeepKeys
import Derived.Test.YtnepnckiciapfaaDoorTail2
import Derived.Deep.DeepCutAuto
namespace Go.Proofs.YtnepnckiciapfaaDoor
open Go.RowKit RgnMath

theorem eqi_s (a b a2 b2 : Int) : ∀ W, (Op.equalIn 10000 24 (.agg #[.int .u64 a, .int .u64 b]) (.agg #[.int .u64 a2, .int .u64 b2])).run Tryd.prog W = .ok (decide (a = a2) && decide (b = b2)) W := by
  intro W
  by_cases h1 : a = a2 <;> by_cases h2 : b = b2 <;> simp [go_sem, h1, h2]
theorem eq_s (a b a2 b2 : Int) : ∀ W, (binOp .eql 24 (.agg #[.int .u64 a, .int .u64 b]) (.agg #[.int .u64 a2, .int .u64 b2])).run Tryd.prog W = .ok (.bool (decide (a = a2) && decide (b = b2))) W := by
  intro W
  rw [run_eql_struct, eqi_s]
  rfl
theorem ne_s (a b a2 b2 : Int) : ∀ W, (binOp .neq 24 (.agg #[.int .u64 a, .int .u64 b]) (.agg #[.int .u64 a2, .int .u64 b2])).run Tryd.prog W = .ok (.bool (!(decide (a = a2) && decide (b = b2)))) W := by
  intro W
  rw [run_neq_struct, eqi_s]
  rfl
def same3 (a b k a2 b2 k2 : Int) : Bool := decide (a = a2) && decide (b = b2) && decide (k = k2)
set_option maxHeartbeats 1000000 in
theorem eqi_g (a b k a2 b2 k2 : Int) : ∀ W, (Op.equalIn 10000 41 (.agg #[.int .u64 a, .int .u64 b, .int .i64 k]) (.agg #[.int .u64 a2, .int .u64 b2, .int .i64 k2])).run Tryd.prog W = .ok (same3 a b k a2 b2 k2) W := by
  intro W
  unfold same3
  by_cases h1 : a = a2 <;> by_cases h2 : b = b2 <;> by_cases h3 : k = k2 <;> simp [go_sem, h1, h2, h3]
theorem eq_g (a b k a2 b2 k2 : Int) : ∀ W, (binOp .eql 41 (.agg #[.int .u64 a, .int .u64 b, .int .i64 k]) (.agg #[.int .u64 a2, .int .u64 b2, .int .i64 k2])).run Tryd.prog W = .ok (.bool (same3 a b k a2 b2 k2)) W := by
  intro W
  rw [run_eql_struct, eqi_g]
  rfl
theorem ne_g (a b k a2 b2 k2 : Int) : ∀ W, (binOp .neq 41 (.agg #[.int .u64 a, .int .u64 b, .int .i64 k]) (.agg #[.int .u64 a2, .int .u64 b2, .int .i64 k2])).run Tryd.prog W = .ok (.bool (!same3 a b k a2 b2 k2)) W := by
  intro W
  rw [run_neq_struct, eqi_g]
  rfl
theorem same3_rg (r s : Rg) : same3 (r.b : Int) (r.t : Int) (r.k : Int) (s.b : Int) (s.t : Int) (s.k : Int) = decide (r = s) := by
  unfold same3
  obtain ⟨b, t, k⟩ := r
  obtain ⟨b2, t2, k2⟩ := s
  by_cases h1 : b = b2 <;> by_cases h2 : t = t2 <;> by_cases h3 : k = k2 <;> simp [h1, h2, h3] <;> omega
/-- The place, or -1. -/
def idxI : Option Nat → Int
  | some i => (i : Int)
  | none => -1

set_option maxHeartbeats 2000000 in
theorem index_nil (b t k : Int) (w : World) : Calls Tryd.prog 22 #[.slice none 0 0, .agg #[.int .u64 b, .int .u64 t, .int .i64 k]] w (Makes (.int .i64 (-1)) w) := by
  go_enter Tryd.func22, Tryd.ntmps22
  go_wp2
  go_loopw [8] (fun i wr => i = .int .i64 0 ∧ Below w.heap.size w wr) (fun _ _ => 0)
  case atStart => exact ⟨rfl, bw_alloc (Below.refl _ _) _⟩
  case round =>
    obtain ⟨rfl, hb⟩ := hrel
    go_wp2
    go_ret
    exact ⟨rfl, hb⟩

set_option maxHeartbeats 4000000 in
theorem index_row (g c : Nat) (L : List Rg) (r : Rg) (w : World) (hn : L.length ≤ 1000) (hrow : Row w g (cellsL L)) :
    Calls Tryd.prog 22 #[.slice (some ⟨g, 0, none⟩) L.length c, .agg #[.int .u64 (r.b : Int), .int .u64 (r.t : Int), .int .i64 (r.k : Int)]] w (Makes (.int .i64 (idxI (idxF L r))) w) := by
  have EQ := hide (fun s : Rg => eqi_g (r.b : Int) (r.t : Int) (r.k : Int) (s.b : Int) (s.t : Int) (s.k : Int))
  have HS := hide (fun s : Rg => same3_rg r s)
  have A := hide hrow
  obtain ⟨R, hR⟩ : ∃ R, R = idxI (idxF L r) := ⟨_, rfl⟩
  rw [← hR]
  clear hrow
  obtain ⟨n, hN⟩ : ∃ n, n = L.length := ⟨_, rfl⟩
  have N := hide hN
  have HR := hide hR
  rw [← hN] at hn ⊢
  clear hN hR
  generalize hB : (r.b : Int) = B at *
  generalize hT : (r.t : Int) = T at *
  generalize hK : (r.k : Int) = K at *
  clear hB hT hK
  go_enter Tryd.func22, Tryd.ntmps22
  go_wp2
  go_loopw [8] (fun i wr => ∃ j : Nat, j ≤ n ∧ i = .int .i64 (j : Int) ∧ Below w.heap.size w wr ∧ Row wr w.heap.size [.int .u64 B, .int .u64 T, .int .i64 K] ∧ Row wr g (cellsL L) ∧ Hid (∀ k, k < j → L[k]? ≠ some r)) (fun i _ => n - (intOf i).toNat)
  case atStart => exact ⟨0, by omega, rfl, bw_alloc (Below.refl _ _) _, row_new rfl rfl, k_al _ A.out, hide (fun k hk => by omega)⟩
  case round =>
    obtain ⟨j, hj, rfl, hb, hc, hg, no⟩ := hrel
    have c0 := hc 0 _ rfl
    have c1 := hc 1 _ rfl
    have c2 := hc 2 _ rfl
    rcases Nat.lt_or_eq_of_le hj with hlt | rfl
    · have hlt2 : j < L.length := by rw [← N.out]; exact hlt
      obtain ⟨s, hs⟩ : ∃ s, L[j]? = some s := ⟨L[j], by simp [hlt2]⟩
      obtain ⟨d0, d1, d2⟩ := row_at hg hs
      have he := EQ.out s
      rw [HS.out s] at he
      have HG := hide hg
      have HC := hide hc
      have S := hide hs
      clear hg hc hs
      generalize (s.b : Int) = B2 at *
      generalize (s.t : Int) = T2 at *
      generalize (s.k : Int) = K2 at *
      by_cases hrs : r = s
      · rw [decide_eq_true hrs] at he
        have HI : R = (j : Int) := by
          rw [HR.out, idx_is (by rw [S.out, hrs]) no.out]
          rfl
        subst HI
        clear hrs
        go_upto_region 4 with fail
        go_quiet (fail)
        go_wp2
        go_ret
        exact ⟨rfl, below_drewN hb _⟩
      · rw [decide_eq_false hrs] at he
        have no2 : ∀ k, k < j + 1 → L[k]? ≠ some r := fun k hk => by
          rcases Nat.lt_or_eq_of_le (Nat.le_of_lt_succ hk) with h1 | rfl
          · exact no.out k h1
          · rw [S.out]
            intro e
            injection e with e
            exact hrs e.symm
        have NO2 := hide no2
        clear no2 hrs
        go_upto_region 4 with fail
        go_quiet (fail)
        go_wp2
        go_roundw
        case rel => exact ⟨j + 1, by omega, by go_num, below_drewN hb _, k_dr _ HC.out, k_dr _ HG.out, NO2⟩
        case measure => simp [intOf]; omega
    · have HI : R = -1 := by
        rw [HR.out]
        cases hq : idxF L r with
        | none => rfl
        | some i => exact absurd (idx_some hq) (no.out i (by rw [N.out]; exact idx_lt hq))
      subst HI
      go_wp2
      go_ret
      exact ⟨rfl, hb⟩

theorem index_any (v : Value) (L : List Rg) (r : Rg) (w : World) (hn : L.length ≤ 1000) (h : Lst w v L) :
    Calls Tryd.prog 22 #[v, .agg #[.int .u64 (r.b : Int), .int .u64 (r.t : Int), .int .i64 (r.k : Int)]] w (Makes (.int .i64 (idxI (idxF L r))) w) := by
  rcases h with ⟨rfl, rfl⟩ | ⟨g, c, rfl, _, _, _, h5⟩
  · exact index_nil _ _ _ w
  · exact index_row g c L r w hn h5
end Go.Proofs.YtnepnckiciapfaaDoor
