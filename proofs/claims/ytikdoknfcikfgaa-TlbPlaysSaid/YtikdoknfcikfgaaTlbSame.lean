/-
  What same answers of the same lines; the document's Put for any buffer.
-/
import Derived.Test.YtikdoknfcikfgaaTlbMath3
import Derived.BigQuiet
namespace Go.Proofs.Ytikdoknfcikfgaa
open Go.RowKit

theorem rput_any (v : Value) (a n x : Int) (q : Nat) (L : List Ln) (hn : n % 4 = (q : Int)) (h0 : 0 ≤ n) (hL : ∀ l ∈ L, 0 ≤ l.2.1) (hl : L.length ≤ 900) (w : World) (h : RefT w v L) :
    Calls Try.prog 8 #[v, .agg #[.int .u64 a, .int .u64 n, .int .u64 x]] w (GivesT (putF (q : Int) (a, n, x) L) w) :=
  rput_let v a n x (q : Int) L (rdropF a n L) (fun l hl => hL l (List.mem_filter.1 hl).1) h0 hn (Nat.le_trans (List.length_filter_le _ _) hl) _ rfl w h (fun W hW => rdrop_any v a n L (by omega) W hW)

set_option maxRecDepth 100000 in
set_option maxHeartbeats 8000000 in
theorem same_some (A g cap m : Nat) (L : List Ln) (hm : L.length = m) (hl : m ≤ 1000) (w : World) (hA : w.rangeAt A 0 (flatC L)) (hr : Row w g (refF L)) :
    Calls Try.prog 18 #[.slice (some ⟨A, 0, none⟩) m m, .slice (some ⟨g, 0, none⟩) m cap] w (Quiet (.bool true) w) := by
  have SS := cell_same
  have LB' := ltB_add
  have LS := ltB_self
  have LA' := alloc_reads
  have LH := alloc_holds
  have HA := hide hA
  have HR := hide hr
  have HM := hide hm
  have e0 : ((m : Int) != (m : Int)) = false := by simp
  clear hA hr hm
  go_enter Try.func18, Try.ntmps18
  go_wp2_with fail
  go_loopw [5] (fun i wr => ∃ k : Nat, k ≤ m ∧ i = .int .i64 (k : Int) ∧ ∃ d, wr = w.drewN d) (fun i _ => m - (intOf i).toNat)
  case atStart => exact ⟨0, by omega, rfl, 0, rfl⟩
  case round =>
    obtain ⟨k, hk, rfl, d, rfl⟩ := hrel
    by_cases hlt : k < m
    · obtain ⟨⟨xa, xn, xx⟩, hx⟩ : ∃ x, L[k]? = some x := ⟨_, List.getElem?_eq_getElem (by rw [HM.out]; exact hlt)⟩
      have a0 : w.cell? ⟨A, k * 16, none⟩ = some (.int .u64 xa) := flat_at HA.out _ hx 0 _ rfl
      have a1 : w.cell? ⟨A, k * 16 + 1, none⟩ = some (.int .u64 xn) := flat_at HA.out _ hx 1 _ rfl
      have a2 : w.cell? ⟨A, k * 16 + 15, none⟩ = some (.int .u64 xx) := flat_at HA.out _ hx 15 _ rfl
      have c0 : w.cell? ⟨g, k * 3, none⟩ = some (.int .u64 xa) := HR.out _ _ (refF_at L k 0 _ hx (by omega))
      have c1 : w.cell? ⟨g, k * 3 + 1, none⟩ = some (.int .u64 xn) := HR.out _ _ (refF_at L k 1 _ hx (by omega))
      have c2 : w.cell? ⟨g, k * 3 + 2, none⟩ = some (.int .u64 xx) := HR.out _ _ (refF_at L k 2 _ hx (by omega))
      have b1 : (k : Int) < (m : Int) := by omega
      have b2 : ¬ ((m : Int) ≤ (k : Int)) := by omega
      have b3 : (0 : Int) ≤ (k : Int) := by omega
      clear hx
      go_wp2_with fail
      go_quiet (fail)
      go_wp2_with fail
      go_roundw
      case rel => exact ⟨k + 1, by omega, by go_num, _, rfl⟩
      case measure => simp [intOf]; omega
    · obtain rfl : k = m := by omega
      have b1 : ¬ ((k : Int) < (k : Int)) := by omega
      go_wp2_with fail
      go_ret
      exact ⟨rfl, d, rfl⟩
set_option maxRecDepth 100000 in
set_option maxHeartbeats 1000000 in
theorem same_nil (A : Nat) (w : World) :
    Calls Try.prog 18 #[.slice (some ⟨A, 0, none⟩) 0 0, .slice none 0 0] w (Quiet (.bool true) w) := by
  go_enter Try.func18, Try.ntmps18
  go_wp2_with fail
  refine wp_loop_rounds 1 ?_
  rw [rounds_succ]
  go_wp2_with fail
  go_ret
  exact ⟨rfl, 0, rfl⟩
theorem same_any (A m : Nat) (v : Value) (L : List Ln) (hm : L.length = m) (hl : m ≤ 1000) (w : World) (hA : w.rangeAt A 0 (flatC L)) (hr : RefT w v L) :
    Calls Try.prog 18 #[.slice (some ⟨A, 0, none⟩) m m, v] w (Quiet (.bool true) w) := by
  rcases hr.form with ⟨rfl, rfl⟩ | ⟨g, cap, rfl, _, _, hrow⟩
  · subst hm
    exact same_nil A w
  · rw [hm]
    exact same_some A g cap m L hm hl w hA hrow
end Go.Proofs.Ytikdoknfcikfgaa
