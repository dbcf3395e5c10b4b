/-
  What the document's Evict answers.
-/
import Derived.Test.YtikdoknfcikfgaaTlbRef2
import Derived.Deep.RegionLaw
namespace Go.Proofs.Ytikdoknfcikfgaa
open Go.RowKit

def delF (k : Nat) (L : List Ln) : List Ln := L.take k ++ L.drop (k + 1)
theorem evict_split (L : List Ln) (k : Nat) (hk : k < L.length) : ([] ++ L.take k ++ L.drop (k + 1)).length = L.length - 1 := by simp; omega

set_option maxRecDepth 100000 in
set_option maxHeartbeats 8000000 in
theorem revict_let (g cap n k : Nat) (p P1 P2 : Int) (L : List Ln) (hn : L.length = n) (hl : n ≤ 1000) (hc : n ≤ cap) (hk : k < n) (_n0 : ((n : Int) == 0) = false) (_p1 : p.tmod (n : Int) = P1) (_p2 : IntKind.i64.wrap P1 = P1) (_p4 : IntKind.i64.wrap (P1 + (n : Int)) = P2) (_p6 : P2.tmod (n : Int) = (k : Int)) (_p7 : IntKind.i64.wrap (k : Int) = (k : Int)) (w : World) (hg : g < w.heap.size) (hr : Row w g (refF L)) :
    Calls Try.prog 17 #[.slice (some ⟨g, 0, none⟩) n cap, .int .i64 p] w (GivesT (delF k L) w) := by
  have SS := cell_same
  have LB' := ltB_add
  have LS := ltB_self
  have LA' := alloc_reads
  have LH := alloc_holds
  have s1 : Src w w.heap.size (.slice (some ⟨g, 0, none⟩) k cap) k (L.take k) := src_take hr hg k (by omega)
  have s2 : Src w w.heap.size (.slice (if cap = k + 1 then some ⟨g, 0, none⟩ else some ⟨g, (k + 1) * 3, none⟩) (n - (k + 1)) (cap - (k + 1))) (n - (k + 1)) (L.drop (k + 1)) := src_drop hr hg (k + 1) n hn.symm (by omega) hc
  have S1 := hide s1
  have S2 := hide s2
  have HN := hide hn
  clear s1 s2 hr hn
  have c1 : (0 : Int) ≤ (k : Int) := by omega
  have c2 : (k : Int) ≤ (cap : Int) := by omega
  have c3 : (k : Int) ≤ (n : Int) := by omega
  have c4 : IntKind.i64.wrap ((k : Int) + 1) = (k : Int) + 1 := by rw [IntKind.wrap_i64]; omega
  have c5 : (0 : Int) ≤ (k : Int) + 1 := by omega
  have c6 : (k : Int) + 1 ≤ (n : Int) := by omega
  go_enter Try.func17, Try.ntmps17
  go_wp2_with fail
  go_region_law (first | ((refine step_append_src rfl (.tmp 20) (.tmp 23) rfl (w.heap.size) (0) (w.heap.size) (k) (.slice (some ⟨w.heap.size, 0, none⟩) 0 0) (.slice (some ⟨g, 0, none⟩) k cap) ([]) (L.take k) (by rfl) (by rfl) ?_ ?_ ?_ ?_ ?_ ?_); (focus ((repeat (first | with_reducible assumption | with_reducible refine own_dr _ ?_ | with_reducible refine own_d1 ?_ | (with_reducible refine own_new ?_ ?_; (focus (first | rfl | (simp; done))); (focus (first | omega | (simp; done) | (simp; omega)))) | with_reducible refine own_al _ ?_)); done)); (focus (refine src_bn ?_ (S1.out); repeat (first | with_reducible assumption | with_reducible exact Below.refl _ _ | with_reducible refine Below.drew ?_ | with_reducible refine below_drewN ?_ _ | with_reducible refine bw_alloc ?_ _ | (with_reducible refine bw_set ?_ ?_ _; focus (dsimp only; omega)) | (with_reducible apply bw_behind; with_reducible assumption) | (with_reducible refine below_behindN (by with_reducible assumption) ?_ ?_; focus omega)))); (focus omega); (focus omega); (focus (first | omega | (simp; done) | (simp; omega))); intro v1 w1 hown1 hb1 _; have hz1 := hb1.size; (try simp only [s_d1] at hz1); (try simp only [size_al] at hz1)) | ((refine step_append_src rfl (.tmp 24) (.tmp 28) rfl (w.heap.size) (0 + k) (w.heap.size) (n - (k + 1)) (v1) (.slice (if cap = k + 1 then some ⟨g, 0, none⟩ else some ⟨g, (k + 1) * 3, none⟩) (n - (k + 1)) (cap - (k + 1))) ([] ++ L.take k) (L.drop (k + 1)) (by rfl) (by rfl) ?_ ?_ ?_ ?_ ?_ ?_); (focus ((repeat (first | with_reducible assumption | with_reducible refine own_dr _ ?_ | with_reducible refine own_d1 ?_ | (with_reducible refine own_new ?_ ?_; (focus (first | rfl | (simp; done))); (focus (first | omega | (simp; done) | (simp; omega)))) | with_reducible refine own_al _ ?_)); done)); (focus (refine src_bn ?_ (S2.out); repeat (first | with_reducible assumption | with_reducible exact Below.refl _ _ | with_reducible refine Below.drew ?_ | with_reducible refine below_drewN ?_ _ | with_reducible refine bw_alloc ?_ _ | (with_reducible refine bw_set ?_ ?_ _; focus (dsimp only; omega)) | (with_reducible apply bw_behind; with_reducible assumption) | (with_reducible refine below_behindN (by with_reducible assumption) ?_ ?_; focus omega)))); (focus omega); (focus omega); (focus (first | omega | (simp; done) | (simp; omega))); intro v2 w2 hown2 hb2 _; have hz2 := hb2.size; (try simp only [s_d1] at hz2); (try simp only [size_al] at hz2)))
  have hO := hide hown2
  have hH : (L.take k).length + (L.drop (k + 1)).length = 0 + k + (n - (k + 1)) := by rw [List.length_take, List.length_drop, HN.out]; omega
  clear hown2 hown1
  go_wp2_with fail
  all_goals
    go_ret
    refine ⟨_, rfl, rb_own (Nat.le_refl _) hO.out ?_, ?_⟩
    · show _ = (L.take k ++ L.drop (k + 1)).length
      rw [List.length_append]
      omega
    repeat (first | with_reducible assumption | with_reducible exact Below.refl _ _ | with_reducible refine Below.drew ?_ | with_reducible refine below_drewN ?_ _ | with_reducible refine bw_alloc ?_ _ | (with_reducible refine bw_set ?_ ?_ _; focus (dsimp only; omega)) | (with_reducible apply bw_behind; with_reducible assumption) | (with_reducible refine below_behindN (by with_reducible assumption) ?_ ?_; focus omega))
theorem revict_any (v : Value) (p : Int) (k : Nat) (L : List Ln) (hl : L.length ≤ 1000) (h0 : 0 < L.length) (hk : p % (L.length : Int) = (k : Int)) (w : World) (h : RefT w v L) :
    Calls Try.prog 17 #[v, .int .i64 p] w (GivesT (delF k L) w) := by
  rcases h.form with ⟨rfl, rfl⟩ | ⟨g, cap, rfl, hg, hc, hr⟩
  · simp at h0
  · obtain ⟨n, hn⟩ : ∃ n, L.length = n := ⟨_, rfl⟩
    rw [hn] at hl h0 hk hc ⊢
    have e1 : 0 ≤ p % (n : Int) := Int.emod_nonneg _ (by omega)
    have e2 : p % (n : Int) < (n : Int) := Int.emod_lt_of_pos _ (by omega)
    have t1 : (p.tmod (n : Int)).natAbs < n := by
      rw [Int.natAbs_tmod]
      exact Nat.mod_lt _ (by omega)
    have t2 : p.tmod (n : Int) = p - n * p.tdiv n := Int.tmod_def _ _
    obtain ⟨P1, hP1⟩ : ∃ P1, p.tmod (n : Int) = P1 := ⟨_, rfl⟩
    rw [hP1] at t1
    have t3 : -(n : Int) < P1 ∧ P1 < (n : Int) := by omega
    have t4 : (P1 + (n : Int)).tmod (n : Int) = (k : Int) := by
      rw [Int.tmod_eq_emod_of_nonneg (by omega), Int.add_emod_right, ← hP1, t2, Int.sub_mul_emod_self_left, hk]
    have t5 : ∀ X : Int, -10000 < X → X < 10000 → IntKind.i64.wrap X = X := fun X h1 h2 => by rw [IntKind.wrap_i64]; omega
    exact revict_let g cap n k p P1 (P1 + (n : Int)) L hn hl hc (by omega) (by simp; omega) hP1 (t5 _ (by omega) (by omega)) (t5 _ (by omega) (by omega)) t4 (t5 _ (by omega) (by omega)) w hg hr
set_option maxRecDepth 100000 in
set_option maxHeartbeats 1000000 in
theorem revict_none (v : Value) (p : Int) (w : World) (h : RefT w v []) : Calls Try.prog 17 #[v, .int .i64 p] w (Makes v w) := by
  rcases h.form with ⟨rfl, _⟩ | ⟨g, cap, rfl, hg, hc, hr⟩
  · go_enter Try.func17, Try.ntmps17
    go_wp2_with fail
    go_ret
    exact ⟨rfl, Below.refl _ _⟩
  · clear hr h
    go_enter Try.func17, Try.ntmps17
    go_wp2_with fail
    go_ret
    exact ⟨rfl, Below.refl _ _⟩
end Go.Proofs.Ytikdoknfcikfgaa
