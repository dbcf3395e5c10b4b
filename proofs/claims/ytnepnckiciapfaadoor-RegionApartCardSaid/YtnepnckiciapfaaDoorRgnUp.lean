/-
  sort.Search over a test that is false below a place and true from there on; above.
-/
import Derived.Test.YtnepnckiciapfaaDoorRgnLib
import Derived.Test.YtnepnckiciapfaaDoorTail2
import Derived.Deep.DeepCutAuto
import Derived.Deep.LoopGhost
namespace Go.Proofs.YtnepnckiciapfaaDoor
open Go.RowKit RgnMath

set_option maxHeartbeats 4000000 in
theorem search_any (cb : Array Value) (n k : Nat) (hk : k ≤ n) (hn : n ≤ 1000) (w : World)
    (hf : ∀ W, Below w.heap.size w W → ∀ i : Nat, i < n → Calls Tryd.prog 32 (#[.int .i64 (i : Int)] ++ cb) W fun e W' => e = .returned (.bool (decide (k ≤ i))) ∧ Below W.heap.size W W') :
    Calls Tryd.prog 31 #[.int .i64 (n : Int), .func (.func 32) #[] cb] w (Makes (.int .i64 (k : Int)) w) := by
  have HF := hide hf
  clear hf
  go_enter Tryd.func31, Tryd.ntmps31
  go_wp2
  go_loopg [5, 6] n (fun kx s5 s6 wr => ∃ (lo hi : Nat), s5 = .int .i64 (lo : Int) ∧ s6 = .int .i64 (hi : Int) ∧ lo ≤ k ∧ k ≤ hi ∧ hi ≤ n ∧ hi - lo ≤ kx ∧ Below w.heap.size w wr)
  case atStart => exact ⟨0, n, rfl, rfl, by omega, hk, by omega, by omega, Below.refl _ _⟩
  case round =>
    obtain ⟨lo, hi, rfl, rfl, h1, h2, h3, hg, hb⟩ := hrel
    by_cases hlt : lo < hi
    · have hc := HF.out wr hb ((lo + hi) / 2) (by omega)
      rw [show (((lo + hi) / 2 : Nat) : Int) = ((lo : Int) + (hi : Int)) / 2 by omega] at hc
      by_cases hp : k ≤ (lo + hi) / 2
      · rw [decide_eq_true hp] at hc
        go_wp2_with (go_at_call 32; refine hc.mono ?_; rintro e w' ⟨rfl, hb1⟩)
        go_roundg ((lo + hi) / 2 - lo)
        case measure => omega
        case rel => exact ⟨lo, (lo + hi) / 2, rfl, by rw [show ((lo : Int) + (hi : Int)) / 2 = (((lo + hi) / 2 : Nat) : Int) by omega], h1, hp, by omega, Nat.le_refl _, bw_behind hb1 hb⟩
      · rw [decide_eq_false hp] at hc
        go_wp2_with (go_at_call 32; refine hc.mono ?_; rintro e w' ⟨rfl, hb1⟩)
        go_roundg (hi - ((lo + hi) / 2 + 1))
        case measure => omega
        case rel => exact ⟨(lo + hi) / 2 + 1, hi, by rw [show ((lo : Int) + (hi : Int)) / 2 + 1 = (((lo + hi) / 2 + 1 : Nat) : Int) by omega], rfl, by omega, h2, h3, Nat.le_refl _, bw_behind hb1 hb⟩
    · obtain rfl : lo = k := by omega
      go_wp2
      go_ret
      exact ⟨rfl, hb⟩

set_option maxHeartbeats 2000000 in
/-- The closure: is the address below the top of reservation i? -/
theorem up_test (ab mb g c i : Nat) (a : Int) (L : List Rg) (r : Rg) (W : World) (hr : L[i]? = some r) (hc : L.length ≤ c) (ca : W.cell? ⟨ab, 0, none⟩ = some (.int .u64 a)) (cm : W.cell? ⟨mb, 2, none⟩ = some (.slice (some ⟨g, 0, none⟩) L.length c)) (hrow : Row W g (cellsL L)) :
    Calls Tryd.prog 32 #[.int .i64 (i : Int), .pointer (some ⟨ab, 0, none⟩), .pointer (some ⟨mb, 0, none⟩)] W fun e W' => e = .returned (.bool (decide (a < (r.t : Int)))) ∧ Below W.heap.size W W' := by
  obtain ⟨_, d1, _⟩ := row_at hrow hr
  have hi : i < L.length := (List.getElem?_eq_some_iff.1 hr).1
  have hi2 : (i : Int) < (L.length : Int) := by omega
  have hi3 : ¬ (c = i) := by omega
  clear hrow hr
  generalize (r.t : Int) = T at *
  generalize L.length = n at *
  go_enter Tryd.func32, Tryd.ntmps32
  go_upto_region 1 with fail
  go_quiet (fail)
  go_wp2
  go_ret
  exact ⟨rfl, below_drewN (Below.refl _ _) _⟩

theorem search_at (ab mb rb rt a : Nat) (v : Value) (L : List Rg) (hA : Asc L) (hn : L.length ≤ 1000) (w : World) (h : Lst w v L) (ca : w.cell? ⟨ab, 0, none⟩ = some (.int .u64 (a : Int))) (cm : Row w mb [.int .u64 (rb : Int), .int .u64 (rt : Int), v]) :
    Calls Tryd.prog 31 #[.int .i64 (L.length : Int), .func (.func 32) #[] #[.pointer (some ⟨ab, 0, none⟩), .pointer (some ⟨mb, 0, none⟩)]] w (Makes (.int .i64 (aboveF L a : Int)) w) := by
  refine search_any _ _ _ (above_le L a) hn w (fun W hb i hi => ?_)
  rcases h with ⟨rfl, rfl⟩ | ⟨g, c, rfl, h1, h2, h3, h4⟩
  · simp at hi
  · have c2 := k_be hb cm 2 _ rfl
    obtain ⟨r, hr⟩ : ∃ r, L[i]? = some r := ⟨L[i], by simp [hi]⟩
    have := up_test ab mb g c i (a : Int) L r W hr h1 (c_be hb ca) c2 (k_be hb h4)
    have e : decide ((a : Int) < (r.t : Int)) = decide (aboveF L a ≤ i) := by
      rw [← above_test hA hr]
      exact decide_eq_decide.2 (by omega)
    rw [e] at this
    exact this

set_option maxHeartbeats 2000000 in
theorem above_any (rb rt a : Nat) (v : Value) (L : List Rg) (hA : Asc L) (hn : L.length ≤ 1000) (w : World) (h : Lst w v L) :
    Calls Tryd.prog 20 #[.agg #[.int .u64 (rb : Int), .int .u64 (rt : Int), v], .int .u64 (a : Int)] w (Makes (.int .i64 (aboveF L a : Int)) w) := by
  have C : Hid (∀ (ab mb : Nat) W, Lst W v L → W.cell? ⟨ab, 0, none⟩ = some (.int .u64 (a : Int)) → Row W mb [.int .u64 (rb : Int), .int .u64 (rt : Int), v] → Calls Tryd.prog 31 #[.int .i64 (L.length : Int), .func (.func 32) #[] #[.pointer (some ⟨ab, 0, none⟩), .pointer (some ⟨mb, 0, none⟩)]] W (Makes (.int .i64 (aboveF L a : Int)) W)) :=
    hide (fun ab mb W h1 h2 h3 => search_at ab mb rb rt a v L hA hn W h1 h2 h3)
  have H := hide h
  have hmf : ∀ (fn : Fn) (first cap : Array Value) (w : World), (Instr.makeFunc fn first cap).run Tryd.prog w = .ok (.func fn first cap) w := fun _ _ _ _ => rfl
  obtain ⟨sa, c, hv⟩ : ∃ sa c, v = .slice sa L.length c := by
    rcases h with ⟨rfl, rfl⟩ | ⟨g, c, rfl, _⟩
    · exact ⟨none, 0, rfl⟩
    · exact ⟨_, c, rfl⟩
  subst hv
  clear h hA hn
  generalize (aboveF L a : Int) = K at *
  generalize (rb : Int) = RB at *
  generalize (rt : Int) = RT at *
  generalize (a : Int) = A at *
  go_enter Tryd.func20, Tryd.ntmps20
  go_wp2_with (go_at_call 31; refine Calls.mono (C.out _ _ _ (lst_al _ (lst_al _ H.out)) (by simp [go_sem]) (k_al _ (row_new rfl rfl))) ?_; rintro e w1 ⟨rfl, hb1⟩)
  go_ret
  exact ⟨rfl, bw_behind hb1 (bw_alloc (bw_alloc (Below.refl _ _) _) _)⟩
end Go.Proofs.YtnepnckiciapfaaDoor
