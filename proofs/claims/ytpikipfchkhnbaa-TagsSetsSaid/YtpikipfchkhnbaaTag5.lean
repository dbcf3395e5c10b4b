/-
  What All answers, and the document's: a slice of its own that holds the set's granules in order.
-/
import Derived.Test.YtpikipfchkhnbaaTag4
import Derived.Laws.AppendOwn
namespace Go.Proofs.Ytpikipfchkhnbaa
open Go.RowKit Words

theorem own_be {W W' : World} {base : Nat} {e : TypeId} {size : Nat} {v : Value} {n : Nat} {xs : List Value} (h : W.ownsRow base e size v n xs) (hb : Below W.heap.size W W') : W'.ownsRow base e size v n xs :=
  ⟨h.1, h.2.imp id fun ⟨g, cap, cur, h1, h2, h3, h4⟩ => ⟨g, cap, cur, h1, h2, (hb.block g (by
    rcases Nat.lt_or_ge g W.heap.size with hl | hl
    · exact hl
    · rw [Array.getElem?_eq_none hl] at h3
      cases h3)).trans h3, h4⟩⟩
theorem row_base {W : World} {base : Nat} {e : TypeId} {size k : Nat} {v : Value} {xs : List Value} (h : W.ownsRow base e size v k xs) (j : Nat) (ej : v.ownBlock = some j) : base ≤ j := by
  rcases h.2 with ⟨rfl, _⟩ | ⟨g, cap, cur, rfl, hb, _, _⟩
  · simp [Value.ownBlock] at ej
  · obtain rfl : g = j := by simpa [Value.ownBlock] using ej
    exact hb
theorem infoInt : (Try.prog.info? 3).map (fun i => (i.zero, i.size, i.bytes)) = some (some (.int .i64 0), 1, 8) := by kernel_rfl
/-- The value is a slice of a block behind base that holds the list; the empty list: the slice of none. -/
def Listed (W : World) (base : Nat) (v : Value) (l : List Int) : Prop :=
  (l = [] ∧ v = .slice none 0 0) ∨ (l ≠ [] ∧ ∃ g cap, v = .slice (some ⟨g, 0, none⟩) l.length cap ∧ base ≤ g ∧ l.length ≤ cap ∧ cap ≤ maxLen ∧ Row W g (l.map (Value.int .i64)))
theorem Listed.be {W W' : World} {base : Nat} {v : Value} {l : List Int} (h : Listed W base v l) (hb : Below W.heap.size W W') : Listed W' base v l :=
  h.imp id fun ⟨h0, g, cap, h1, h2, h3, h4, h5⟩ => ⟨h0, g, cap, h1, h2, h3, h4, k_be hb h5⟩
theorem listed_of {W : World} {base : Nat} {v : Value} {l : List Int} (h : W.ownsRow base 3 1 v l.length (l.map (Value.int .i64))) (h0 : l = [] → v = .slice none 0 0) : Listed W base v l := by
  by_cases he : l = []
  · exact .inl ⟨he, h0 he⟩
  · refine .inr ⟨he, ?_⟩
    rcases h.2 with ⟨_, hn⟩ | ⟨g, cap, cur, hv, hb, hh, hc, hm, hs, ht⟩
    · exact absurd (List.length_eq_zero_iff.1 hn) he
    · refine ⟨g, cap, hv, hb, hc, hm, ?_⟩
      intro i u hu
      rw [← ht, List.getElem?_take] at hu
      split at hu
      · have hu2 : cur[i]? = some u := by simpa using hu
        simp [World.cell?, hh, hu2]
      · cases hu

set_option maxRecDepth 100000 in
set_option maxHeartbeats 4000000 in
theorem all_let (A0 A1 A2 A3 : Int) (f : Nat → Bool) (hc : ∀ k : Nat, k < 256 → ∀ W, Calls Try.prog 11 #[.agg #[.int .u64 A0, .int .u64 A1, .int .u64 A2, .int .u64 A3], .int .i64 (k : Int)] W (Makes (.bool (f k)) W)) (w : World) :
    Calls Try.prog 7 #[.agg #[.int .u64 A0, .int .u64 A1, .int .u64 A2, .int .u64 A3]] w fun e W' => ∃ v, e = .returned v ∧ Listed W' w.heap.size v (lst f 256) ∧ Below w.heap.size w W' := by
  have HC := hide hc
  clear hc
  obtain ⟨i0, hi, hz0, hz1, hz2⟩ := info_parts infoInt
  obtain ⟨W0, hW0⟩ : ∃ W0, W0 = w.alloc (.cells #[.int .u64 A0, .int .u64 A1, .int .u64 A2, .int .u64 A3] 24) := ⟨_, rfl⟩
  have hsz0 : W0.heap.size = w.heap.size + 1 := by rw [hW0]; simp
  have hB0 : Below w.heap.size w W0 := by rw [hW0]; exact bw_alloc (Below.refl _ _) _
  have k0 : W0.cell? ⟨w.heap.size, 0, none⟩ = some (.int .u64 A0) := by rw [hW0]; simp [go_sem]
  have k1 : W0.cell? ⟨w.heap.size, 1, none⟩ = some (.int .u64 A1) := by rw [hW0]; simp [go_sem]
  have k2 : W0.cell? ⟨w.heap.size, 2, none⟩ = some (.int .u64 A2) := by rw [hW0]; simp [go_sem]
  have k3 : W0.cell? ⟨w.heap.size, 3, none⟩ = some (.int .u64 A3) := by rw [hW0]; simp [go_sem]
  have H0 := hide hW0
  have HS := hide hsz0
  have HB := hide hB0
  have HK := hide (And.intro k0 (And.intro k1 (And.intro k2 k3)))
  clear hW0 hsz0 hB0 k0 k1 k2 k3
  go_enter Try.func7, Try.ntmps7
  go_wp2
  go_loopw [3, 5] (fun s i wr => ∃ k : Nat, k ≤ 256 ∧ i = .int .i64 k ∧ wr.ownsRow (w.heap.size + 1) 3 1 s (lst f k).length ((lst f k).map (Value.int .i64)) ∧ (lst f k = [] → s = .slice none 0 0) ∧ Below (w.heap.size + 1) W0 wr) (fun _ i _ => 256 - (intOf i).toNat)
  case atStart => exact ⟨0, by omega, rfl, World.ownsRow_nil _ _ _ _, fun _ => rfl, by rw [H0.out]; exact Below.refl _ _⟩
  case round s =>
    obtain ⟨k, hk, rfl, hown, hnil, hbel⟩ := hrel
    by_cases h2 : k < 256
    · have hsz : w.heap.size + 1 ≤ wr.heap.size := by have h := hbel.size; rw [HS.out] at h; exact h
      have hln := cnt_le f k
      rw [← lst_length] at hln
      have c0 := (hbel.cell (p := ⟨w.heap.size, 0, none⟩) (Nat.lt_succ_self _)).trans HK.out.1
      have c1 := (hbel.cell (p := ⟨w.heap.size, 1, none⟩) (Nat.lt_succ_self _)).trans HK.out.2.1
      have c2 := (hbel.cell (p := ⟨w.heap.size, 2, none⟩) (Nat.lt_succ_self _)).trans HK.out.2.2.1
      have c3 := (hbel.cell (p := ⟨w.heap.size, 3, none⟩) (Nat.lt_succ_self _)).trans HK.out.2.2.2
      have hC := HC.out k h2
      cases hb : f k with
      | true =>
        rw [hb] at hC
        have CG := hide hC
        have HH := hide (lst_hit f k hb)
        clear hb hC
        go_wp2_with (first | (go_at_call 11; (with_reducible first | refine (CG.out _).mono ?_); rintro e w2 ⟨rfl, hb2⟩; have ho2 := own_be hown hb2; have hsz2 := hb2.size) | (at_builtin; refine wpList_append_own _ rfl _ _ 25 rfl (w.heap.size + 1) 3 i0 (.int .i64 0) 1 8 Try.underlying25 hi hz0 hz1 hz2 rfl (by decide) _ _ _ rfl (ho2.alloc _) ⟨w2.heap.size, 0, none⟩ 1 1 [.int .i64 (k : Int)] rfl rfl (cell_one_new _ _ _) (fun x hx => by simp at hx; subst hx; rfl) (by unfold maxLen; omega) (by omega) (by simp; omega) ?_; intro v' w3 hown' hgrow3 hnil3))
        go_roundw
        case rel => exact ⟨k + 1, by omega, by go_num, by rw [HH.out]; simpa using hown', fun h => (by rw [HH.out] at h; simp at h), ((below_behind hbel (by rw [HS.out]; exact Nat.le_refl _) hb2).alloc (by omega) _).grown hgrow3 (by simp; omega) (row_base ho2)⟩
        case measure => simp [intOf]; omega
      | false =>
        rw [hb] at hC
        have CG := hide hC
        have HH := hide (lst_miss f k hb)
        clear hb hC
        go_wp2_with (first | (go_at_call 11; (with_reducible first | refine (CG.out _).mono ?_); rintro e w2 ⟨rfl, hb2⟩; have ho2 := own_be hown hb2; have hsz2 := hb2.size))
        go_roundw
        case rel => exact ⟨k + 1, by omega, by go_num, by rw [HH.out]; exact ho2, fun h => hnil (by rw [HH.out] at h; exact h), below_behind hbel (by rw [HS.out]; exact Nat.le_refl _) hb2⟩
        case measure => simp [intOf]; omega
    · obtain rfl : k = 256 := by omega
      go_wp2
      go_ret
      refine ⟨_, rfl, ?_, HB.out.trans (hbel.mono (Nat.le_succ _))⟩
      rcases listed_of hown hnil with h | ⟨h0, g, cap, h1, h2, h3⟩
      · exact .inl h
      · exact .inr ⟨h0, g, cap, h1, by omega, h3⟩

set_option maxRecDepth 100000 in
set_option maxHeartbeats 4000000 in
theorem rall_let (A0 A1 A2 A3 : Int) (f : Nat → Bool) (hc : ∀ k : Nat, k < 256 → ∀ W, Calls Try.prog 12 #[.agg #[.int .u64 A0, .int .u64 A1, .int .u64 A2, .int .u64 A3], .int .i64 (k : Int)] W (Makes (.bool (f k)) W)) (w : World) :
    Calls Try.prog 8 #[.agg #[.int .u64 A0, .int .u64 A1, .int .u64 A2, .int .u64 A3]] w fun e W' => ∃ v, e = .returned v ∧ Listed W' w.heap.size v (lst f 256) ∧ Below w.heap.size w W' := by
  have HC := hide hc
  clear hc
  obtain ⟨i0, hi, hz0, hz1, hz2⟩ := info_parts infoInt
  obtain ⟨W0, hW0⟩ : ∃ W0, W0 = w.alloc (.cells #[.int .u64 A0, .int .u64 A1, .int .u64 A2, .int .u64 A3] 23) := ⟨_, rfl⟩
  have hsz0 : W0.heap.size = w.heap.size + 1 := by rw [hW0]; simp
  have hB0 : Below w.heap.size w W0 := by rw [hW0]; exact bw_alloc (Below.refl _ _) _
  have k0 : W0.cell? ⟨w.heap.size, 0, none⟩ = some (.int .u64 A0) := by rw [hW0]; simp [go_sem]
  have k1 : W0.cell? ⟨w.heap.size, 1, none⟩ = some (.int .u64 A1) := by rw [hW0]; simp [go_sem]
  have k2 : W0.cell? ⟨w.heap.size, 2, none⟩ = some (.int .u64 A2) := by rw [hW0]; simp [go_sem]
  have k3 : W0.cell? ⟨w.heap.size, 3, none⟩ = some (.int .u64 A3) := by rw [hW0]; simp [go_sem]
  have H0 := hide hW0
  have HS := hide hsz0
  have HB := hide hB0
  have HK := hide (And.intro k0 (And.intro k1 (And.intro k2 k3)))
  clear hW0 hsz0 hB0 k0 k1 k2 k3
  go_enter Try.func8, Try.ntmps8
  go_wp2
  go_loopw [3, 4] (fun s i wr => ∃ k : Nat, k ≤ 256 ∧ i = .int .i64 k ∧ wr.ownsRow (w.heap.size + 1) 3 1 s (lst f k).length ((lst f k).map (Value.int .i64)) ∧ (lst f k = [] → s = .slice none 0 0) ∧ Below (w.heap.size + 1) W0 wr) (fun _ i _ => 256 - (intOf i).toNat)
  case atStart => exact ⟨0, by omega, rfl, World.ownsRow_nil _ _ _ _, fun _ => rfl, by rw [H0.out]; exact Below.refl _ _⟩
  case round s =>
    obtain ⟨k, hk, rfl, hown, hnil, hbel⟩ := hrel
    by_cases h2 : k < 256
    · have hsz : w.heap.size + 1 ≤ wr.heap.size := by have h := hbel.size; rw [HS.out] at h; exact h
      have hln := cnt_le f k
      rw [← lst_length] at hln
      have c0 := (hbel.cell (p := ⟨w.heap.size, 0, none⟩) (Nat.lt_succ_self _)).trans HK.out.1
      have c1 := (hbel.cell (p := ⟨w.heap.size, 1, none⟩) (Nat.lt_succ_self _)).trans HK.out.2.1
      have c2 := (hbel.cell (p := ⟨w.heap.size, 2, none⟩) (Nat.lt_succ_self _)).trans HK.out.2.2.1
      have c3 := (hbel.cell (p := ⟨w.heap.size, 3, none⟩) (Nat.lt_succ_self _)).trans HK.out.2.2.2
      have hC := HC.out k h2
      cases hb : f k with
      | true =>
        rw [hb] at hC
        have CG := hide hC
        have HH := hide (lst_hit f k hb)
        clear hb hC
        go_wp2_with (first | (go_at_call 12; (with_reducible first | refine (CG.out _).mono ?_); rintro e w2 ⟨rfl, hb2⟩; have ho2 := own_be hown hb2; have hsz2 := hb2.size) | (at_builtin; refine wpList_append_own _ rfl _ _ 25 rfl (w.heap.size + 1) 3 i0 (.int .i64 0) 1 8 Try.underlying25 hi hz0 hz1 hz2 rfl (by decide) _ _ _ rfl (ho2.alloc _) ⟨w2.heap.size, 0, none⟩ 1 1 [.int .i64 (k : Int)] rfl rfl (cell_one_new _ _ _) (fun x hx => by simp at hx; subst hx; rfl) (by unfold maxLen; omega) (by omega) (by simp; omega) ?_; intro v' w3 hown' hgrow3 hnil3))
        go_roundw
        case rel => exact ⟨k + 1, by omega, by go_num, by rw [HH.out]; simpa using hown', fun h => (by rw [HH.out] at h; simp at h), ((below_behind hbel (by rw [HS.out]; exact Nat.le_refl _) hb2).alloc (by omega) _).grown hgrow3 (by simp; omega) (row_base ho2)⟩
        case measure => simp [intOf]; omega
      | false =>
        rw [hb] at hC
        have CG := hide hC
        have HH := hide (lst_miss f k hb)
        clear hb hC
        go_wp2_with (first | (go_at_call 12; (with_reducible first | refine (CG.out _).mono ?_); rintro e w2 ⟨rfl, hb2⟩; have ho2 := own_be hown hb2; have hsz2 := hb2.size))
        go_roundw
        case rel => exact ⟨k + 1, by omega, by go_num, by rw [HH.out]; exact ho2, fun h => hnil (by rw [HH.out] at h; exact h), below_behind hbel (by rw [HS.out]; exact Nat.le_refl _) hb2⟩
        case measure => simp [intOf]; omega
    · obtain rfl : k = 256 := by omega
      go_wp2
      go_ret
      refine ⟨_, rfl, ?_, HB.out.trans (hbel.mono (Nat.le_succ _))⟩
      rcases listed_of hown hnil with h | ⟨h0, g, cap, h1, h2, h3⟩
      · exact .inl h
      · exact .inr ⟨h0, g, cap, h1, by omega, h3⟩

theorem getS_nat (s : BitVec 256) {k : Nat} (h : k < 256) : getS s (k : Int) = s.getLsbD k := by unfold getS; rw [gran_nat h]; simp
/-- The granules of a set, in order. -/
def lstS (s : BitVec 256) : List Int := lst (fun i => s.getLsbD i) 256
theorem all_any (s : BitVec 256) (w : World) : Calls Try.prog 7 #[.agg #[.int .u64 ((wd s 0).toNat : Int), .int .u64 ((wd s 1).toNat : Int), .int .u64 ((wd s 2).toNat : Int), .int .u64 ((wd s 3).toNat : Int)]] w fun e W' => ∃ v, e = .returned v ∧ Listed W' w.heap.size v (lstS s) ∧ Below w.heap.size w W' :=
  all_let _ _ _ _ _ (fun k hk W => by have := get_any s (k : Int) W; rw [getS_nat s hk] at this; exact this) w
theorem rall_any (s : BitVec 256) (w : World) : Calls Try.prog 8 #[.agg #[.int .u64 ((wd s 0).toNat : Int), .int .u64 ((wd s 1).toNat : Int), .int .u64 ((wd s 2).toNat : Int), .int .u64 ((wd s 3).toNat : Int)]] w fun e W' => ∃ v, e = .returned v ∧ Listed W' w.heap.size v (lstS s) ∧ Below w.heap.size w W' :=
  rall_let _ _ _ _ _ (fun k hk W => by have := rget_any s (k : Int) W; rw [getS_nat s hk] at this; exact this) w
end Go.Proofs.Ytpikipfchkhnbaa
