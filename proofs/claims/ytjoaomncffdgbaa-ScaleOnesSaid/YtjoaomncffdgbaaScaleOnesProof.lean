/-
  ScaleOnes holds: for every x and most the law returns true and turns nothing that was there.
-/
import Derived.Test.YtjoaomncffdgbaaOnesRefWalks
import Derived.Test.YtjoaomncffdgbaaLawFrame
import Derived.Deep.RegionHeld3
namespace Go.Proofs.Ytjoaomncffdgbaa.ScaleOnes
open Go.RowKit Words ScaleMath

theorem log1 (W : World) : Calls Try.prog 10 #[.int .u64 1] W fun e W' => e = .returned (.int .i64 0) ∧ Below W.heap.size W W' := by
  have := slog_any 1#64 W
  rw [show logI 1#64 = 0 by decide] at this
  exact this
theorem not_nil (first cap : Array Value) (W : World) : Sem.run Try.prog (binOp .eql 33 (.func (.func 23) first cap) .nilFunc) W = .ok (.bool false) W := by
  rfl
theorem row_cells {W : World} {base : Nat} {v : Value} {n : Nat} {L : List Int} (h : W.ownsRow base 3 1 v n (L.map (Value.int .i64))) :
    (v = .slice none 0 0 ∧ n = 0) ∨ ∃ g cap, v = .slice (some ⟨g, 0, none⟩) n cap ∧ base ≤ g ∧ g < W.heap.size ∧ n ≤ cap ∧ cap ≤ maxLen ∧ ∀ i (hi : i < L.length), W.cell? ⟨g, i, none⟩ = some (.int .i64 L[i]) := by
  rcases h.2 with h0 | ⟨g, cap, cur, rfl, hb, hg, hnc, hcm, hsz, htake⟩
  · exact .inl h0
  · refine .inr ⟨g, cap, rfl, hb, (Array.getElem?_eq_some_iff.1 hg).1, hnc, hcm, fun i hi => ?_⟩
    have hl : L.length = n := by have := h.1; simpa using this
    have e1 : cur[i]? = some (Value.int .i64 L[i]) := by
      have e2 : (cur.toList.take (n * 1))[i]? = some (Value.int .i64 L[i]) := by rw [htake]; simp [hi]
      rw [List.getElem?_take] at e2
      split at e2
      · simpa using e2
      · cases e2
    simp [World.cell?, hg, e1]
theorem lie_below {n : Nat} {W W' : World} {g : Nat} {L : List Int} (h : ∀ i (hi : i < L.length), W.cell? ⟨g, i, none⟩ = some (.int .i64 L[i])) (hb : Below n W W') (hg : g < n) :
    ∀ i (hi : i < L.length), W'.cell? ⟨g, i, none⟩ = some (.int .i64 L[i]) := fun i hi => (hb.cell (p := ⟨g, i, none⟩) hg).trans (h i hi)

theorem size_set (W : World) (p : Addr) (v : Value) : (W.setCell p v).heap.size = W.heap.size := by simp [World.setCell]
/-- The first and the last element's cells lie on behind a call. -/
def Held (w2 : World) (g n : Nat) (Z G : Int) (W : World) : Prop := W.cell? ⟨g, 0, none⟩ = some (.int .i64 Z) ∧ W.cell? ⟨g, n, none⟩ = some (.int .i64 G) ∧ Below w2.heap.size w2 W
theorem held_start {w2 : World} {g n nn : Nat} {Z G : Int} (h1 : w2.cell? ⟨g, 0, none⟩ = some (.int .i64 Z)) (h2 : w2.cell? ⟨g, n, none⟩ = some (.int .i64 G)) : Held w2 g n Z G (w2.drewN nn).drew :=
  ⟨h1, h2, (below_drewN (Below.refl _ _) nn).drew⟩
theorem held_step {w2 W W' : World} {g n : Nat} {Z G : Int} (hg : g < w2.heap.size) (h : Held w2 g n Z G W) (hb : Below W.heap.size W W') : Held w2 g n Z G W' :=
  have hg' : g < W.heap.size := Nat.lt_of_lt_of_le hg h.2.2.size
  ⟨(hb.cell (p := ⟨g, 0, none⟩) hg').trans h.1, (hb.cell (p := ⟨g, n, none⟩) hg').trans h.2.1, Frame.below_then h.2.2 hb⟩
/-- All that the law calls, over the list L of the indices. -/
structure Facts (x : BitVec 64) (L : List Int) (Z G E : Int) : Prop where
  collect : ∀ Bn w, Boxed w Bn 22 (.int .u64 (x.toNat : Int)) → Calls Try.prog 20 #[.func (.func 23) #[] #[.pointer (some ⟨Bn, 0, none⟩)]] w
      fun e W' => ∃ v, e = .returned v ∧ ((v = .slice none 0 0 ∧ L = []) ∨ 0 < L.length ∧ ∃ g cap, v = .slice (some ⟨g, 0, none⟩) L.length cap ∧ w.heap.size ≤ g ∧ g < W'.heap.size ∧ L.length ≤ cap ∧ cap ≤ maxLen ∧ ∀ i (hi : i < L.length), W'.cell? ⟨g, i, none⟩ = some (.int .i64 L[i])) ∧ Below w.heap.size w W'
  ones : ∀ w, Calls Try.prog 21 #[.int .u64 (x.toNat : Int)] w fun e W' => ∃ ad cap, e = .returned (.slice ad L.length cap) ∧ L.length ≤ cap ∧ Below w.heap.size w W'
  onesNil : L = [] → ∀ w, Calls Try.prog 21 #[.int .u64 (x.toNat : Int)] w fun e W' => e = .returned (.slice none 0 0) ∧ Below w.heap.size w W'
  zeros : ∀ w, Calls Try.prog 12 #[.int .u64 (x.toNat : Int)] w fun e W' => e = .returned (.int .i64 Z) ∧ Below w.heap.size w W'
  log : ∀ w, Calls Try.prog 10 #[.int .u64 (x.toNat : Int)] w fun e W' => e = .returned (.int .i64 G) ∧ Below w.heap.size w W'
  count : ∀ (Bn b c n₀ : Nat) (w : World), Boxed w Bn 22 (.int .u64 (x.toNat : Int)) → Boxed w b 3 (.int .i64 0) → Boxed w c 3 (.int .i64 E) → c ≠ b → n₀ ≤ b → Bn ≠ b → n₀ ≤ w.heap.size →
    Calls Try.prog 23 #[.func (.func 22) #[] #[.pointer (some ⟨b, 0, none⟩), .pointer (some ⟨c, 0, none⟩)], .pointer (some ⟨Bn, 0, none⟩)] w
      fun e W' => e = .returned (.tuple #[]) ∧ Boxed W' b 3 (.int .i64 (min (L.length : Int) (E + 1))) ∧ Boxed W' c 3 (.int .i64 E) ∧ (∀ j, j ≠ b → j < w.heap.size → W'.heap[j]? = w.heap[j]?) ∧ Below n₀ w W'
  sum : sumB L = x
  len : L.length ≤ 64
  next : ∀ i (h : i + 1 < L.length), L[i] < L[i + 1]
  range : ∀ i (h : i < L.length), 0 ≤ L[i] ∧ L[i] ≤ 63
  first : ∀ (h : 0 < L.length), L[0] = Z
  last : ∀ (h : 0 < L.length), L[L.length - 1] = G
theorem facts (x : BitVec 64) (E : Int) (h0 : 0 ≤ E) : ∃ L Z G, Facts x L Z G E := by
  refine ⟨onesL x, zerosI x, logI x, ?_, ?_, ?_, szeros_any x, slog_any x, ?_, sumB_all x, onesTo_length x 64, ones_next x, ones_range x, ?_, ?_⟩
  · intro Bn w h
    refine (collect_any x Bn w h).mono fun e W' ⟨v, he, hr, hnil, hb⟩ => ⟨v, he, ?_, hb⟩
    by_cases hn : onesL x = []
    · exact .inl ⟨hnil.2 hn, hn⟩
    · rcases row_cells hr with ⟨h1, _⟩ | h2
      · exact absurd (hnil.1 h1) hn
      · exact .inr ⟨List.length_pos_iff.2 hn, h2⟩
  · intro w
    refine (rones_any x w).mono fun e W' ⟨v, he, hr, _, hb⟩ => ?_
    rcases row_cells hr with ⟨rfl, hn⟩ | ⟨g, cap, rfl, _, _, hc, _⟩
    · exact ⟨none, 0, by rw [he, hn], by omega, hb⟩
    · exact ⟨_, _, he, hc, hb⟩
  · intro hn w
    exact (rones_any x w).mono fun e W' ⟨v, he, _, hnil, hb⟩ => ⟨by rw [he, hnil hn], hb⟩
  · intro Bn b c n₀ w h1 h2 h3 h4 h5 h6 h7
    exact ones_count x Bn b c n₀ E w h1 h2 h3 h4 h0 h5 h6 h7
  · intro h
    unfold zerosI
    rw [List.head?_eq_getElem?, List.getElem?_eq_getElem h]; rfl
  · intro h
    unfold logI
    rw [List.getLast?_eq_getElem?, List.getElem?_eq_getElem (by omega)]; rfl

set_option maxHeartbeats 1000000 in
theorem walk (x : BitVec 64) (a : Int) (w : World) :
    Calls Try.prog 5 #[.int .u64 (x.toNat : Int), .int .i64 a] w
      fun e w' => e = .returned (.bool true) ∧ Below w.heap.size w w' := by
  obtain ⟨E, hE, h0, h63⟩ : ∃ E, bits .and .i64 a 63 = E ∧ 0 ≤ E ∧ E ≤ 63 := ⟨_, rfl, low63 a⟩
  obtain ⟨L, Z, G, hF⟩ := facts x E h0
  have hnn := fun first cap W => not_nil first cap W
  have hX0 := Boxed.new (w.alloc (.cells #[.int .i64 a] 3)) 22 (.int .u64 (x.toNat : Int))
  have hA0 := (Boxed.new w 3 (.int .i64 a)).alloc (.cells #[.int .u64 (x.toNat : Int)] 22)
  have hB0 : Below w.heap.size w ((w.alloc (.cells #[.int .i64 a] 3)).alloc (.cells #[.int .u64 (x.toNat : Int)] 22)) := ((Below.refl _ w).alloc (Nat.le_refl _) _).alloc (by simp) _
  rw [World.size_alloc] at hX0
  have HX := hide hX0
  have HA := hide hA0
  have HF := hide hF
  have hsz2 : ((w.alloc (.cells #[.int .i64 a] 3)).alloc (.cells #[.int .u64 (x.toNat : Int)] 22)).heap.size = w.heap.size + 2 := by simp
  have HS := hide hsz2
  clear hX0 hF hA0 hsz2
  go_enter Try.func5, Try.ntmps5
  go_wp2_with (first | (go_at_call 19; (with_reducible refine (ones_any _ _).mono ?_); rintro e w1 ⟨rfl, rfl⟩) | (go_at_call 20; (with_reducible refine (HF.out.collect _ _ HX.out).mono ?_); rintro e w2 ⟨v, rfl, hv, hbel⟩))
  rw [HS.out] at hv hbel
  have hX := boxed_below HX.out hbel (by omega)
  have hA := boxed_below HA.out hbel (by omega)
  have hB := hB0.trans (hbel.mono (by omega))
  have hlen := HF.out.len
  clear hbel hB0
  rcases hv with ⟨rfl, rfl⟩ | ⟨hpos, g, cap, rfl, hg1, hg2, hcap, hmax, hcell⟩
  · have hx0 : x = 0#64 := HF.out.sum.symm
    have hx1 : (x.toNat : Int) = 0 := by rw [hx0]; rfl
    have co : ∀ W, Calls Try.prog 21 #[.int .u64 (x.toNat : Int)] W fun e W' => e = .returned (.slice none 0 0) ∧ Below W.heap.size W W' := HF.out.onesNil rfl
    have count0 : ∀ (Bn b c n₀ : Nat) (w : World), Boxed w Bn 22 (.int .u64 (x.toNat : Int)) → Boxed w b 3 (.int .i64 0) → Boxed w c 3 (.int .i64 E) → c ≠ b → n₀ ≤ b → Bn ≠ b → n₀ ≤ w.heap.size →
      Calls Try.prog 23 #[.func (.func 22) #[] #[.pointer (some ⟨b, 0, none⟩), .pointer (some ⟨c, 0, none⟩)], .pointer (some ⟨Bn, 0, none⟩)] w
        fun e W' => e = .returned (.tuple #[]) ∧ Boxed W' b 3 (.int .i64 (min (0 : Int) (E + 1))) ∧ Boxed W' c 3 (.int .i64 E) ∧ (∀ j, j ≠ b → j < w.heap.size → W'.heap[j]? = w.heap[j]?) ∧ Below n₀ w W' := HF.out.count
    have CO := hide co
    have C0 := hide count0
    have t1 : ((0 : Int) != (x.toNat : Int)) = false := by rw [hx1]; rfl
    have t2 : ((0 : Int) == (x.toNat : Int)) = true := by rw [hx1]; rfl
    clear co count0 hx0 hx1 hlen HF
    refine wp_loop_rounds 1 ?_
    rw [rounds_succ]
    go_wp2
    have hsome := Behind.any w2
    refine wp_region_behind w2 (by kernel_rfl) (by kernel_rfl) (Below.refl _ _) ?_
    repeat (go_big_quiet_step ((go_at_call 21; with_reducible exact Behind.call CO.out _)))
    refine wpQuiet_nil ?_
    rintro _ ⟨y, rfl⟩
    obtain ⟨w', hB3', hw'⟩ : ∃ W, Below w2.heap.size w2 W ∧ y.world = W := ⟨_, y.below, rfl⟩
    rw [hw']
    clear hw' y hsome
    have hB3 : Below w2.heap.size w2 w' := hB3'
    have hX3 := boxed_below hX hB3 hX.lt
    have hA3 := boxed_below hA hB3 hA.lt
    have hB4 := hB.trans (hB3.mono hB.size)
    have hlt3 := hA3.lt
    have hltX := hX3.lt
    clear hB3 t1 t2
    have hcA := hA3.cell
    have hfA := hA3.frozen
    have H1 := hide ((hX3.other (by omega : w.heap.size + 1 ≠ w.heap.size) (.int .i64 E)).alloc (.cells #[.int .i64 0] 3))
    have H3 := hide ((hA3.set (.int .i64 E)).alloc (.cells #[.int .i64 0] 3))
    have hsz4 : (w'.setCell ⟨w.heap.size, 0, none⟩ (.int .i64 E)).heap.size = w'.heap.size := size_set _ _ _
    have h2 := Boxed.new (w'.setCell ⟨w.heap.size, 0, none⟩ (.int .i64 E)) 3 (.int .i64 0)
    rw [hsz4] at h2
    have hcnt := C0.out (w.heap.size + 1) w'.heap.size w.heap.size w.heap.size _ H1.out h2 H3.out (by omega) (by omega) (by omega) (by rw [World.size_alloc, hsz4]; omega) -- count0
    have hmin : min (0 : Int) (E + 1) = 0 := by omega
    rw [hmin] at hcnt
    clear hmin
    have HCNT := hide hcnt
    have HB4 := hide (((hB4.setCell (p := ⟨w.heap.size, 0, none⟩) (Nat.le_refl _) (.int .i64 E)).alloc (by rw [hsz4]; omega) (.cells #[.int .i64 0] 3)))
    clear hcnt h2 hB4
    go_wp2_with (first | (go_at_call 23; (with_reducible refine (HCNT.out).mono ?_); rintro e w5 ⟨rfl, hb5, hc5, hk5, hbel5⟩; have c5 := hb5.cell; have d5 := hc5.cell) | (go_at_call 10; (with_reducible refine (log1 _).mono ?_); rintro e w6 ⟨rfl, hbel6⟩))
    all_goals go_ret
    all_goals exact ⟨rfl, Frame.below_then (HB4.out.trans hbel5) hbel6⟩
  · have HK := hide hcell
    clear hcell
    go_loopw [7, 8] (fun s i wr => ∃ k : Nat, k ≤ L.length ∧ i = .int .i64 k ∧ s = .int .u64 ((sumB (L.take k)).toNat : Int) ∧ ∃ nn, wr = w2.drewN nn) (fun _ i _ => L.length - (intOf i).toNat)
    case atStart => exact ⟨0, Nat.zero_le _, rfl, rfl, 0, rfl⟩
    case round =>
      obtain ⟨k, hk, rfl, rfl, nn, rfl⟩ := hrel
      by_cases hlt : k < L.length
      · have hc := HK.out k hlt
        obtain ⟨hr1, hr2⟩ := HF.out.range k hlt
        have ht := sumB_take L k hlt
        have hadd := add_bv (sumB (L.take k)) (1#64 <<< (L[k]).toNat)
        have hpow : IntKind.u64.wrap (2 ^ (L[k]).toNat) = ((1#64 <<< (L[k]).toNat).toNat : Int) := by
          have e1 : (2 : Int) ^ (L[k]).toNat = ((1#64).toNat : Int) * 2 ^ (L[k]).toNat := by simp
          rw [e1, shl_bv]
        have HT := hide ht
        clear ht
        generalize sumB (L.take k) = S0 at *
        by_cases hk0 : k = 0
        · subst hk0
          generalize L[0] = y at *
          generalize 1#64 <<< y.toNat = P at *
          have e0 : ((0 : Nat) : Int) = 0 := rfl
          rw [e0]
          go_wp2
          have t1 : decide (y < 0) = false := decide_eq_false (by omega)
          have t2 : decide (63 < y) = false := decide_eq_false (by omega)
          go_quiet (fail)
          go_wp2
          go_roundw
          case rel => exact ⟨1, by omega, by go_num, by rw [HT.out, ← add_bv, IntKind.wrap_u64], _, rfl⟩
          case measure => simp [intOf]; omega
        · have hk1 : k - 1 < L.length := by omega
          have hc1 := HK.out (k - 1) hk1
          have hlt2 := HF.out.next (k - 1) (by omega)
          have e2 : L[k - 1 + 1]'(by omega) = L[k] := by congr 1; omega
          rw [e2] at hlt2
          clear e2
          generalize L[k - 1] = y0 at *
          generalize L[k] = y at *
          generalize 1#64 <<< y.toNat = P at *
          have hw : IntKind.i64.wrap ((k : Int) - 1) = ((k - 1 : Nat) : Int) := by rw [IntKind.wrap_i64]; omega
          go_wp2
          have t1 : decide (y < 0) = false := decide_eq_false (by omega)
          have t2 : decide (63 < y) = false := decide_eq_false (by omega)
          have t3 : decide (y ≤ y0) = false := decide_eq_false (by omega)
          have t4 : decide (0 < (k : Int)) = true := decide_eq_true (by omega)
          have t5 : decide (0 < k) = true := decide_eq_true (by omega)
          go_quiet (fail)
          go_wp2
          go_roundw
          case rel => exact ⟨k + 1, by omega, by go_num, by rw [HT.out, ← add_bv, IntKind.wrap_u64], _, rfl⟩
          case measure => simp [intOf]; omega
      · obtain rfl : k = L.length := by omega
        rw [List.take_length, HF.out.sum]
        · have hf := HF.out.first hpos
          have hl := HF.out.last hpos
          have hcf := HK.out 0 hpos
          have hcl := HK.out (L.length - 1) (by omega)
          rw [hf] at hcf
          rw [hl] at hcl
          obtain ⟨m, hm⟩ : ∃ m, L.length - 1 = m := ⟨_, rfl⟩
          rw [hm] at hcl
          have hw : IntKind.i64.wrap ((L.length : Int) - 1) = (m : Int) := by rw [IntKind.wrap_i64]; omega
          have hm0 : (0 : Int) ≤ (m : Int) := by omega
          have hm1 : (m : Int) < (L.length : Int) := by omega
          clear hf hl hm
          go_wp2
          have t1 : decide (0 < (L.length : Int)) = true := decide_eq_true (by omega)
          have t2 : decide (0 < L.length) = true := decide_eq_true (by omega)
          go_region_held3 (fun w' => w'.cell? ⟨g, 0, none⟩ = some (.int .i64 Z) ∧ w'.cell? ⟨g, m, none⟩ = some (.int .i64 G) ∧ Below w2.heap.size w2 w') (first | assumption | exact held_start hcf hcl | exact held_step hg2 (by assumption) (by assumption)) (first | (go_at_call 12; (with_reducible refine (HF.out.zeros _).mono ?_); rintro e w' ⟨rfl, hb⟩) | (go_at_call 10; (with_reducible refine (HF.out.log _).mono ?_); rintro e w' ⟨rfl, hb⟩) | (go_at_call 21; (with_reducible refine (HF.out.ones _).mono ?_); rintro e w' ⟨ad, cp, rfl, hcp, hb⟩))
          have hS : Held w2 g m Z G w' := by assumption
          have hB3 : Below w2.heap.size w2 w' := hS.2.2
          have hX3 := boxed_below hX hB3 hX.lt
          have hA3 := boxed_below hA hB3 hA.lt
          have hB4 := hB.trans (hB3.mono hB.size)
          have hlt3 := hA3.lt
          have hltX := hX3.lt
          clear hB3 hcf hcl hw hm0 hm1 t1 t2 hS
          have hcA := hA3.cell
          have hfA := hA3.frozen
          have H1 := hide ((hX3.other (by omega : w.heap.size + 1 ≠ w.heap.size) (.int .i64 E)).alloc (.cells #[.int .i64 0] 3))
          have H3 := hide ((hA3.set (.int .i64 E)).alloc (.cells #[.int .i64 0] 3))
          have hsz4 : (w'.setCell ⟨w.heap.size, 0, none⟩ (.int .i64 E)).heap.size = w'.heap.size := size_set _ _ _
          have h2 := Boxed.new (w'.setCell ⟨w.heap.size, 0, none⟩ (.int .i64 E)) 3 (.int .i64 0)
          rw [hsz4] at h2
          have hcnt := HF.out.count (w.heap.size + 1) w'.heap.size w.heap.size w.heap.size _ H1.out h2 H3.out (by omega) (by omega) (by omega) (by rw [World.size_alloc, hsz4]; omega)
          have HCNT := hide hcnt
          have HB4 := hide (((hB4.setCell (p := ⟨w.heap.size, 0, none⟩) (Nat.le_refl _) (.int .i64 E)).alloc (by rw [hsz4]; omega) (.cells #[.int .i64 0] 3)))
          clear hcnt h2 hB4
          go_wp2_with (first | (go_at_call 23; (with_reducible refine (HCNT.out).mono ?_); rintro e w5 ⟨rfl, hb5, hc5, hk5, hbel5⟩; have c5 := hb5.cell; have d5 := hc5.cell) | (go_at_call 10; (with_reducible refine (log1 _).mono ?_); rintro e w6 ⟨rfl, hbel6⟩))
          all_goals go_ret
          all_goals exact ⟨rfl, Frame.below_then (HB4.out.trans hbel5) hbel6⟩

open Go.ChangeShapes Go.WideShapes Go.ChangeAt
theorem walks : Frame.Walks 5 Try.f5 := by
  intro H enc W base args ds ps hval hA
  rw [Try.params5] at hA hval
  obtain ⟨v0, v1, d0, d1, p0, p1, hargs, rfl, rfl, h0, h1⟩ := trodAll_two hA
  obtain rfl : args = #[v0, v1] := by cases args; simp_all
  obtain ⟨x0, rfl, rfl, rfl, w0⟩ := open_int Try.underlying22 (hval 0 22 v0 rfl rfl) h0
  obtain ⟨x1, rfl, rfl, rfl, w1⟩ := open_int Try.underlying3 (hval 1 3 v1 rfl rfl) h1
  obtain ⟨X0, rfl⟩ := Frame.wf_u64 w0
  exact walk X0 x1 W
set_option maxRecDepth 100000 in
theorem proved : Rows.ScaleOnesSaid :=
  OpenClaim.holds_of_wide 5 Try.f5 rfl rfl rfl rfl rfl rfl rfl ⟨rfl, rfl, rfl, rfl, rfl⟩ rfl rfl rfl rfl rfl (by kernel_rfl) Try.func5 (by kernel_rfl)
    (of_decide_eq_true (by kernel_rfl)) (by unfold Func.isWrapper; first | (rw [if_pos (by decide +kernel)]; kernel_rfl) | (rw [if_neg (by decide +kernel)]; exact ⟨rfl, rfl⟩))
    (fun os started H enc _ => Frame.lift os started H enc _ _ Rows.scaleOnesSpec 4 (by kernel_rfl) Try.func5 Try.underlying4 (by kernel_rfl) rfl (by kernel_rfl)
      (fun ds h => by match ds, h with | [_, _], _ => exact ⟨rfl, rfl, rfl⟩)
      (ChangeSpec.witness6 (enc := enc) (C := Try.checked) false ⟨#[], #[.int .u64 0, .int .i64 0], []⟩ 8 (by kernel_rfl) (by kernel_rfl) (by kernel_rfl) (by kernel_rfl)) walks)
end Go.Proofs.Ytjoaomncffdgbaa.ScaleOnes
