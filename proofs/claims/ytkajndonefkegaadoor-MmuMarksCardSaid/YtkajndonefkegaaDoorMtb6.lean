/-
  What Lines answers: a slice of its own that holds all lines, one set after the other.
-/
import Derived.Test.YtkajndonefkegaaDoorGMtb
namespace Go.Proofs.YtkajndonefkegaaDoor
open Go.RowKit

theorem run_copy_wide {P : Program} (w : World) (dT sT ty elem : TypeId) (b o dLen dCap : Nat) (a : Addr) (sLen sCap k : Nat) (cs : List Value)
    (hu : P.underlying dT = some (.slice elem)) (hs : (P.info? elem).map (·.size) = some k) (hn : cs.length = Nat.min sLen dLen * k)
    (hsrc : ∀ j v, cs[j]? = some v → w.cell? (a.add j) = some v) (ht : w.there b o cs.length) (h1 : ∀ v ∈ cs, v.oneCell' = true) :
    (Builtin.copy_ #[dT, sT] ty #[.slice (some ⟨b, o, none⟩) dLen dCap, .slice (some a) sLen sCap]).run P w = .ok (goInt (Nat.min sLen dLen)) (w.setCells b o cs) := by
  have hl := run_loadCells_list (P := P) w a cs hsrc
  have hst := run_storeCells_cells (P := P) b o cs 0 w (fun j hj => by rw [Nat.add_zero]; exact (ht j hj).1) (fun j hj => by rw [Nat.add_zero]; exact (ht j hj).2) h1
  cases hq : P.info? elem with
  | none => simp [hq] at hs
  | some i =>
    have hi : i.size = k := by simpa [hq] using hs
    rw [hn] at hl
    simp [Builtin.copy_, run_underlying hu, Builtin.lenOf, Builtin.firstCells, sizeOf, typeInfo, hq, hi, hl, hst]

/-- The cells of some lines. -/
def flatC (L : List Ln) : List Value := (L.map lineC).flatten
theorem flatC_length (L : List Ln) : (flatC L).length = 16 * L.length := by
  induction L with
  | nil => rfl
  | cons x L ih =>
    show (lineC x ++ flatC L).length = _
    rw [List.length_append, lineC_length, ih, List.length_cons]
    omega
theorem flatC_append (L K : List Ln) : flatC (L ++ K) = flatC L ++ flatC K := by simp [flatC]
theorem flatC_one (L : List Ln) : ∀ v ∈ flatC L, v.oneCell' = true := by
  intro v hv
  obtain ⟨l, hl, hvl⟩ := List.mem_flatten.1 hv
  obtain ⟨x, _, rfl⟩ := List.mem_map.1 hl
  exact lineC_one x v hvl
theorem flatC_at : ∀ (L : List Ln) (k t : Nat) (l : Ln), L[k]? = some l → t < 16 → (flatC L)[16 * k + t]? = (lineC l)[t]?
  | [], k, t, l, h, _ => by simp at h
  | x :: L, 0, t, l, h, ht => by
    simp only [List.getElem?_cons_zero, Option.some.injEq] at h
    subst h
    show (lineC x ++ flatC L)[16 * 0 + t]? = _
    rw [List.getElem?_append_left (by rw [lineC_length]; omega), Nat.mul_zero, Nat.zero_add]
  | x :: L, k + 1, t, l, h, ht => by
    show (lineC x ++ flatC L)[16 * (k + 1) + t]? = _
    rw [List.getElem?_append_right (by rw [lineC_length]; omega), lineC_length, show 16 * (k + 1) + t - 16 = 16 * k + t by omega]
    exact flatC_at L k t l (by simpa using h) ht
/-- The lines of a slice, one by one. -/
theorem flat_line {W : World} {A : Nat} {L : List Ln} (h : W.rangeAt A 0 (flatC L)) (k : Nat) (l : Ln) (hl : L[k]? = some l) : W.rangeAt A (16 * k) (lineC l) := fun t v hv => by
  have ht : t < 16 := (List.getElem?_eq_some_iff.1 hv).1
  have := h (16 * k + t) v (by rw [flatC_at L k t l hl ht]; exact hv)
  rw [Nat.zero_add] at this
  exact this
theorem set_cells {W : World} {N : Nat} {R : Nat → Ln} {F : Nat → Nat} (h : TlbAt W N R F) (q : Nat) (hq : q < 4) (L : List Ln) (hL : L.length ≤ 2) (hR : ∀ j l, L[j]? = some l → R (2 * q + j) = l) : ∀ j v, (flatC L)[j]? = some v → W.cell? ((⟨N, q * 32, none⟩ : Addr).add j) = some v := by
  intro j v hv
  have hj : j < (flatC L).length := (List.getElem?_eq_some_iff.1 hv).1
  rw [flatC_length] at hj
  have hk : j / 16 < L.length := by omega
  have e1 := List.getElem?_eq_getElem hk
  have e2 := hR _ _ e1
  have e3 := flatC_at L (j / 16) (j % 16) _ e1 (by omega)
  rw [show 16 * (j / 16) + j % 16 = j by omega, hv, ← e2] at e3
  have := h.line (2 * q + j / 16) (by omega) (j % 16) v e3.symm
  rw [Addr.add_mid, show q * 32 + j = 16 * (2 * q + j / 16) + j % 16 by omega]
  exact this
/-- The lines of the first sets. -/
def upF {α : Type} (M : Nat → List (LnX α)) : Nat → List (LnX α)
  | 0 => []
  | k + 1 => upF M k ++ M k
theorem upF_length {α : Type} (M : Nat → List (LnX α)) : ∀ k, (∀ q, q < k → (M q).length ≤ 2) → (upF M k).length ≤ 2 * k
  | 0, _ => by simp [upF]
  | k + 1, h => by
    have := upF_length M k (fun q hq => h q (by omega))
    have := h k (by omega)
    simp only [upF, List.length_append]
    omega
theorem range_more {W : World} {A n : Nat} {L K : List Ln} (h : W.rangeAt A 0 (flatC L)) (hn : n = L.length * 16) (ht : W.there A 0 128) (hl : L.length + K.length ≤ 8) : (W.setCells A n (flatC K)).rangeAt A 0 (flatC (L ++ K)) := by
  subst hn
  intro j v hv
  rw [flatC_append] at hv
  rcases Nat.lt_or_ge j (flatC L).length with hj | hj
  · rw [List.getElem?_append_left hj] at hv
    rw [flatC_length] at hj
    have := h j v hv
    rw [World.cell?_setCells_out A _ _ W _ (fun _ _ => by left; show 0 + j < _; omega)]
    exact this
  · rw [List.getElem?_append_right hj] at hv
    rw [flatC_length] at hj hv
    have h2 := World.rangeAt_setCells_same W A (L.length * 16) (flatC K) (fun i hi => by
      rw [flatC_length] at hi
      have := ht (L.length * 16 + i) (by omega)
      rw [Nat.zero_add] at this
      exact this) _ v hv
    rw [show L.length * 16 + (j - 16 * L.length) = 0 + j by omega] at h2
    exact h2
theorem o_bn {n b k : Nat} {W W' : World} (hb : Below n W W') (hlt : b < n) (h : Own W b k) : Own W' b k := fun i hi => by
  rw [hb.cell (p := ⟨b, i, none⟩) hlt, hb.frozen (p := ⟨b, i, none⟩) hlt]
  exact h i hi
theorem row_rg {W : World} {b : Nat} {cs : List Value} (h : W.rangeAt b 0 cs) : Row W b cs := fun i v hv => by
  have := h i v hv
  rw [Nat.zero_add] at this
  exact this
theorem slice_linesT : Tryd.prog.underlying 73 = some (.slice 36) := by kernel_rfl
theorem zero_eight : ∃ Z : Array Value, Z.size = 128 ∧ ∀ W, (zeroValue 126).run Tryd.prog W = .ok (.agg Z) W := by
  have h : ((Tryd.prog.info? 126).bind (·.zero)).map (fun z => z.cells.toList) = some ((List.replicate 8 (lineC zeroL)).flatten) := by kernel_rfl
  have h2 : ((Tryd.prog.info? 126).bind (·.zero)).map (fun z => match z with | .agg _ => true | _ => false) = some true := by kernel_rfl
  obtain ⟨z, hz0, hl⟩ := Option.map_eq_some_iff.1 h
  obtain ⟨i, hi, hz⟩ := Option.bind_eq_some_iff.1 hz0
  rw [hz0] at h2
  cases z with
  | agg cs =>
    refine ⟨cs, ?_, fun W => ?_⟩
    · have := congrArg List.length hl
      simpa [Value.cells] using this
    · simp [zeroValue, typeInfo, hi, hz]
  | _ => simp at h2

set_option maxRecDepth 100000 in
set_option maxHeartbeats 8000000 in
theorem lines_any (N : Nat) (M : Nat → List Ln) (w : World) (hM : TlbM w N M) :
    Calls Tryd.prog 22 #[.pointer (some ⟨N, 0, none⟩)] w (fun e w' => ∃ A, e = .returned (.slice (some ⟨A, 0, none⟩) (upF M 4).length (upF M 4).length) ∧ w'.rangeAt A 0 (flatC (upF M 4)) ∧ w.heap.size ≤ A ∧ Below w.heap.size w w') := by
  have SS := cell_same
  have LB' := ltB_add
  have LS := ltB_self
  have LA' := alloc_reads
  have LH := alloc_holds
  have HF := hide (fun q n hq hn W hc => of_let N q n hn hq W hc)
  obtain ⟨Z, hZ, hz⟩ := zero_eight
  have HM := hide hM
  have hN : N < w.heap.size := hM.here
  clear hM
  go_enter Tryd.func22, Tryd.ntmps22
  go_wp2
  go_loopw [4, 8] (fun s i wr => ∃ q : Nat, q ≤ 4 ∧ i = .int .u64 (q : Int) ∧ s = .int .i64 ((upF M q).length : Int) ∧ wr.rangeAt w.heap.size 0 (flatC (upF M q)) ∧ wr.there w.heap.size 0 128 ∧ Below w.heap.size w wr) (fun _ i _ => 4 - (intOf i).toNat)
  case atStart =>
    refine ⟨0, by omega, rfl, rfl, ?_, ?_, ?_⟩
    · intro j v hv
      simp [upF, flatC] at hv
    · exact th_own (o_new rfl (by omega))
    · repeat (first | with_reducible assumption | with_reducible exact Below.refl _ _ | with_reducible refine Below.drew ?_ | with_reducible refine below_drewN ?_ _ | with_reducible refine bw_alloc ?_ _ | (with_reducible refine bw_set ?_ ?_ _; focus (dsimp only; omega)) | (with_reducible apply bw_behind; with_reducible assumption) | (with_reducible refine bw_sc _ ?_ ?_; focus omega))
  case round =>
    obtain ⟨q, hq, rfl, rfl, hr, ht, hB⟩ := hrel
    by_cases hlt : q < 4
    · obtain ⟨R, hA, hP⟩ := tm_bn hB hN HM.out
      have hfill : wr.cell? ⟨N, 128 + q, none⟩ = some (.int .i64 ((M q).length : Int)) := hA.fill q hlt
      have hL := (hP q hlt).1
      have hl6 := upF_length M q (fun r hr => (hP r (by omega)).1)
      obtain ⟨n, hn⟩ : ∃ n, (upF M q).length = n := ⟨_, rfl⟩
      obtain ⟨m, hm⟩ : ∃ m, (M q).length = m := ⟨_, rfl⟩
      have O := hide (fun W hc => HF.out q m hlt (by omega) W hc)
      have hcp : ∀ k ty, (Builtin.copy_ #[73, 73] ty #[.slice (some ⟨w.heap.size, n * 16, none⟩) (8 - n) (8 - n), .slice (some ⟨N, q * 32, none⟩) m m]).run Tryd.prog (wr.drewN k) = .ok (.int .i64 (m : Int)) ((wr.drewN k).setCells w.heap.size (n * 16) (flatC (M q))) := fun k ty => by
        have hmin : Nat.min m (8 - n) = m := Nat.min_eq_left (by omega)
        have := run_copy_wide (P := Tryd.prog) (wr.drewN k) 73 73 ty 36 w.heap.size (n * 16) (8 - n) (8 - n) ⟨N, q * 32, none⟩ m m 16 (flatC (M q)) slice_linesT infoL (by rw [hmin, flatC_length]; omega)
          (set_cells (ta_dr k hA) q hlt (M q) hL (hP q hlt).2) (fun i hi => by
            rw [flatC_length] at hi
            have := ht (n * 16 + i) (by omega)
            rw [Nat.zero_add] at this
            exact this) (flatC_one _)
        rw [hmin] at this
        exact this
      rw [hn] at hl6 ⊢
      rw [hm] at hL hfill
      have h1 : ¬ ((4 : Int) ≤ (q : Int)) := by omega
      have h2 : (q : Int) < 4 := by omega
      have h3 : (0 : Int) ≤ (q : Int) := by omega
      have h4 : (0 : Int) ≤ (n : Int) := by omega
      have h5 : (n : Int) ≤ 8 := by omega
      have h6 : ¬ (8 = n) := by omega
      have hw : IntKind.i64.wrap ((n : Int) + (m : Int)) = ((n + m : Nat) : Int) := by rw [IntKind.wrap_i64]; omega
      have HR := hide hr
      have HT := hide ht
      have HL := hide hL
      have H6 := hide hl6
      have HN := hide hn
      have HMM := hide hm
      have HP := hide hP
      clear hr ht hL hl6 hn hm hA hP
      go_wp2_with fail
      go_region_with (first | (go_at_call 55; (with_reducible refine (O.out _ ?_).mono ?_); (focus (repeat (first | with_reducible assumption | with_reducible refine c_dr _ ?_ | with_reducible refine c_d1 ?_ | with_reducible refine c_al _ ?_ | (with_reducible refine c_set ?_ ?_; focus (dsimp only; omega)) | (with_reducible apply c_be; with_reducible assumption)))); rintro e w' ⟨rfl, n1, rfl⟩))
      all_goals go_wp2_with fail
      go_roundw
      case rel =>
        have hl := upF_length M (q + 1) (fun r hr => (HP.out r (by omega)).1)
        refine ⟨q + 1, by omega, by go_num, ?_, ?_, ?_, ?_⟩
        · rw [show (upF M (q + 1)).length = n + m by rw [← HN.out, ← HMM.out]; simp [upF]]
          first | rfl | go_num
        · show World.rangeAt _ w.heap.size 0 (flatC (upF M q ++ M q))
          refine range_more ?_ ?_ ?_ ?_
          · exact HR.out
          · rw [HN.out]
          · exact HT.out
          · rw [HN.out, HMM.out]
            have := H6.out
            have := HL.out
            omega
        · exact World.there_setCells (show World.there (wr.drewN _) w.heap.size 0 128 from HT.out) _ _ _
        · repeat (first | with_reducible assumption | with_reducible exact Below.refl _ _ | with_reducible refine Below.drew ?_ | with_reducible refine below_drewN ?_ _ | with_reducible refine bw_alloc ?_ _ | (with_reducible refine bw_set ?_ ?_ _; focus (dsimp only; omega)) | (with_reducible apply bw_behind; with_reducible assumption) | (with_reducible refine bw_sc _ ?_ ?_; focus omega))
      case measure => simp [intOf]; omega
    · obtain rfl : q = 4 := by omega
      obtain ⟨R, hA, hP⟩ := HM.out
      have hl8 := upF_length M 4 (fun r hr => (hP r (by omega)).1)
      obtain ⟨n, hn⟩ : ∃ n, (upF M 4).length = n := ⟨_, rfl⟩
      have HR := hide hr
      have HN := hide hn
      rw [hn] at hl8 ⊢
      clear hr ht hn hA hP
      have h4 : (0 : Int) ≤ (n : Int) := by omega
      have h5 : (n : Int) ≤ 8 := by omega
      go_wp2_with fail
      refine bodyPost_ret (v := .slice (some ⟨w.heap.size, 0, none⟩) n n) (by simp (maxDischargeDepth := 4) [results, Tryd.results22, go_sem, *]) rfl ?_
      refine ⟨w.heap.size, by rw [HN.out], ?_, Nat.le_refl _, ?_⟩
      · exact HR.out
      · repeat (first | with_reducible assumption | with_reducible exact Below.refl _ _ | with_reducible refine Below.drew ?_ | with_reducible refine below_drewN ?_ _ | with_reducible refine bw_alloc ?_ _ | (with_reducible refine bw_set ?_ ?_ _; focus (dsimp only; omega)) | (with_reducible apply bw_behind; with_reducible assumption) | (with_reducible refine bw_sc _ ?_ ?_; focus omega))
end Go.Proofs.YtkajndonefkegaaDoor
