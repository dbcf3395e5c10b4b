/-
  What asm.Assemble answers to a program all of whose lines are right.
-/
import Derived.Test.YtlommbeokbicjaaGreatDoorAsmSurvey
import Derived.WalkMore
namespace Go.Proofs.YtlommbeokbicjaaGreatDoor
open Go.RowKit InstMath AsmMath
open Go.Lib (itoa)

/-- An instruction's text at its place: its word. -/
def WordOk (M : List UInt8 → Option (Int × Int)) (n : Nat) (t : List UInt8) (y : BitVec 64) : Prop :=
  ∃ (k : Nat) (F : Nat → Int) (s : List UInt8), t = wr k F s ∧ InsOk k F s y ∧
    ((∃ a : Nat, M s = some ((a : Int), 1) ∧ a < 20000 ∧ brB (shp k) = true ∧ F 3 = 4 * ((a : Int) - (n : Int))) ∨ (M s = none ∧ s = itoa (F 3) ∧ -10000000000 < F 3 ∧ F 3 < 10000000000))
theorem word_of {M : List UInt8 → Option (Int × Int)} {n : Nat} {t : List UInt8} {y : BitVec 64} (h : WordOk M n t y) (hn : n < 20000) (P mb kk : Nat) (w : World) (hG : G w) (c1 : w.cell? ⟨P, 1, none⟩ = some (.map (some mb))) (hm : MapS w mb kk M) :
    Calls Tryz.prog 25 #[.pointer (some ⟨P, 0, none⟩), .string (str t), .int .i64 (n : Int)] w (Makes (.tuple #[.int .u32 (y.toNat : Int), .bool true]) w) := by
  obtain ⟨k, F, s, rfl, ok, h⟩ := h
  refine word_any P mb kk n M k F s y ok (fun pb ab V hV a b c d => ?_) w hG c1 hm
  have hl := ok.last.len
  rcases h with ⟨a', h1, h2, h3, h4⟩ | ⟨h1, h2, h3, h4⟩
  · rw [h4]
    exact closure_name (shp k) h3 (a' : Int) P mb kk pb ab (n : Int) M s V hV (by omega) a b c d h1 (by omega) (by omega)
  · exact closure_num (shp k) (F 3) (ok.rg 3) ⟨h3, h4⟩ P mb kk pb ab M s V hV (by omega) a c d h1 h2
/-- The words of the lines that are kept. -/
def wsK (Y : Nat → BitVec 64) (K : List Kp) : List (BitVec 64) := K.flatMap (fun k => match k.txt with | some _ => [Y k.at'] | none => [])
theorem wsK_snoc (Y : Nat → BitVec 64) (K : List Kp) (k : Kp) : wsK Y (K ++ [k]) = wsK Y K ++ (match k.txt with | some _ => [Y k.at'] | none => []) := by unfold wsK; simp
theorem wsK_all (Y : Nat → BitVec 64) : ∀ (L : List Ln) (n c : Nat), wsK Y (kpL n c L) = (List.range' c (cntL L)).map Y
  | [], _, _ => rfl
  | l :: r, n, c => by
    have ih := wsK_all Y r (n + 1) (c + isI l)
    unfold wsK at ih ⊢
    unfold kpL cntL
    rw [List.flatMap_append, ih]
    unfold isI
    by_cases h0 : l.cls = 0
    · simp [h0]
    · by_cases h2 : l.cls = 2
      · simp only [h2, if_true]
        rw [Nat.add_comm 1 (cntL r), List.range'_succ]
        simp
      · simp [h0, h2]
def wordV (l : List (BitVec 64)) : List Value := l.map (fun y => Value.int .u32 (y.toNat : Int))
/-- Each kept instruction is a line's. -/
theorem kp_mem : ∀ (L : List Ln) (n c : Nat) (k : Kp) (t : List UInt8), k ∈ kpL n c L → k.txt = some t → ∃ (j : Nat) (l : Ln), L[j]? = some l ∧ l.cls = 2 ∧ l.txt = t ∧ k.at' = c + cntL (L.take j)
  | [], _, _, _, _, h, _ => by simp [kpL] at h
  | l :: r, n, c, k, t, h, ht => by
    unfold kpL at h
    rcases List.mem_append.1 h with h | h
    · split at h
      · simp at h
      · simp only [List.mem_singleton] at h
        subst h
        dsimp only at ht
        split at ht
        · rename_i h2
          injection ht with ht
          exact ⟨0, l, rfl, h2, ht, by simp [cntL]⟩
        · cases ht
    · obtain ⟨j, l', h1, h2, h3, h4⟩ := kp_mem r (n + 1) (c + isI l) k t h ht
      exact ⟨j + 1, l', by simpa using h1, h2, h3, by rw [h4, List.take_succ_cons, cntL]; omega⟩
theorem kp_at_le : ∀ (L : List Ln) (n c : Nat) (k : Kp), k ∈ kpL n c L → k.at' ≤ c + cntL L ∧ 1 ≤ k.num
  | [], _, _, _, h => by simp [kpL] at h
  | l :: r, n, c, k, h => by
    unfold kpL at h
    unfold cntL
    rcases List.mem_append.1 h with h | h
    · split at h
      · simp at h
      · simp only [List.mem_singleton] at h
        subst h
        exact ⟨by dsimp only; omega, by dsimp only; omega⟩
    · have := kp_at_le r (n + 1) (c + isI l) k h
      omega
theorem info_u32 : (Tryz.prog.info? 24).map (fun i => (i.zero, i.size, i.bytes)) = some (some (.int .u32 0), 1, 4) := by kernel_rfl
theorem owns_len {W : World} {base n size : Nat} {e : TypeId} {v : Value} {xs : List Value} (h : W.ownsRow base e size v n xs) : ∃ a c, v = .slice a n c := by
  rcases h.2 with ⟨rfl, rfl⟩ | ⟨g, cap, cur, rfl, _⟩
  · exact ⟨_, _, rfl⟩
  · exact ⟨_, _, rfl⟩
theorem owns_base {W : World} {b base n size : Nat} {e : TypeId} {v : Value} {xs : List Value} (hb : b ≤ base) (h : W.ownsRow base e size v n xs) : W.ownsRow b e size v n xs := by
  refine ⟨h.1, ?_⟩
  rcases h.2 with h2 | ⟨g, cap, cur, rfl, h3, h4⟩
  · exact .inl h2
  · exact .inr ⟨g, cap, cur, rfl, by omega, h4⟩
/-- A program's words. -/
def Assembled (n : Nat) (Y : Nat → BitVec 64) (w : World) (e : Ending) (w' : World) : Prop :=
  ∃ v, e = .returned (.tuple #[v, .int .i64 0, .int .i64 0]) ∧ Below w.heap.size w w' ∧ w'.ownsRow w.heap.size 24 1 v n (wordV ((List.range n).map Y))

set_option maxRecDepth 100000 in
set_option maxHeartbeats 8000000 in
theorem assemble_any (L : List Ln) (Y : Nat → BitVec 64) (hL : L ≠ []) (hok : ∀ l ∈ L, LnOk l) (h10 : ∀ l ∈ L, (10 : UInt8) ∉ l.raw) (hs : (joinS [10] (L.map (·.raw))).length ≤ 16384) (hc : cntL L ≤ 1024) (hlen : L.length ≤ 16000)
    (huniq : ∀ (j : Nat) (l : Ln), L[j]? = some l → l.cls = 1 → marksOf (L.take j) l.txt = none)
    (hw : ∀ (j : Nat) (l : Ln), L[j]? = some l → l.cls = 2 → WordOk (marksOf L) (cntL (L.take j)) l.txt (Y (cntL (L.take j)))) (w : World) (hG : G w) :
    Calls Tryz.prog 9 #[.string (str (joinS [10] (L.map (·.raw))))] w (Assembled (cntL L) Y w) := by
  have CS : Hid (∀ W, G W → Calls Tryz.prog 24 #[.string (str (joinS [10] (L.map (·.raw))))] W (SurveyedK (kpL 0 0 L) (marksOf L) (cntL L) W)) := hide (survey_any L hL hlen hok h10 (by omega) huniq)
  have HK : Hid (∀ k ∈ kpL 0 0 L, ∀ t, k.txt = some t → WordOk (marksOf L) k.at' t (Y k.at')) := hide (fun k hk t ht => by
    obtain ⟨j, l, h1, h2, h3, h4⟩ := kp_mem L 0 0 k t hk ht
    rw [Nat.zero_add] at h4
    rw [h4, ← h3]
    exact hw j l h1 h2)
  have HA : Hid (∀ k ∈ kpL 0 0 L, k.at' ≤ 1024 ∧ 1 ≤ k.num) := hide (fun k hk => by have := kp_at_le L 0 0 k hk; omega)
  have HW := hide (wsK_all Y L 0 0)
  have hsz := str_size (joinS [10] (L.map (·.raw)))
  have hn1 : ¬ 16384 < ((joinS [10] (L.map (·.raw))).length : Int) := by omega
  have hn2 : ¬ 1024 < (cntL L : Int) := by omega
  have hKl : (kpL 0 0 L).length ≤ 16000 := by have := kp_le 0 0 L; omega
  clear hok h10 huniq hw hs hlen hL
  generalize str (joinS [10] (L.map (·.raw))) = TX at *
  generalize (joinS [10] (L.map (·.raw))).length = TL at *
  generalize marksOf L = M at *
  generalize cntL L = CN at *
  generalize kpL 0 0 L = K at *
  obtain ⟨i0, hi, hz0, hz1, hz2⟩ := info_parts info_u32
  have SS := cell_same
  have LB' := ltB_add
  have LS := ltB_self
  have LA' := alloc_reads
  have LH := alloc_holds
  go_enter Tryz.func9, Tryz.ntmps9
  go_wp2
  go_step3
  go_wp2_with (first | (go_at_call 24; (with_reducible refine (CS.out _ ?_).mono ?_); (focus (refine hG.behind ?_; repeat (first | with_reducible assumption | with_reducible exact Below.refl _ _ | with_reducible refine Below.drew ?_ | with_reducible refine below_drewN ?_ _ | with_reducible refine bw_alloc ?_ _ | (with_reducible refine bw_set ?_ ?_ _; focus (dsimp only; omega)) | (with_reducible apply bw_behind; with_reducible assumption)))); rintro e w1 ⟨v, xs, mb, m, rfl, hb1, hkp, hown, hm, hmb⟩; obtain ⟨va, vc, rfl⟩ := owns_len hown; have hr1 := below_reads hb1; have hh1 := below_holds hb1; obtain ⟨m1, hs1⟩ := below_grew hb1))
  go_step3
  go_wp2
  refine wp_abs (fun W => Below w.heap.size w W ∧ Hid (KpRel W K xs) ∧ Hid (W.ownsRow w.heap.size 66 4 (.slice va K.length vc) K.length xs) ∧ MapS W mb m M ∧ W.cell? ⟨w.heap.size + m1, 1, none⟩ = some (.map (some mb))) ?_ ?_
  · refine ⟨?_, hide (hkp.keep (sk_al _ _)), hide (owns_al _ hown), ms_al _ hm, ?_⟩
    · repeat (first | with_reducible assumption | with_reducible exact Below.refl _ _ | with_reducible refine Below.drew ?_ | with_reducible refine below_drewN ?_ _ | with_reducible refine bw_alloc ?_ _ | (with_reducible refine bw_set ?_ ?_ _; focus (dsimp only; omega)) | (with_reducible apply bw_behind; with_reducible assumption))
    · simp (maxDischargeDepth := 4) [go_sem, *]
  rintro w2 ⟨hB2, hkp2, hown2, hm2, c2⟩
  have hP : w.heap.size ≤ w.heap.size + m1 := by omega
  clear hkp hown hm hb1 hr1 hh1 hs1 CS
  generalize w.heap.size + m1 = P at *
  have hsz2 := hB2.size
  have HL : Hid (∀ j, (wsK Y (K.take j)).length ≤ 1024) := hide (fun j => by
    have h1 : wsK Y K = wsK Y (K.take j) ++ wsK Y (K.drop j) := by
      unfold wsK
      rw [← List.flatMap_append, List.take_append_drop]
    have h2 := congrArg List.length HW.out
    rw [h1] at h2
    simp at h2
    omega)
  go_loopw [6, 7, 25] (fun v x i wr => ∃ j : Nat, j ≤ K.length ∧ i = .int .i64 (j : Int) ∧ x = .int .i64 0 ∧ Hid (wr.ownsRow w2.heap.size 24 1 v (wsK Y (K.take j)).length (wordV (wsK Y (K.take j)))) ∧ Below w2.heap.size w2 wr) (fun _ _ i _ => K.length - (intOf i).toNat)
  case atStart => exact ⟨0, by omega, rfl, rfl, hide (World.ownsRow_nil _ _ _ _), Below.refl _ _⟩
  case round v =>
    obtain ⟨j, hj, rfl, rfl, hown, hB⟩ := hrel
    have hsz := hB.size
    by_cases hlt : j < K.length
    · obtain ⟨g, cap, hv, hcap, hg0, hg1, hcells⟩ := owns_cell hown2.out (by omega)
      obtain ⟨k, hk⟩ : ∃ k, K[j] = k := ⟨_, rfl⟩
      have hjk : K[j]? = some k := by rw [List.getElem?_eq_getElem hlt, hk]
      have hmem : k ∈ K := hk ▸ List.getElem_mem hlt
      have htake : K.take (j + 1) = K.take j ++ [k] := by rw [List.take_succ_eq_append_getElem hlt, hk]
      have hsn := wsK_snoc Y (K.take j) k
      rw [← htake] at hsn
      obtain ⟨tv, htv, a0, a1, a2, a3⟩ := hkp2.out.at j k hjk
      have r0 := c_be hB (hcells _ _ a0)
      have r1 := c_be hB (hcells _ _ a1)
      have r2 := c_be hB (hcells _ _ a2)
      have r3 := c_be hB (hcells _ _ a3)
      have hkw := HK.out k hmem
      have hka := (HA.out k hmem).1
      have hL2 := HL.out j
      have hva : va = some ⟨g, 0, none⟩ := by injection hv
      subst hva
      clear hv hcells a0 a1 a2 a3 htake hmem hjk hk
      obtain ⟨num, at', txt⟩ := k
      simp only at htv r0 r1 hkw hka hsn
      have HS := hide hsn
      clear hsn
      cases txt with
      | none =>
        obtain rfl : tv = .slice none 0 0 := htv
        clear hkw
        go_wp2
        refine wp_loop_rounds 1 ?_
        rw [rounds_succ]
        go_wp2
        go_roundw
        case rel =>
          refine ⟨j + 1, by omega, by go_num, rfl, hide ?_, ?_⟩
          · rw [HS.out, List.append_nil]
            exact owns_al _ hown.out
          · repeat (first | with_reducible assumption | with_reducible exact Below.refl _ _ | with_reducible refine Below.drew ?_ | with_reducible refine below_drewN ?_ _ | with_reducible refine bw_alloc ?_ _ | (with_reducible refine bw_set ?_ ?_ _; focus (dsimp only; omega)) | (with_reducible apply bw_behind; with_reducible assumption))
        case measure => simp [intOf]; omega
      | some t =>
        obtain ⟨N, rfl, hN⟩ := htv
        have rt := c_be hB hN.cell
        have CW : Hid (∀ W, Below w2.heap.size w2 W → G W → Calls Tryz.prog 25 #[.pointer (some ⟨P, 0, none⟩), .string (str t), .int .i64 (at' : Int)] W (Makes (.tuple #[.int .u32 ((Y at').toNat : Int), .bool true]) W)) := hide (fun W hb hGW => word_of (hkw t rfl) (by omega) P mb m W hGW (c_be hb c2) (ms_be hb hm2))
        have lN : ltB N wr.heap.size = true := by unfold ltB; simpa using World.block_lt_of_cell? _ _ rt
        clear hkw hN
        generalize str t = TT at *
        generalize hYN : (Y at').toNat = YN at *
        have HY := hide hYN
        clear hYN
        go_wp2
        refine wp_loop_rounds 2 ?_
        rw [rounds_succ]
        go_wp2_with (first | (go_at_call 25; (with_reducible refine (CW.out _ ?_ ?_).mono ?_); (focus (repeat (first | with_reducible assumption | with_reducible exact Below.refl _ _ | with_reducible refine Below.drew ?_ | with_reducible refine below_drewN ?_ _ | with_reducible refine bw_alloc ?_ _ | (with_reducible refine bw_set ?_ ?_ _; focus (dsimp only; omega)) | (with_reducible apply bw_behind; with_reducible assumption)))); (focus (refine hG.behind ?_; repeat (first | with_reducible assumption | with_reducible exact Below.refl _ _ | with_reducible refine Below.drew ?_ | with_reducible refine below_drewN ?_ _ | with_reducible refine bw_alloc ?_ _ | (with_reducible refine bw_set ?_ ?_ _; focus (dsimp only; omega)) | (with_reducible apply bw_behind; with_reducible assumption)))); rintro e w5 ⟨rfl, hb5⟩; have hr5 := below_reads hb5; have hh5 := below_holds hb5; obtain ⟨m5, hs5⟩ := below_grew hb5) | (at_builtin; refine wpList_append_own _ rfl _ _ 23 rfl w2.heap.size 24 i0 (.int .u32 0) 1 4 Tryz.underlying23 hi hz0 hz1 hz2 rfl (by decide) _ _ _ rfl (owns_al _ (owns_be hb5 (owns_al _ hown.out))) _ 1 1 [.int .u32 (YN : Int)] rfl rfl (cell_one _ _ _ (by simp [*])) (fun x hx => by simp at hx; subst hx; rfl) (by unfold maxLen; omega) (by omega) (by have h5 := hb5.size; simp at h5 ⊢; omega) ?_; intro v' w8 hown' hgrow hnil'; have hB8 := (bw_alloc (bw_behind hb5 (bw_alloc hB _)) _).grown hgrow (by have h5 := hb5.size; simp at h5 ⊢; omega) (row_base hown.out)))
        rw [rounds_succ]
        go_wp2
        go_roundw
        case rel =>
          refine ⟨j + 1, by omega, by go_num, rfl, hide ?_, ?_⟩
          · rw [HS.out, List.length_append]
            unfold wordV at hown' ⊢
            rw [List.map_append]
            show w8.ownsRow w2.heap.size 24 1 v' ((wsK Y (K.take j)).length + 1) (List.map (fun y => Value.int .u32 (y.toNat : Int)) (wsK Y (K.take j)) ++ [Value.int .u32 ((Y at').toNat : Int)])
            rw [HY.out]
            exact hown'
          · repeat (first | with_reducible assumption | with_reducible exact Below.refl _ _ | with_reducible refine Below.drew ?_ | with_reducible refine below_drewN ?_ _ | with_reducible refine bw_alloc ?_ _ | (with_reducible refine bw_set ?_ ?_ _; focus (dsimp only; omega)) | (with_reducible apply bw_behind; with_reducible assumption))
        case measure => simp [intOf]; omega
    · obtain rfl : j = K.length := by omega
      rw [List.take_length] at hown
      have hE := HW.out
      have hE2 : (wsK Y K).length = CN := by rw [hE]; simp
      rw [hE2, hE, ← List.range_eq_range'] at hown
      obtain ⟨ua, uc, rfl⟩ := owns_len hown.out
      clear hE hE2
      go_wp2
      rw [Exit.noGoto_ret]
      refine bodyPost_ret (v := .tuple #[.slice ua CN uc, .int .i64 0, .int .i64 0]) (by simp (maxDischargeDepth := 4) [results, Tryz.results9, go_sem, *]) rfl ?_
      refine ⟨.slice ua CN uc, rfl, ?_, ?_⟩
      · repeat (first | with_reducible assumption | with_reducible exact Below.refl _ _ | with_reducible refine Below.drew ?_ | with_reducible refine below_drewN ?_ _ | with_reducible refine bw_alloc ?_ _ | (with_reducible refine bw_set ?_ ?_ _; focus (dsimp only; omega)) | (with_reducible apply bw_behind; with_reducible assumption))
      · exact owns_base (by omega) hown.out
end Go.Proofs.YtlommbeokbicjaaGreatDoor
