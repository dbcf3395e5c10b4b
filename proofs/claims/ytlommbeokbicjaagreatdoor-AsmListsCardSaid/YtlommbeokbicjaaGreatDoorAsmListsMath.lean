/-
  A listing as a program: its lines, its marks and its words.
-/
import Derived.Test.YtlommbeokbicjaaGreatDoorAsmRef5b
import Derived.Test.YtlommbeokbicjaaGreatDoorGMarks
namespace Go.Proofs.YtlommbeokbicjaaGreatDoor
open Go.RowKit InstMath AsmMath
open Go.Lib (itoa)

theorem near_13 : ∀ i, i < 121 → (FieldMath.fitsB (4 * ((i : Nat) : Int) - 240) 13 true && ((4 * ((i : Nat) : Int) - 240).tmod 2 == 0)) = true := by decide +kernel
theorem near_21 : ∀ i, i < 121 → (FieldMath.fitsB (4 * ((i : Nat) : Int) - 240) 21 true && ((4 * ((i : Nat) : Int) - 240).tmod 2 == 0)) = true := by decide +kernel
theorem br_shape {k : Nat} (hb : brB (shp k) = true) : shp k = 66 ∨ shp k = 74 := by
  unfold brB at hb
  simp at hb
  omega
theorem reg_yes {v : Int} (h : 0 ≤ v ∧ v < 32) : regB v = true := by
  unfold regB
  simp
  omega
/-- A branch to a place near has a word. -/
theorem enc_near {k : Nat} (hb : brB (shp k) = true) (h1 : 1 ≤ k) (h2 : k ≤ 69) (F : Nat → Int) (hreg : ∀ o ∈ opL (shp k), o ≠ 3 → 0 ≤ F o ∧ F o < 32) (i : Nat) (hi : i < 121) (h3 : F 3 = 4 * (i : Int) - 240) : ∃ y, encK k F = some y := by
  obtain ⟨j, rfl⟩ : ∃ j, k = j + 1 := ⟨k - 1, by omega⟩
  rcases br_shape hb with h | h
  · have ha := all_B j h (F 0) (F 1) (F 2) (F 3)
    have r1 := reg_yes (hreg 1 (by rw [h]; decide) (by omega))
    have r2 := reg_yes (hreg 2 (by rw [h]; decide) (by omega))
    have hf := near_13 i hi
    rw [Bool.and_eq_true] at hf
    rw [enc_four h1 h2, r1, r2, h3, hf.1, hf.2] at ha
    exact Option.isSome_iff_exists.1 ha
  · have ha := all_J j h (F 0) (F 1) (F 2) (F 3)
    have r1 := reg_yes (hreg 0 (by rw [h]; decide) (by omega))
    have hf := near_21 i hi
    rw [Bool.and_eq_true] at hf
    rw [enc_four h1 h2, r1, h3, hf.1, hf.2] at ha
    exact Option.isSome_iff_exists.1 ha
theorem wr_congr {k : Nat} {F F' : Nat → Int} (h : ∀ o, o ≠ 3 → F o = F' o) (s : List UInt8) : wr k F s = wr k F' s := by
  unfold wr txs
  congr 1
  split
  · rfl
  · congr 1
    congr 1
    refine List.map_congr_left fun o _ => ?_
    unfold tx
    split
    · rfl
    · rename_i h3
      rw [h o h3]
theorem dec_reg {k : Nat} (h1 : 1 ≤ k) (h2 : k ≤ 69) {y : BitVec 64} (hy : y.toNat < 4294967296) (hm : matchB k y = true) : ∀ o ∈ opL (shp k), o ≠ 3 → 0 ≤ opsI k y o ∧ opsI k y o < 32 :=
  fun _ ho h3 => enc_reg h1 h2 (enc_read h1 h2 hy hm) ho h3
/-- A line whose branch goes to a mark. -/
theorem word_go {M : List UInt8 → Option (Int × Int)} {k : Nat} (h1 : 1 ≤ k) (h2 : k ≤ 69) {y : BitVec 64} (hy : y.toNat < 4294967296) (hm : matchB k y = true) {j n t a c : Nat} (hg : goesQ k (opsI k y 3) j n = some t) (ht : t ≤ 1000)
    (ha : a ≤ 60) (hc : c ≤ 60) (hM : M (109 :: itoa (t : Int)) = some ((a : Int), 1)) : ∃ y', WordOk M c (wr k (opsI k y) (109 :: itoa (t : Int))) y' ∧ (a = t → c = j → y' = y) := by
  have hb := goes_br hg
  obtain ⟨F, hF⟩ : ∃ F : Nat → Int, F = fun o => if o = 3 then 4 * ((a : Int) - (c : Int)) else opsI k y o := ⟨_, rfl⟩
  have hF3 : F 3 = 4 * ((a : Int) - (c : Int)) := by rw [hF]; rfl
  have hFo : ∀ o, o ≠ 3 → F o = opsI k y o := fun o h => by rw [hF]; simp [h]
  have hreg : ∀ o ∈ opL (shp k), o ≠ 3 → 0 ≤ F o ∧ F o < 32 := fun o ho h3 => by
    rw [hFo o h3]
    exact dec_reg h1 h2 hy hm o ho h3
  obtain ⟨y', hy'⟩ := enc_near hb h1 h2 F hreg (a + 60 - c) (by omega) (by rw [hF3]; omega)
  refine ⟨y', ⟨k, F, 109 :: itoa (t : Int), wr_congr (fun o h => (hFo o h).symm) _, ⟨h1, h2, fun o => ?_, hreg, last_name (name_mark t (by omega)), ?_⟩, .inl ⟨a, hM, by omega, hb, hF3⟩⟩, fun e1 e2 => ?_⟩
  · by_cases h3 : o = 3
    · subst h3
      rw [hF3]
      unfold rng
      omega
    · rw [hFo o h3]
      exact opsI_rng k y o
  · rw [enc_four h1 h2, enc_msk h1 h2]
    exact hy'
  · have he : encK k F = encK k (opsI k y) := by
      refine enc_ops h1 h2 fun o _ => ?_
      by_cases h3 : o = 3
      · subst h3
        rw [hF3, e1, e2]
        unfold goesQ at hg
        split at hg
        · injection hg with hg
          omega
        · cases hg
      · exact hFo o h3
    rw [he, enc_read h1 h2 hy hm] at hy'
    exact (Option.some.inj hy').symm
/-- A line of another instruction. -/
theorem word_no {M : List UInt8 → Option (Int × Int)} {k : Nat} (h1 : 1 ≤ k) (h2 : k ≤ 69) {y : BitVec 64} (hy : y.toNat < 4294967296) (hm : matchB k y = true) (c : Nat)
    (hM : ∀ v : Int, M (itoa v) = none) : WordOk M c (wr k (opsI k y) (itoa (opsI k y 3))) y := by
  obtain ⟨hi, hb1, hb2⟩ := ins_ok h1 h2 (opsI_rng k y) (enc_read h1 h2 hy hm)
  refine ⟨k, msk k (opsI k y), itoa (msk k (opsI k y) 3), wr_msk _, hi, .inr ⟨hM _, rfl, hb1, hb2⟩⟩
theorem wr_short2 {k : Nat} (h1 : 1 ≤ k) (h2 : k ≤ 69) {F : Nat → Int} {s : List UInt8} (h : ∀ o ∈ opL (shp k), o ≠ 3 → 0 ≤ F o ∧ F o < 32) (hs : s.length ≤ 12) : (wr k F s).length ≤ 65 := by
  have hn := name_long k (by omega) h1
  have hl := ops_len (shape_of h1 h2)
  have hj := joinS_len [44, 32] (txs k F s) 12 (fun r hr => by
    obtain ⟨o, ho, rfl⟩ := List.mem_map.1 hr
    unfold tx
    split
    · exact hs
    · rename_i h3
      have hr := h o ho h3
      have := itoa_len (n := F o) (by omega)
      simp; omega)
  have e : (txs k F s).length = (opL (shp k)).length := by unfold txs; simp
  rw [e] at hj
  have h2 : (opL (shp k)).length * 14 ≤ 3 * 14 := Nat.mul_le_mul_right _ hl
  simp at hj
  unfold wr
  rw [List.length_append]
  split
  · simp; omega
  · simp; omega

/-- The line of a word, as a text. -/
theorem line_some {D : BitVec 64 → Option Nat} {ws : List (BitVec 64)} {j k : Nat} (hd : D (wsAt ws j) = some k) :
    (goesW D ws j = none → lineT D ws j = wr k (opsI k (wsAt ws j)) (itoa (opsI k (wsAt ws j) 3))) ∧ (∀ t, goesW D ws j = some t → goesQ k (opsI k (wsAt ws j) 3) j ws.length = some t ∧ lineT D ws j = wr k (opsI k (wsAt ws j)) (109 :: itoa (t : Int))) := by
  have hg : goesW D ws j = goesQ k (opsI k (wsAt ws j) 3) j ws.length := by unfold goesW; rw [hd]
  constructor
  · intro h
    rw [hg] at h
    unfold lineT
    rw [hd]
    dsimp only
    rw [h]
  · intro t h
    rw [hg] at h
    refine ⟨h, ?_⟩
    unfold lineT
    rw [hd]
    dsimp only
    rw [h]
theorem line_none {D : BitVec 64 → Option Nat} {ws : List (BitVec 64)} {j : Nat} (hd : D (wsAt ws j) = none) : lineT D ws j = [35, 32, 119, 111, 114, 100, 32] ++ hexF 8 (wsAt ws j).toNat := by unfold lineT; rw [hd]
theorem hexC_10 : ∀ d, d < 16 → hexC d ≠ 10 := by decide +kernel
theorem hexF_10 : ∀ (m u : Nat), (10 : UInt8) ∉ hexF m u
  | 0, _ => by simp [hexF]
  | m + 1, u => by
    have := hexF_10 m (u / 16)
    unfold hexF
    simp only [List.mem_append, List.mem_singleton, not_or]
    exact ⟨this, fun h => hexC_10 (u % 16) (by omega) h.symm⟩
theorem itoa_10' (v : Int) : (10 : UInt8) ∉ itoa v := fun h => (ok_ne (ok_itoa _ h)).1 rfl
def lnW (D : BitVec 64 → Option Nat) (ws : List (BitVec 64)) (j : Nat) : Ln := if (D (wsAt ws j)).isSome then lnT (lineT D ws j) else ⟨0, lineT D ws j, []⟩
def lnM (j : Nat) : Ln := ⟨1, 109 :: itoa (j : Int) ++ [58], 109 :: itoa (j : Int)⟩
def hdL (D : BitVec 64 → Option Nat) (ws : List (BitVec 64)) (j : Nat) : List Ln := if markP D ws ws.length j then [lnM j] else []
def wdL (D : BitVec 64 → Option Nat) (ws : List (BitVec 64)) (j : Nat) : List Ln := if j < ws.length then [lnW D ws j] else []
def lstL (D : BitVec 64 → Option Nat) (ws : List (BitVec 64)) (j : Nat) : List Ln := (List.range j).flatMap (fun i => hdL D ws i ++ wdL D ws i)
theorem lst_succ (D : BitVec 64 → Option Nat) (ws : List (BitVec 64)) (j : Nat) : lstL D ws (j + 1) = lstL D ws j ++ (hdL D ws j ++ wdL D ws j) := by
  unfold lstL
  rw [List.range_succ, List.flatMap_append]
  simp
theorem fl_blk (D : BitVec 64 → Option Nat) (ws : List (BitVec 64)) (j : Nat) : fl (hdL D ws j ++ wdL D ws j) = entT D ws j := by
  rw [fl_app]
  unfold entT headT hdL wdL
  congr 1
  · split
    · simp [fl, lnM]
    · rfl
  · split
    · unfold lnW
      split
      · simp [fl, lnT]
      · simp [fl]
    · rfl
theorem fl_lst (D : BitVec 64 → Option Nat) (ws : List (BitVec 64)) : ∀ j, fl (lstL D ws j) = listT D ws j
  | 0 => rfl
  | j + 1 => by rw [lst_succ, fl_app, fl_lst D ws j, fl_blk, list_succ]
/-- How many of the first words are instructions. -/
def cD (D : BitVec 64 → Option Nat) (ws : List (BitVec 64)) : Nat → Nat
  | 0 => 0
  | j + 1 => cD D ws j + (if (decide (j < ws.length) && (D (wsAt ws j)).isSome) = true then 1 else 0)
theorem cnt_hd (D : BitVec 64 → Option Nat) (ws : List (BitVec 64)) (j : Nat) : cntL (hdL D ws j) = 0 := by
  unfold hdL
  split
  · rfl
  · rfl
theorem cnt_wd (D : BitVec 64 → Option Nat) (ws : List (BitVec 64)) (j : Nat) : cntL (wdL D ws j) = if (decide (j < ws.length) && (D (wsAt ws j)).isSome) = true then 1 else 0 := by
  unfold wdL lnW
  by_cases h : j < ws.length
  · rw [if_pos h]
    by_cases h2 : (D (wsAt ws j)).isSome = true
    · rw [if_pos h2, if_pos (by simp [h, h2])]
      rfl
    · rw [if_neg h2, if_neg (by simp [h2])]
      rfl
  · rw [if_neg h, if_neg (by simp [h])]
    rfl
theorem cnt_lst (D : BitVec 64 → Option Nat) (ws : List (BitVec 64)) : ∀ j, cntL (lstL D ws j) = cD D ws j
  | 0 => rfl
  | j + 1 => by
    rw [lst_succ, cnt_app, cnt_app, cnt_hd, cnt_wd, cnt_lst D ws j, Nat.zero_add]
    rfl
theorem cD_step (D : BitVec 64 → Option Nat) (ws : List (BitVec 64)) (a : Nat) : ∀ d, cD D ws a ≤ cD D ws (a + d) ∧ cD D ws (a + d) ≤ cD D ws a + d
  | 0 => ⟨Nat.le_refl _, Nat.le_refl _⟩
  | d + 1 => by
    have := cD_step D ws a d
    have e : cD D ws (a + (d + 1)) = cD D ws (a + d) + (if (decide (a + d < ws.length) && (D (wsAt ws (a + d))).isSome) = true then 1 else 0) := rfl
    rw [e]
    split <;> omega
theorem cD_le (D : BitVec 64 → Option Nat) (ws : List (BitVec 64)) (j : Nat) : cD D ws j ≤ j := by
  have := cD_step D ws 0 j
  rw [Nat.zero_add] at this
  have h0 : cD D ws 0 = 0 := rfl
  omega
theorem cD_all {D : BitVec 64 → Option Nat} {ws : List (BitVec 64)} {n j : Nat} (h : cD D ws n = n) (hj : j ≤ n) : cD D ws j = j := by
  have h1 := cD_step D ws j (n - j)
  have h2 := cD_le D ws j
  rw [show j + (n - j) = n by omega] at h1
  omega
theorem cD_lt {D : BitVec 64 → Option Nat} {ws : List (BitVec 64)} {i j : Nat} (hi : i < ws.length) (hs : (D (wsAt ws i)).isSome = true) (hij : i < j) : cD D ws i < cD D ws j := by
  have h1 := cD_step D ws (i + 1) (j - (i + 1))
  rw [show i + 1 + (j - (i + 1)) = j by omega] at h1
  have e : cD D ws (i + 1) = cD D ws i + (if (decide (i < ws.length) && (D (wsAt ws i)).isSome) = true then 1 else 0) := rfl
  rw [if_pos (by simp [hi, hs])] at e
  omega
theorem cD_end (D : BitVec 64 → Option Nat) (ws : List (BitVec 64)) : cD D ws (ws.length + 1) = cD D ws ws.length := by
  show cD D ws ws.length + _ = _
  rw [if_neg (by simp)]
  rfl
theorem itoa_inj {a b : Nat} (ha : a ≤ 100000) (hb : b ≤ 100000) (h : itoa (a : Int) = itoa (b : Int)) : a = b := by
  have h1 := parse_itoa (n := (a : Int)) (by omega)
  have h2 := parse_itoa (n := (b : Int)) (by omega)
  rw [h] at h1
  rw [h1] at h2
  injection h2 with h2
  omega
theorem itoa_109 (v : Int) : (itoa v).head? ≠ some 109 := by
  cases h : itoa v with
  | nil => simp
  | cons b r =>
    have := itoa_bytes (n := v) b (by rw [h]; simp)
    simp
    rintro rfl
    rcases this with h1 | h1
    · exact absurd h1 (by decide)
    · exact absurd h1 (by unfold isDig; decide)
/-- The marks of the first lines. -/
theorem marks_at (D : BitVec 64 → Option Nat) (ws : List (BitVec 64)) : ∀ j, j ≤ 1000 → (∀ t, t < j → markP D ws ws.length t = true → mkF 0 (fun _ => none) (lstL D ws j) (109 :: itoa (t : Int)) = some ((cD D ws t : Int), 1)) ∧
    (∀ t, j ≤ t → t ≤ 1000 → mkF 0 (fun _ => none) (lstL D ws j) (109 :: itoa (t : Int)) = none) ∧ (∀ s : List UInt8, s.head? ≠ some 109 → mkF 0 (fun _ => none) (lstL D ws j) s = none)
  | 0, _ => ⟨fun t h => absurd h (by omega), fun _ _ _ => rfl, fun _ _ => rfl⟩
  | j + 1, hj => by
    obtain ⟨h1, h2, h3⟩ := marks_at D ws j (by omega)
    have hw : ∀ l ∈ wdL D ws j, l.cls ≠ 1 := fun l hl => by
      unfold wdL at hl
      split at hl
      · simp only [List.mem_singleton] at hl
        subst hl
        unfold lnW
        split
        · simp [lnT]
        · simp
      · simp at hl
    have e : mkF 0 (fun _ => none) (lstL D ws (j + 1)) = if markP D ws ws.length j then updS (mkF 0 (fun _ => none) (lstL D ws j)) (109 :: itoa (j : Int)) ((cD D ws j : Int), 1) else mkF 0 (fun _ => none) (lstL D ws j) := by
      rw [lst_succ, mk_app, mk_app, mk_none (wdL D ws j) _ _ hw, Nat.zero_add, cnt_lst]
      unfold hdL
      split
      · rfl
      · rfl
    rw [e]
    cases hm : markP D ws ws.length j with
    | false =>
      refine ⟨fun t ht hmt => ?_, fun t ht h10 => h2 t (by omega) h10, h3⟩
      by_cases hjt : t = j
      · subst hjt
        rw [hm] at hmt
        cases hmt
      · exact h1 t (by omega) hmt
    | true =>
      refine ⟨fun t ht hmt => ?_, fun t ht h10 => ?_, fun s hs => ?_⟩
      · show updS _ _ _ _ = _
        unfold updS
        by_cases hjt : t = j
        · subst hjt
          rw [if_pos rfl]
        · rw [if_neg (fun h => hjt (itoa_inj (by omega) (by omega) (List.cons.inj h).2))]
          exact h1 t (by omega) hmt
      · show updS _ _ _ _ = _
        unfold updS
        rw [if_neg (fun h => by have := itoa_inj (by omega) (by omega) (List.cons.inj h).2; omega)]
        exact h2 t (by omega) h10
      · show updS _ _ _ _ = _
        unfold updS
        rw [if_neg (fun h => hs (by rw [h]; rfl))]
        exact h3 s hs
theorem uniq_lst (D : BitVec 64 → Option Nat) (ws : List (BitVec 64)) : ∀ j, j ≤ 1000 → Uniq 0 (fun _ => none) (lstL D ws j)
  | 0, _ => uniq_none (fun x hx => by simp [lstL] at hx)
  | j + 1, hj => by
    rw [lst_succ]
    refine uniq_app (uniq_lst D ws j (by omega)) (uniq_app ?_ (uniq_none (fun l hl => ?_)))
    · unfold hdL
      split
      · exact uniq_one (fun _ => (marks_at D ws j (by omega)).2.1 j (Nat.le_refl _) (by omega))
      · exact uniq_none (fun x hx => by simp at hx)
    · unfold wdL at hl
      split at hl
      · simp only [List.mem_singleton] at hl
        subst hl
        unfold lnW
        split
        · simp [lnT]
        · simp
      · simp at hl
theorem allW_lst {D : BitVec 64 → Option Nat} {ws : List (BitVec 64)} {M : List UInt8 → Option (Int × Int)} {Y : Nat → BitVec 64} (h : ∀ j, j < ws.length → (D (wsAt ws j)).isSome = true → WordOk M (cD D ws j) (lineT D ws j) (Y (cD D ws j))) : ∀ j, AllW M Y 0 (lstL D ws j)
  | 0 => allW_0 (fun x hx => by simp [lstL] at hx)
  | j + 1 => by
    rw [lst_succ]
    refine allW_app (allW_lst h j) (allW_app ?_ ?_)
    · unfold hdL
      split
      · exact allW_one (fun h => by cases h)
      · exact allW_0 (fun x hx => by simp at hx)
    · rw [cnt_lst, cnt_hd, Nat.zero_add, Nat.add_zero]
      unfold wdL
      by_cases hj : j < ws.length
      · rw [if_pos hj]
        unfold lnW
        by_cases hs : (D (wsAt ws j)).isSome = true
        · rw [if_pos hs]
          exact allW_one (fun _ => h j hj hs)
        · rw [if_neg hs]
          exact allW_one (fun h => by cases h)
      · rw [if_neg hj]
        exact allW_0 (fun x hx => by simp at hx)
theorem ws_mem {ws : List (BitVec 64)} {j : Nat} (hj : j < ws.length) : wsAt ws j ∈ ws := by
  unfold wsAt
  rw [List.getD_eq_getElem?_getD, List.getElem?_eq_getElem hj]
  exact List.getElem_mem hj
theorem goesW_le {D : BitVec 64 → Option Nat} {ws : List (BitVec 64)} {j t : Nat} (h : goesW D ws j = some t) : t ≤ ws.length := by
  unfold goesW at h
  split at h
  · exact goes_le h
  · cases h
theorem line_len {D : BitVec 64 → Option Nat} {ws : List (BitVec 64)} (hD : Ds D ws) (hn : ws.length ≤ 60) (j : Nat) (hj : j < ws.length) : (lineT D ws j).length ≤ 65 := by
  have hy := hD.lt _ (ws_mem hj)
  have hd := hD.is (wsAt ws j)
  cases hdd : D (wsAt ws j) with
  | none =>
    have := hexF_len 8 (wsAt ws j).toNat
    rw [line_none hdd]
    simp
    omega
  | some k =>
    rw [hdd] at hd
    obtain ⟨k1, k2, hm⟩ := hd
    have hr := dec_reg k1 k2 hy hm
    have hi := dec_imm k1 k2 hy hm
    obtain ⟨e1, e2⟩ := line_some hdd
    cases hg : goesW D ws j with
    | none =>
      rw [e1 hg]
      have := itoa_len (n := opsI k (wsAt ws j) 3) (by omega)
      exact wr_short2 k1 k2 hr (by omega)
    | some t =>
      rw [(e2 t hg).2]
      have ht := goesW_le hg
      have := itoa_len (n := (t : Int)) (by omega)
      exact wr_short2 k1 k2 hr (by simp; omega)
theorem list_short {D : BitVec 64 → Option Nat} {ws : List (BitVec 64)} (hD : Ds D ws) (hn : ws.length ≤ 60) : ∀ j, j ≤ ws.length + 1 → (listT D ws j).length ≤ 100 * j
  | 0, _ => by simp [listT]
  | j + 1, hj => by
    have h1 := list_short hD hn j (by omega)
    have h2 := (ent_len hD (by omega) j (by omega)).1
    rw [list_succ]
    unfold entT
    split
    · rename_i h
      have := line_len hD hn j h
      simp
      omega
    · simp
      omega
theorem lst_count (D : BitVec 64 → Option Nat) (ws : List (BitVec 64)) : ∀ j, (lstL D ws j).length ≤ 2 * j
  | 0 => by simp [lstL]
  | j + 1 => by
    have h1 := lst_count D ws j
    have h2 : (hdL D ws j).length ≤ 1 := by unfold hdL; split <;> simp
    have h3 : (wdL D ws j).length ≤ 1 := by unfold wdL; split <;> simp
    rw [lst_succ, List.length_append, List.length_append]
    omega
theorem lnW_ok {D : BitVec 64 → Option Nat} {ws : List (BitVec 64)} (hD : Ds D ws) (hn : ws.length ≤ 60) (j : Nat) (hj : j < ws.length) : LnOk (lnW D ws j) ∧ (10 : UInt8) ∉ (lnW D ws j).raw := by
  have hy := hD.lt _ (ws_mem hj)
  have hd := hD.is (wsAt ws j)
  unfold lnW
  cases hdd : D (wsAt ws j) with
  | none =>
    rw [if_neg (by simp), line_none hdd]
    refine ⟨.inl ⟨rfl, .inr ⟨[32, 119, 111, 114, 100, 32] ++ hexF 8 (wsAt ws j).toNat, rfl⟩⟩, ?_⟩
    have := hexF_10 8 (wsAt ws j).toNat
    simp
    exact this
  | some k =>
    rw [hdd] at hd
    obtain ⟨k1, k2, hm⟩ := hd
    rw [if_pos (by simp)]
    obtain ⟨e1, e2⟩ := line_some hdd
    have h10 : ∀ s, LastOk s → LnOk (lnT (wr k (opsI k (wsAt ws j)) s)) ∧ (10 : UInt8) ∉ (lnT (wr k (opsI k (wsAt ws j)) s)).raw := fun s hs => by
      refine ⟨.inr (.inr (plain_ln k1 k2 (opsI_rng k _) hs 0)), ?_⟩
      have := wr_10 (k := k) (by omega) (F := opsI k (wsAt ws j)) hs
      simpa [lnT] using this
    cases hg : goesW D ws j with
    | none =>
      rw [e1 hg]
      exact h10 _ (last_itoa (opsI_rng k _ 3))
    | some t =>
      rw [(e2 t hg).2]
      have ht := goesW_le hg
      exact h10 _ (last_name (name_mark t (by omega)))
theorem lst_ok {D : BitVec 64 → Option Nat} {ws : List (BitVec 64)} (hD : Ds D ws) (hn : ws.length ≤ 60) : ∀ j, j ≤ 61 → ∀ x ∈ lstL D ws j, LnOk x ∧ (10 : UInt8) ∉ x.raw
  | 0, _ => fun x hx => by simp [lstL] at hx
  | j + 1, hj61 => by
    intro x hx
    rw [lst_succ] at hx
    rcases List.mem_append.1 hx with hx | hx
    · exact lst_ok hD hn j (by omega) x hx
    rcases List.mem_append.1 hx with hx | hx
    · unfold hdL at hx
      split at hx
      · simp only [List.mem_singleton] at hx
        subst hx
        refine ⟨.inr (.inl ⟨rfl, rfl, ?_⟩), ?_⟩
        · exact name_mark j (by omega)
        · have := itoa_10' (j : Int)
          simp [lnM]
          exact this
      · simp at hx
    · unfold wdL at hx
      split at hx
      · rename_i hj
        simp only [List.mem_singleton] at hx
        subst hx
        exact lnW_ok hD hn j hj
      · simp at hx
/-- A listing is assembled: to as many words as there are instructions; to the words, if all are. -/
theorem lists_asm {D : BitVec 64 → Option Nat} {ws : List (BitVec 64)} (hD : Ds D ws) (hn : ws.length ≤ 60) : ∃ Y : Nat → BitVec 64, (∀ W, G W → Calls Tryz.prog 9 #[.string (str (listT D ws (ws.length + 1)))] W (Assembled (cD D ws ws.length) Y W)) ∧ (cD D ws ws.length = ws.length → ∀ i, i < ws.length → Y i = wsAt ws i) := by
  obtain ⟨m1, m2, m3⟩ := marks_at D ws (ws.length + 1) (by omega)
  have hM : marksOf (lstL D ws (ws.length + 1) ++ [(⟨0, [], []⟩ : Ln)]) = mkF 0 (fun _ => none) (lstL D ws (ws.length + 1)) := by
    unfold marksOf
    rw [mk_app]
    rfl
  have hcnt : cntL (lstL D ws (ws.length + 1) ++ [(⟨0, [], []⟩ : Ln)]) = cD D ws ws.length := by
    rw [cnt_app, cnt_lst, cD_end]
    rfl
  obtain ⟨M, hMM⟩ : ∃ M, mkF 0 (fun _ => none) (lstL D ws (ws.length + 1)) = M := ⟨_, rfl⟩
  rw [hMM] at m1 m2 m3 hM
  have hex : ∀ j, ∃ y, j < ws.length → (D (wsAt ws j)).isSome = true → WordOk M (cD D ws j) (lineT D ws j) y ∧ (cD D ws ws.length = ws.length → y = wsAt ws j) := fun j => by
    by_cases hj : j < ws.length
    · have hy := hD.lt _ (ws_mem hj)
      have hd := hD.is (wsAt ws j)
      cases hdd : D (wsAt ws j) with
      | none => exact ⟨0#64, fun _ h => (by cases h)⟩
      | some k =>
        rw [hdd] at hd
        obtain ⟨k1, k2, hm⟩ := hd
        obtain ⟨e1, e2⟩ := line_some hdd
        cases hg : goesW D ws j with
        | none =>
          refine ⟨wsAt ws j, fun _ _ => ⟨?_, fun _ => rfl⟩⟩
          rw [e1 hg]
          exact word_no k1 k2 hy hm _ (fun v => m3 _ (itoa_109 v))
        | some t =>
          have ht := goesW_le hg
          have hmk : markP D ws ws.length t = true := mark_mono (a := j + 1) (by omega) (by rw [mark_succ, hg]; simp)
          have l1 := cD_le D ws t
          have l2 := cD_le D ws j
          obtain ⟨y', h1, h2⟩ := word_go (M := M) (c := cD D ws j) (a := cD D ws t) k1 k2 hy hm (e2 t hg).1 (by omega) (by omega) (by omega) (m1 t (by omega) hmk)
          refine ⟨y', fun _ _ => ⟨by rw [(e2 t hg).2]; exact h1, fun hall => h2 (cD_all hall (by omega)) (cD_all hall (by omega))⟩⟩
    · exact ⟨0#64, fun h => absurd h hj⟩
  obtain ⟨y', hy'⟩ := Classical.skolem.1 hex
  classical
  obtain ⟨Y, hYd⟩ : ∃ Y : Nat → BitVec 64, Y = fun c => if h : ∃ j, j < ws.length ∧ (D (wsAt ws j)).isSome = true ∧ cD D ws j = c then y' (Classical.choose h) else 0#64 := ⟨_, rfl⟩
  have hY : ∀ j, j < ws.length → (D (wsAt ws j)).isSome = true → Y (cD D ws j) = y' j := fun j hj hs => by
    have hx : ∃ i, i < ws.length ∧ (D (wsAt ws i)).isSome = true ∧ cD D ws i = cD D ws j := ⟨j, hj, hs, rfl⟩
    rw [hYd]
    simp only [dif_pos hx]
    obtain ⟨a1, a2, a3⟩ := Classical.choose_spec hx
    congr 1
    rcases Nat.lt_trichotomy (Classical.choose hx) j with h | h | h
    · have := cD_lt a1 a2 h
      omega
    · exact h
    · have := cD_lt hj hs h
      omega
  refine ⟨Y, fun W hW => ?_, fun hall i hi => ?_⟩
  · have hall : AllW M Y 0 (lstL D ws (ws.length + 1) ++ [(⟨0, [], []⟩ : Ln)]) := allW_app (allW_lst (fun j hj hs => by rw [hY j hj hs]; exact (hy' j hj hs).1) _) (allW_0 (fun x hx => by simp at hx; subst hx; rfl))
    have huq : Uniq 0 (fun _ => none) (lstL D ws (ws.length + 1) ++ [(⟨0, [], []⟩ : Ln)]) := uniq_app (uniq_lst D ws _ (by omega)) (uniq_none (fun x hx => by simp at hx; subst hx; simp))
    have hmem : ∀ x ∈ lstL D ws (ws.length + 1) ++ [(⟨0, [], []⟩ : Ln)], LnOk x ∧ (10 : UInt8) ∉ x.raw := fun x hx => by
      rcases List.mem_append.1 hx with hx | hx
      · exact lst_ok hD hn _ (by omega) x hx
      · simp at hx
        subst hx
        exact ⟨.inl ⟨rfl, .inl rfl⟩, by decide⟩
    have hlen := lst_count D ws (ws.length + 1)
    have htl := list_short hD hn (ws.length + 1) (Nat.le_refl _)
    have hcl := cD_le D ws ws.length
    have c := assemble_any (lstL D ws (ws.length + 1) ++ [(⟨0, [], []⟩ : Ln)]) Y (by simp) (fun x hx => (hmem x hx).1) (fun x hx => (hmem x hx).2) (by rw [fl_join, fl_lst]; omega) (by rw [hcnt]; omega) (by simp; omega) huq (fun j x hj hc => by
      have := hall j x hj hc
      rw [Nat.zero_add] at this
      rw [hM]
      exact this) W hW
    rw [fl_join, fl_lst, hcnt] at c
    exact c
  · have hci := cD_all hall (by omega : i ≤ ws.length)
    have hs : (D (wsAt ws i)).isSome = true := by
      have h1 := cD_all hall (by omega : i + 1 ≤ ws.length)
      have e : cD D ws (i + 1) = cD D ws i + (if (decide (i < ws.length) && (D (wsAt ws i)).isSome) = true then 1 else 0) := rfl
      rw [h1, hci] at e
      split at e
      · rename_i h
        rw [Bool.and_eq_true] at h
        exact h.2
      · omega
    have := hY i hi hs
    rw [hci] at this
    rw [this]
    exact (hy' i hi hs).2 hall
/-- The listing of the law's one word. -/
theorem list_111 {D : BitVec 64 → Option Nat} (hD : ∀ y, IsDec y (D y)) : listT D [111#64] 2 = [109, 48, 58, 10, 106, 97, 108, 32, 99, 48, 44, 32, 109, 48, 10] := by
  have hd : D 111#64 = some 3 := by
    have h := hD 111#64
    have hm : matchB 3 111#64 = true := by decide +kernel
    cases e : D 111#64 with
    | none =>
      rw [e] at h
      have := h 3 (by omega) (by omega)
      rw [hm] at this
      cases this
    | some k =>
      rw [e] at h
      obtain ⟨h1, h2, h3⟩ := h
      rw [match_one ⟨h1, h2⟩ ⟨by omega, by omega⟩ h3 hm]
  have o3 : opsI 3 111#64 3 = 0 := by decide +kernel
  have o0 : opsI 3 111#64 0 = 0 := by decide +kernel
  have hat : wsAt [111#64] 0 = 111#64 := rfl
  have hq : goesQ 3 0 0 1 = some 0 := by decide +kernel
  have hg : goesW D [111#64] 0 = some 0 := by
    unfold goesW
    rw [hat, hd]
    dsimp only
    rw [o3]
    exact hq
  have hk0 : markP D [111#64] 1 0 = true := by rw [mark_succ, hg]; simp
  have hk1 : markP D [111#64] 1 1 = false := by rw [mark_succ, hg]; simp [markP]
  have hl : lineT D [111#64] 0 = [106, 97, 108, 32, 99, 48, 44, 32, 109, 48] := by
    rw [((line_some (j := 0) (by rw [hat]; exact hd)).2 0 hg).2, hat]
    have e : opL (shp 3) = [0, 3] := by decide +kernel
    have n : nameL 3 = [106, 97, 108] := by decide +kernel
    unfold wr txs
    rw [e, n]
    simp [tx, joinS, o0, itoa_0]
  rw [list_succ, list_succ]
  unfold entT headT
  show listT D [111#64] 0 ++ ((if markP D [111#64] 1 0 = true then _ else _) ++ _) ++ ((if markP D [111#64] 1 1 = true then _ else _) ++ _) = _
  rw [hk0, hk1, hl]
  simp [listT, itoa_0]
end Go.Proofs.YtlommbeokbicjaaGreatDoor
