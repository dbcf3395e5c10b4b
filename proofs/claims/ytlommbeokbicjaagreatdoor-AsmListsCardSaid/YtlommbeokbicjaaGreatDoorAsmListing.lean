/-
  asm.Listing.
-/
import Derived.Test.YtlommbeokbicjaaGreatDoorGList
import Derived.BigQuiet
namespace Go.Proofs.YtlommbeokbicjaaGreatDoor
open Go.RowKit InstMath AsmMath
open Go.Lib (itoa)

theorem obx_al {N : Nat} {w W : World} (h : OutB N w W) (o : Obj) : OutB N w (W.alloc o) := h.trans (OutB.of_below (below_alloc (Below.refl _ _) (Nat.le_refl _) o))
theorem obx_dr {N : Nat} {w W : World} (h : OutB N w W) (n : Nat) : OutB N w (W.drewN n) := ⟨h.os, h.tape, h.output, h.size, h.block⟩
theorem obx_d1 {N : Nat} {w W : World} (h : OutB N w W) : OutB N w W.drew := ⟨h.os, h.tape, h.output, h.size, h.block⟩
theorem obx_set {N i : Nat} {w W : World} (h : OutB N w W) (v : Value) : OutB N w (W.setCell ⟨N, i, none⟩ v) := by
  refine ⟨h.os, h.tape, h.output, ?_, fun k hk hne => ?_⟩
  · have := h.size
    unfold World.setCell
    simpa using this
  · exact (Below.heap_setCell _ _ _ _ hne).trans (h.block k hk hne)
theorem obx_be {N : Nat} {w W W' : World} (h : OutB N w W) (hb : Below W.heap.size W W') : OutB N w W' := h.trans (OutB.of_below hb)
theorem hexF_len : ∀ (m u : Nat), (hexF m u).length ≤ m
  | 0, _ => by simp [hexF]
  | m + 1, u => by
    have := hexF_len m (u / 16)
    unfold hexF
    simp
    omega
/-- What the functions answer to the word j. -/
structure RowL (D : BitVec 64 → Option Nat) (ws : List (BitVec 64)) (b off cap j : Nat) (K x0 x1 x2 x3 : Int) (ok : Bool) : Prop where
  dec : ∀ W, G2 W → Calls Tryz.prog 13 #[.int .u32 ((wsAt ws j).toNat : Int)] W (Makes (.tuple #[.agg #[.int .i64 K, .int .i64 x0, .int .i64 x1, .int .i64 x2, .int .i64 x3], .bool ok]) W)
  tgt : ∀ W, G2 W → Calls Tryz.prog 26 #[.agg #[.int .i64 K, .int .i64 x0, .int .i64 x1, .int .i64 x2, .int .i64 x3], .int .i64 (j : Int), .int .i64 (ws.length : Int)] W (Makes (goesV (goesW D ws j)) W)
  lst : ∀ W, G2 W → W.cell? ⟨b, off + j, none⟩ = some (.int .u32 ((wsAt ws j).toNat : Int)) → Calls Tryz.prog 29 #[.slice (some ⟨b, off, none⟩) ws.length cap, .int .i64 (j : Int)] W (Makes (.string (str (lineT D ws j))) W)
theorem rowl_any {D : BitVec 64 → Option Nat} {ws : List (BitVec 64)} (hD : Ds D ws) (hn : ws.length ≤ 10000) (b off cap j : Nat) (hj : j < ws.length) : ∃ K x0 x1 x2 x3 ok, RowL D ws b off cap j K x0 x1 x2 x3 ok := by
  have hmem : wsAt ws j ∈ ws := by
    unfold wsAt
    rw [List.getD_eq_getElem?_getD, List.getElem?_eq_getElem hj]
    exact List.getElem_mem hj
  have hy := hD.lt _ hmem
  have hd := hD.is (wsAt ws j)
  have ht : wsAt ws j = wsAt ws j := rfl
  generalize hY : wsAt ws j = y at *
  cases hdd : D y with
  | none =>
    rw [hdd] at hd
    have c1 : ∀ W, G2 W → Calls Tryz.prog 13 #[.int .u32 (y.toNat : Int)] W (Makes (.tuple #[.agg #[.int .i64 0, .int .i64 0, .int .i64 0, .int .i64 0, .int .i64 0], .bool false]) W) := fun W hW => dec_any y hy none hd W hW.g.words
    have hl : lineT D ws j = [35, 32, 119, 111, 114, 100, 32] ++ hexF 8 y.toNat := by unfold lineT; rw [hY, hdd]
    have hg : goesW D ws j = none := by unfold goesW; rw [hY, hdd]
    refine ⟨0, 0, 0, 0, 0, false, by rw [hY]; exact c1, fun W hW => ?_, fun W hW hc => ?_⟩
    · rw [hg]
      have := target_any 0 (by omega) 0 0 0 0 (by omega) j ws.length (by omega) hn W
      rw [show goesQ 0 0 j ws.length = none by unfold goesQ; rw [if_neg (by rw [show brB (shp 0) = false by decide +kernel]; simp)]] at this
      exact this
    · rw [hl]
      rw [hY] at hc
      have hlen : (hexF 8 y.toNat).length ≤ 8 := hexF_len 8 _
      exact listed_none (y.toNat : Int) b off j ws.length cap hj _ (str (hexF 8 y.toNat)) (text_add (a := [35, 32, 119, 111, 114, 100, 32]) (b := hexF 8 y.toNat) (by simp; omega)) c1 (hex_any y.toNat hy) W hW hc
  | some k =>
    rw [hdd] at hd
    obtain ⟨k1, k2, hm⟩ := hd
    have c1 : ∀ W, G2 W → Calls Tryz.prog 13 #[.int .u32 (y.toNat : Int)] W (Makes (.tuple #[.agg #[.int .i64 (k : Int), .int .i64 (opsI k y 0), .int .i64 (opsI k y 1), .int .i64 (opsI k y 2), .int .i64 (opsI k y 3)], .bool true]) W) := fun W hW => dec_any y hy (some k) ⟨k1, k2, hm⟩ W hW.g.words
    have hb := dec_imm k1 k2 hy hm
    have hg : goesW D ws j = goesQ k (opsI k y 3) j ws.length := by unfold goesW; rw [hY, hdd]
    have c2 : ∀ W, G2 W → Calls Tryz.prog 26 #[.agg #[.int .i64 (k : Int), .int .i64 (opsI k y 0), .int .i64 (opsI k y 1), .int .i64 (opsI k y 2), .int .i64 (opsI k y 3)], .int .i64 (j : Int), .int .i64 (ws.length : Int)] W (Makes (goesV (goesQ k (opsI k y 3) j ws.length)) W) := fun W _ => target_any k k2 _ _ _ _ (by omega) j ws.length (by omega) hn W
    refine ⟨k, _, _, _, _, true, by rw [hY]; exact c1, fun W hW => by rw [hg]; exact c2 W hW, fun W hW hc => ?_⟩
    rw [hY] at hc
    cases hq : goesQ k (opsI k y 3) j ws.length with
    | none =>
      rw [hq] at c2
      have hl : lineT D ws j = wr k (opsI k y) (itoa (opsI k y 3)) := by unfold lineT; rw [hY, hdd]; dsimp only; rw [hq]
      rw [hl]
      exact listed_no (k : Int) _ _ _ _ (y.toNat : Int) b off j ws.length cap hj _ (str (itoa (opsI k y 3))) c1 c2 (fun V hV => decimal_any _ (opsI_rng k y 3) V hV.g) (fun V hV => write_any k k1 k2 (opsI k y) (opsI_rng k y) _ (last_itoa (opsI_rng k y 3)) V hV.g) W hW hc
    | some t =>
      rw [hq] at c2
      have ht := goes_le hq
      have hl : lineT D ws j = wr k (opsI k y) (109 :: itoa (t : Int)) := by unfold lineT; rw [hY, hdd]; dsimp only; rw [hq]
      rw [hl]
      exact listed_go (k : Int) _ _ _ _ (y.toNat : Int) b off j ws.length cap hj _ (str (109 :: itoa (t : Int))) t c1 c2 (fun V hV => mark_any t (by omega) V hV.g) (fun V hV => write_any k k1 k2 (opsI k y) (opsI_rng k y) _ (last_name (name_mark t (by omega))) V hV.g) W hW hc

theorem ent_len {D : BitVec 64 → Option Nat} {ws : List (BitVec 64)} (hD : Ds D ws) (hn : ws.length ≤ 1000) (j : Nat) (hj : j ≤ ws.length) : (headT D ws j).length ≤ 20 ∧ (lineT D ws j).length ≤ 240 := by
  constructor
  · unfold headT
    split
    · have := itoa_len (n := (j : Int)) (by omega)
      simp
      omega
    · simp
  · unfold lineT
    have hd := hD.is (wsAt ws j)
    cases hdd : D (wsAt ws j) with
    | none =>
      have := hexF_len 8 (wsAt ws j).toNat
      simp
      omega
    | some k =>
      rw [hdd] at hd
      obtain ⟨k1, k2, _⟩ := hd
      dsimp only
      cases hq : goesQ k (opsI k (wsAt ws j) 3) j ws.length with
      | none =>
        have := wr_len k1 (by omega) (last_itoa (opsI_rng k (wsAt ws j) 3)) (opsI_rng k (wsAt ws j))
        dsimp only
        omega
      | some t =>
        have ht := goes_le hq
        have := wr_len k1 (by omega) (last_name (name_mark t (by omega))) (opsI_rng k (wsAt ws j))
        dsimp only
        omega
theorem list_len {D : BitVec 64 → Option Nat} {ws : List (BitVec 64)} (hD : Ds D ws) (hn : ws.length ≤ 1000) : ∀ j, j ≤ ws.length + 1 → (listT D ws j).length ≤ 270 * j
  | 0, _ => by simp [listT]
  | j + 1, hj => by
    have h1 := list_len hD hn j (by omega)
    have h2 := ent_len hD hn j (by omega)
    rw [list_succ]
    unfold entT
    split
    · simp
      omega
    · simp
      omega

set_option maxRecDepth 100000 in
set_option maxHeartbeats 8000000 in
theorem listing_any (D : BitVec 64 → Option Nat) (ws : List (BitVec 64)) (hD : Ds D ws) (n : Nat) (hnn : ws.length = n) (hn : n ≤ 1000) (sa : Option Addr) (cap : Nat) (w : World) (hG : G2 w) (hcell : ∀ j, j < n → ∃ b off, sa = some ⟨b, off, none⟩ ∧ w.cell? ⟨b, off + j, none⟩ = some (.int .u32 ((wsAt ws j).toNat : Int))) :
    Calls Tryz.prog 11 #[.slice sa n cap] w (Makes (.string (str (listT D ws (n + 1)))) w) := by
  obtain ⟨Z, hZ1, hZ2, hmk⟩ := make_bools (n + 1) (by omega)
  have hmk : ∀ W, (Instr.makeSlice 68 (.int .i64 ((n : Int) + 1)) (.int .i64 ((n : Int) + 1))).run Tryz.prog W = .ok (.slice (some ⟨W.heap.size, 0, none⟩) (n + 1) (n + 1)) (W.alloc (.cells Z 4)) := hmk
  have HR : Hid (∀ b off j, j < n → ∃ K x0 x1 x2 x3 ok, RowL D ws b off cap j K x0 x1 x2 x3 ok) := hide (fun b off j hj => rowl_any hD (by omega) b off cap j (by omega))
  have HL : Hid (∀ j, j ≤ n + 1 → (listT D ws j).length ≤ 270 * j) := hide (fun j hj => list_len hD (by omega) j (by omega))
  have HEn : Hid (∀ j, j ≤ n → (headT D ws j).length ≤ 20 ∧ (lineT D ws j).length ≤ 240) := hide (fun j hj => ent_len hD (by omega) j (by omega))
  have HCL := hide hcell
  have HN := hide hnn
  have HGO : Hid (∀ j t, goesW D ws j = some t → t ≤ n) := hide (fun j t h => by
    unfold goesW at h
    split at h
    · have := goes_le h
      omega
    · cases h)
  have HZ2 := hide hZ2
  clear hcell hD hZ2 hnn
  have SS := cell_same
  have LB' := ltB_add
  have LS := ltB_self
  have LA' := alloc_reads
  have LH := alloc_holds
  go_enter Tryz.func11, Tryz.ntmps11
  go_upto_region 2 with fail
  refine wp_abs (fun W => Below w.heap.size w W ∧ Own W w.heap.size (n + 1) ∧ (∀ t, t < n + 1 → W.cell? ⟨w.heap.size, t, none⟩ = some (.bool (markP D ws 0 t)))) ?_ ?_
  · refine ⟨?_, ?_, fun t ht => ?_⟩
    · repeat (first | with_reducible assumption | with_reducible exact Below.refl _ _ | with_reducible refine Below.drew ?_ | with_reducible refine below_drewN ?_ _ | with_reducible refine bw_alloc ?_ _ | (with_reducible refine bw_set ?_ ?_ _; focus (dsimp only; omega)) | (with_reducible apply bw_behind; with_reducible assumption))
    · exact o_new rfl (by rw [hZ1]; exact Nat.le_refl _)
    · show (w.alloc (.cells Z 4)).cell? ⟨w.heap.size, t, none⟩ = some (.bool false)
      have := HZ2.out t ht
      simp [go_sem, this]
  rintro w0 ⟨hB0, hO0, hM0⟩
  have HM0 := hide hM0
  clear hM0 hmk HZ2
  go_wp2
  go_loopw [18] (fun i wr => ∃ j : Nat, j ≤ n ∧ i = .int .i64 (j : Int) ∧ Below w.heap.size w wr ∧ Own wr w.heap.size (n + 1) ∧ Hid (∀ t, t < n + 1 → wr.cell? ⟨w.heap.size, t, none⟩ = some (.bool (markP D ws j t)))) (fun i _ => n - (intOf i).toNat)
  case atStart => exact ⟨0, by omega, rfl, by (repeat (first | with_reducible assumption | with_reducible exact Below.refl _ _ | with_reducible refine Below.drew ?_ | with_reducible refine below_drewN ?_ _ | with_reducible refine bw_alloc ?_ _ | (with_reducible refine bw_set ?_ ?_ _; focus (dsimp only; omega)) | (with_reducible apply bw_behind; with_reducible assumption))), hO0, HM0⟩
  case round =>
    obtain ⟨j, hj, rfl, hB, hO, HM⟩ := hrel
    have hsz := hB.size
    have g3 : (0 : Int) ≤ (j : Int) := by omega
    by_cases hlt : j < n
    · obtain ⟨b, off, rfl, hc⟩ := HCL.out j hlt
      obtain ⟨K, x0, x1, x2, x3, ok, hrow⟩ := HR.out b off j hlt
      have hX := c_be hB hc
      have lB : ltB b wr.heap.size = true := by unfold ltB; simpa using World.block_lt_of_cell? _ _ hX
      have g1 : (j : Int) < (n : Int) := by omega
      have CD := hide hrow.dec
      have CT := hrow.tgt
      rw [HN.out] at CT
      generalize hy : ((wsAt ws j).toNat : Int) = Y at *
      clear hy hc hrow
      have hms := fun t => mark_succ D ws j t
      cases hg : goesW D ws j with
      | none =>
        rw [hg] at CT
        have CT : Hid (∀ W, G2 W → Calls Tryz.prog 26 #[.agg #[.int .i64 K, .int .i64 x0, .int .i64 x1, .int .i64 x2, .int .i64 x3], .int .i64 (j : Int), .int .i64 (n : Int)] W (Makes (.tuple #[.int .i64 0, .bool false]) W)) := hide CT
        have HMS : Hid (∀ t, markP D ws (j + 1) t = markP D ws j t) := hide (fun t => by rw [hms, hg]; simp)
        clear hms hg
        go_wp2_with (first | (go_at_call 13; (first | ((with_reducible refine (CD.out _ ?_).mono ?_); (focus (refine hG.behind ?_; repeat (first | with_reducible assumption | with_reducible exact Below.refl _ _ | with_reducible refine Below.drew ?_ | with_reducible refine below_drewN ?_ _ | with_reducible refine bw_alloc ?_ _ | (with_reducible refine bw_set ?_ ?_ _; focus (dsimp only; omega)) | (with_reducible apply bw_behind; with_reducible assumption)))))); rintro e w1 ⟨rfl, hb1⟩; have hr1 := below_reads hb1; have hh1 := below_holds hb1; obtain ⟨m1, hs1⟩ := below_grew hb1) | (go_at_call 26; (first | ((with_reducible refine (CT.out _ ?_).mono ?_); (focus (refine hG.behind ?_; repeat (first | with_reducible assumption | with_reducible exact Below.refl _ _ | with_reducible refine Below.drew ?_ | with_reducible refine below_drewN ?_ _ | with_reducible refine bw_alloc ?_ _ | (with_reducible refine bw_set ?_ ?_ _; focus (dsimp only; omega)) | (with_reducible apply bw_behind; with_reducible assumption)))))); rintro e w2 ⟨rfl, hb2⟩; have hr2 := below_reads hb2; have hh2 := below_holds hb2; obtain ⟨m2, hs2⟩ := below_grew hb2))
        go_roundw
        case rel =>
          refine ⟨j + 1, by omega, by go_num, by (repeat (first | with_reducible assumption | with_reducible exact Below.refl _ _ | with_reducible refine Below.drew ?_ | with_reducible refine below_drewN ?_ _ | with_reducible refine bw_alloc ?_ _ | (with_reducible refine bw_set ?_ ?_ _; focus (dsimp only; omega)) | (with_reducible apply bw_behind; with_reducible assumption))), by (repeat (first | with_reducible assumption | with_reducible refine o_dr _ ?_ | with_reducible refine o_d1 ?_ | with_reducible refine o_set ?_ | (with_reducible refine o_new ?_ ?_; (focus (simp)); (focus (simp))) | with_reducible refine o_al _ ?_ | (with_reducible apply o_be; with_reducible assumption))), hide (fun t ht => ?_)⟩
          rw [HMS.out]
          have := HM.out t ht
          repeat (first | with_reducible assumption | with_reducible refine c_dr _ ?_ | with_reducible refine c_d1 ?_ | with_reducible refine c_al _ ?_ | (with_reducible refine c_set ?_ ?_; focus (dsimp only; omega)) | (with_reducible apply c_be; with_reducible assumption))
        case measure => simp [intOf]; omega
      | some t =>
        rw [hg] at CT
        have CT : Hid (∀ W, G2 W → Calls Tryz.prog 26 #[.agg #[.int .i64 K, .int .i64 x0, .int .i64 x1, .int .i64 x2, .int .i64 x3], .int .i64 (j : Int), .int .i64 (n : Int)] W (Makes (.tuple #[.int .i64 (t : Int), .bool true]) W)) := hide CT
        have htn := HGO.out j t hg
        have HMS : Hid (∀ t', markP D ws (j + 1) t' = (markP D ws j t' || (t == t'))) := hide (fun t' => by rw [hms, hg]; simp)
        have t1 : (t : Int) < (n : Int) + 1 := by omega
        have t2 : (0 : Int) ≤ (t : Int) := by omega
        have f1 := hO.free t (by omega)
        have m1' := HM.out t (by omega)
        have lM : ltB w.heap.size wr.heap.size = true := by unfold ltB; simpa using World.block_lt_of_cell? _ _ m1'
        clear hms hg
        go_wp2_with (first | (go_at_call 13; (first | ((with_reducible refine (CD.out _ ?_).mono ?_); (focus (refine hG.behind ?_; repeat (first | with_reducible assumption | with_reducible exact Below.refl _ _ | with_reducible refine Below.drew ?_ | with_reducible refine below_drewN ?_ _ | with_reducible refine bw_alloc ?_ _ | (with_reducible refine bw_set ?_ ?_ _; focus (dsimp only; omega)) | (with_reducible apply bw_behind; with_reducible assumption)))))); rintro e w1 ⟨rfl, hb1⟩; have hr1 := below_reads hb1; have hh1 := below_holds hb1; obtain ⟨m1, hs1⟩ := below_grew hb1) | (go_at_call 26; (first | ((with_reducible refine (CT.out _ ?_).mono ?_); (focus (refine hG.behind ?_; repeat (first | with_reducible assumption | with_reducible exact Below.refl _ _ | with_reducible refine Below.drew ?_ | with_reducible refine below_drewN ?_ _ | with_reducible refine bw_alloc ?_ _ | (with_reducible refine bw_set ?_ ?_ _; focus (dsimp only; omega)) | (with_reducible apply bw_behind; with_reducible assumption)))))); rintro e w2 ⟨rfl, hb2⟩; have hr2 := below_reads hb2; have hh2 := below_holds hb2; obtain ⟨m2, hs2⟩ := below_grew hb2))
        go_roundw
        case rel =>
          refine ⟨j + 1, by omega, by go_num, by (repeat (first | with_reducible assumption | with_reducible exact Below.refl _ _ | with_reducible refine Below.drew ?_ | with_reducible refine below_drewN ?_ _ | with_reducible refine bw_alloc ?_ _ | (with_reducible refine bw_set ?_ ?_ _; focus (dsimp only; omega)) | (with_reducible apply bw_behind; with_reducible assumption))), by (repeat (first | with_reducible assumption | with_reducible refine o_dr _ ?_ | with_reducible refine o_d1 ?_ | with_reducible refine o_set ?_ | (with_reducible refine o_new ?_ ?_; (focus (simp)); (focus (simp))) | with_reducible refine o_al _ ?_ | (with_reducible apply o_be; with_reducible assumption))), hide (fun t' ht' => ?_)⟩
          have hk := HM.out t' ht'
          have hk2 : w2.cell? ⟨w.heap.size, t', none⟩ = some (.bool (markP D ws j t')) := by
            repeat (first | with_reducible assumption | with_reducible refine c_dr _ ?_ | with_reducible refine c_d1 ?_ | with_reducible refine c_al _ ?_ | (with_reducible refine c_set ?_ ?_; focus (dsimp only; omega)) | (with_reducible apply c_be; with_reducible assumption))
          rw [HMS.out]
          by_cases e : t = t'
          · subst e
            rw [show (markP D ws j t || (t == t)) = true by simp]
            exact cell_same _ _ _ (by rw [hk2]; rfl)
          · rw [show (markP D ws j t' || (t == t')) = markP D ws j t' by simp [e]]
            rw [World.cell?_setCell_other _ _ _ _ (fun x => e (congrArg Addr.off x))]
            exact hk2
        case measure => simp [intOf]; omega
    · obtain rfl : j = n := by omega
      go_upto_region 10 with fail
      refine wp_abs (fun W => Below w.heap.size w W ∧ w.heap.size < W.heap.size ∧ Hid (∀ t, t < j + 1 → W.cell? ⟨w.heap.size, t, none⟩ = some (.bool (markP D ws j t)))) ?_ ?_
      · refine ⟨by (repeat (first | with_reducible assumption | with_reducible exact Below.refl _ _ | with_reducible refine Below.drew ?_ | with_reducible refine below_drewN ?_ _ | with_reducible refine bw_alloc ?_ _ | (with_reducible refine bw_set ?_ ?_ _; focus (dsimp only; omega)) | (with_reducible apply bw_behind; with_reducible assumption))), World.block_lt_of_cell? _ _ (HM.out 0 (by omega)), HM⟩
      rintro w1 ⟨hB1, hs1, HM1⟩
      clear HM hB hO hsz HGO hlt
      go_wp2
      go_loopw [43] (fun i wr => ∃ q : Nat, q ≤ j + 1 ∧ i = .int .i64 (q : Int) ∧ Below w1.heap.size w1 wr ∧ IsB w1.heap.size w1.heap.size (listT D ws q) wr) (fun i _ => (j + 1) - (intOf i).toNat)
      case atStart => exact ⟨0, by omega, rfl, by (repeat (first | with_reducible assumption | with_reducible exact Below.refl _ _ | with_reducible refine Below.drew ?_ | with_reducible refine below_drewN ?_ _ | with_reducible refine bw_alloc ?_ _ | (with_reducible refine bw_set ?_ ?_ _; focus (dsimp only; omega)) | (with_reducible apply bw_behind; with_reducible assumption))), isb_new w1⟩
      case round =>
        obtain ⟨q, hq, rfl, hB, hI⟩ := hrel
        have hsz := hB.size
        have g3' : (0 : Int) ≤ (q : Int) := by omega
        by_cases hlt : q < j + 1
        · have g1 : (q : Int) < (j : Int) + 1 := by omega
          have cM := c_be hB (HM1.out q hlt)
          have lM : ltB w.heap.size wr.heap.size = true := by unfold ltB; simpa using World.block_lt_of_cell? _ _ cM
          have hL := HL.out q (by omega)
          have hE := HEn.out q (by omega)
          have HT0 : Hid (listT D ws (q + 1) = listT D ws q ++ headT D ws q ++ (if q < j then lineT D ws q ++ [10] else [])) := hide (by rw [list_succ]; unfold entT; rw [HN.out, ← List.append_assoc])
          have CM := hide (fun W (h : G2 W) => mark_any q (by omega) W h.g)
          have hit := itoa_len (n := (q : Int)) (by omega)
          have d1 : ∀ W, (Op.stringOp .add (str (109 :: itoa (q : Int))) ⟨#[58]⟩).run Tryz.prog W = .ok (.string (str (109 :: itoa (q : Int) ++ [58]))) W := text_add (b := [58]) (by simp; omega)
          have d2 : ∀ W, (Op.stringOp .add (str (109 :: itoa (q : Int) ++ [58])) ⟨#[10]⟩).run Tryz.prog W = .ok (.string (str (109 :: itoa (q : Int) ++ [58] ++ [10]))) W := text_add (b := [10]) (by simp; omega)
          have CW : Hid (∀ W, IsB w1.heap.size w1.heap.size (listT D ws q) W → Calls Tryz.prog 27 #[.pointer (some ⟨w1.heap.size, 0, none⟩), .string (str (109 :: itoa (q : Int) ++ [58] ++ [10]))] W (fun e w' => e = .returned (.tuple #[.int .i64 ((109 :: itoa (q : Int) ++ [58] ++ [10]).length : Int), .nilIface]) ∧ IsB w1.heap.size w1.heap.size (listT D ws q ++ (109 :: itoa (q : Int) ++ [58] ++ [10])) w' ∧ Below w1.heap.size W w')) := hide (fun W h => wstr_any _ _ _ _ (by simp; omega) W h)
          have hhd : headT D ws q = if markP D ws j q then 109 :: itoa (q : Int) ++ [58] ++ [10] else [] := by unfold headT; rw [HN.out]
          cases hmk : markP D ws j q with
          | true =>
            rw [hmk] at cM hhd
            rw [if_pos rfl] at hhd
            have HH := hide hhd
            generalize ((109 :: itoa (q : Int) ++ [58] ++ [10]).length : Int) = LN at *
            generalize str (109 :: itoa (q : Int) ++ [58] ++ [10]) = S3 at *
            generalize str (109 :: itoa (q : Int) ++ [58]) = S2 at *
            generalize str (109 :: itoa (q : Int)) = S1 at *
            clear hhd hmk hit
            go_upto_region 16 with (first | (go_at_call 28; (first | ((with_reducible refine (CM.out _ ?_).mono ?_); (focus (refine hG.behind ?_; repeat (first | with_reducible assumption | with_reducible exact Below.refl _ _ | with_reducible refine Below.drew ?_ | with_reducible refine below_drewN ?_ _ | with_reducible refine bw_alloc ?_ _ | (with_reducible refine bw_set ?_ ?_ _; focus (dsimp only; omega)) | (with_reducible apply bw_behind; with_reducible assumption)))))); rintro e w3 ⟨rfl, hb3⟩; have hr3 := below_reads hb3; have hh3 := below_holds hb3; obtain ⟨m3, hs3⟩ := below_grew hb3) | (go_at_call 27; (with_reducible refine (CW.out _ ?_).mono ?_); (focus (repeat (first | with_reducible assumption | with_reducible refine isb_dr _ ?_ | with_reducible refine isb_d1 ?_ | with_reducible refine isb_al _ ?_ | (with_reducible apply isb_be; with_reducible assumption)))); rintro e w4 ⟨rfl, hi4, hb4⟩))
            refine wp_abs (fun W => Below w1.heap.size w1 W ∧ IsB w1.heap.size w1.heap.size (listT D ws q ++ headT D ws q) W) ?_ ?_
            · exact ⟨(bw_behind hb3 hB).trans hb4, by rw [HH.out]; exact hi4⟩
            rintro w5 ⟨hB5, hI5⟩
            have hBw5 := bw_behind hB5 hB1
            have hz5 := hB5.size
            by_cases hqj : q < j
            · obtain ⟨b, off, rfl, hc⟩ := HCL.out q hqj
              obtain ⟨K, x0, x1, x2, x3, ok, hrow⟩ := HR.out b off q hqj
              have CL : Hid (Calls Tryz.prog 29 #[.slice (some ⟨b, off, none⟩) j cap, .int .i64 (q : Int)] w5 (Makes (.string (str (lineT D ws q))) w5)) := hide (by
                have := hrow.lst w5 (hG.behind hBw5) (c_be hBw5 hc)
                rw [HN.out] at this
                exact this)
              have g5 : (q : Int) < (j : Int) := by omega
              have d3 : ∀ W, (Op.stringOp .add (str (lineT D ws q)) ⟨#[10]⟩).run Tryz.prog W = .ok (.string (str (lineT D ws q ++ [10]))) W := text_add (b := [10]) (by simp; omega)
              have CW2 : Hid (∀ W, IsB w1.heap.size w1.heap.size (listT D ws q ++ headT D ws q) W → Calls Tryz.prog 27 #[.pointer (some ⟨w1.heap.size, 0, none⟩), .string (str (lineT D ws q ++ [10]))] W (fun e w' => e = .returned (.tuple #[.int .i64 ((lineT D ws q ++ [10]).length : Int), .nilIface]) ∧ IsB w1.heap.size w1.heap.size (listT D ws q ++ headT D ws q ++ (lineT D ws q ++ [10])) w' ∧ Below w1.heap.size W w')) := hide (fun W h => wstr_any _ _ _ _ (by simp; omega) W h)
              generalize ((lineT D ws q ++ [10]).length : Int) = LN2 at *
              generalize str (lineT D ws q ++ [10]) = S5 at *
              generalize str (lineT D ws q) = S4 at *
              go_wp2_with (first | (go_at_call 29; (with_reducible refine CL.out.mono ?_); rintro e w6 ⟨rfl, hb6⟩; have hr6 := below_reads hb6; have hh6 := below_holds hb6; obtain ⟨m6, hs6⟩ := below_grew hb6) | (go_at_call 27; (with_reducible refine (CW2.out _ ?_).mono ?_); (focus (repeat (first | with_reducible assumption | with_reducible refine isb_dr _ ?_ | with_reducible refine isb_d1 ?_ | with_reducible refine isb_al _ ?_ | (with_reducible apply isb_be; with_reducible assumption)))); rintro e w7 ⟨rfl, hi7, hb7⟩))
              go_roundw
              case rel =>
                refine ⟨q + 1, by omega, by go_num, (bw_behind hb6 hB5).trans hb7, ?_⟩
                rw [HT0.out, if_pos hqj]
                exact hi7
              case measure => simp [intOf]; omega
            · have g5 : ¬ ((q : Int) < (j : Int)) := by omega
              go_wp2
              go_roundw
              case rel =>
                refine ⟨q + 1, by omega, by go_num, by (repeat (first | with_reducible assumption | with_reducible exact Below.refl _ _ | with_reducible refine Below.drew ?_ | with_reducible refine below_drewN ?_ _ | with_reducible refine bw_alloc ?_ _ | (with_reducible refine bw_set ?_ ?_ _; focus (dsimp only; omega)) | (with_reducible apply bw_behind; with_reducible assumption))), ?_⟩
                rw [HT0.out, if_neg hqj, List.append_nil]
                repeat (first | with_reducible assumption | with_reducible refine isb_dr _ ?_ | with_reducible refine isb_d1 ?_ | with_reducible refine isb_al _ ?_ | (with_reducible apply isb_be; with_reducible assumption))
              case measure => simp [intOf]; omega
          | false =>
            rw [hmk] at cM hhd
            rw [if_neg (by simp)] at hhd
            clear hmk hit d1 d2 CW CM
            go_upto_region 16 with fail
            refine wp_abs (fun W => Below w1.heap.size w1 W ∧ IsB w1.heap.size w1.heap.size (listT D ws q ++ headT D ws q) W) ?_ ?_
            · refine ⟨by (repeat (first | with_reducible assumption | with_reducible exact Below.refl _ _ | with_reducible refine Below.drew ?_ | with_reducible refine below_drewN ?_ _ | with_reducible refine bw_alloc ?_ _ | (with_reducible refine bw_set ?_ ?_ _; focus (dsimp only; omega)) | (with_reducible apply bw_behind; with_reducible assumption))), ?_⟩
              rw [hhd, List.append_nil]
              repeat (first | with_reducible assumption | with_reducible refine isb_dr _ ?_ | with_reducible refine isb_d1 ?_ | with_reducible refine isb_al _ ?_ | (with_reducible apply isb_be; with_reducible assumption))
            rintro w5 ⟨hB5, hI5⟩
            have hBw5 := bw_behind hB5 hB1
            have hz5 := hB5.size
            by_cases hqj : q < j
            · obtain ⟨b, off, rfl, hc⟩ := HCL.out q hqj
              obtain ⟨K, x0, x1, x2, x3, ok, hrow⟩ := HR.out b off q hqj
              have CL : Hid (Calls Tryz.prog 29 #[.slice (some ⟨b, off, none⟩) j cap, .int .i64 (q : Int)] w5 (Makes (.string (str (lineT D ws q))) w5)) := hide (by
                have := hrow.lst w5 (hG.behind hBw5) (c_be hBw5 hc)
                rw [HN.out] at this
                exact this)
              have g5 : (q : Int) < (j : Int) := by omega
              have d3 : ∀ W, (Op.stringOp .add (str (lineT D ws q)) ⟨#[10]⟩).run Tryz.prog W = .ok (.string (str (lineT D ws q ++ [10]))) W := text_add (b := [10]) (by simp; omega)
              have CW2 : Hid (∀ W, IsB w1.heap.size w1.heap.size (listT D ws q ++ headT D ws q) W → Calls Tryz.prog 27 #[.pointer (some ⟨w1.heap.size, 0, none⟩), .string (str (lineT D ws q ++ [10]))] W (fun e w' => e = .returned (.tuple #[.int .i64 ((lineT D ws q ++ [10]).length : Int), .nilIface]) ∧ IsB w1.heap.size w1.heap.size (listT D ws q ++ headT D ws q ++ (lineT D ws q ++ [10])) w' ∧ Below w1.heap.size W w')) := hide (fun W h => wstr_any _ _ _ _ (by simp; omega) W h)
              generalize ((lineT D ws q ++ [10]).length : Int) = LN2 at *
              generalize str (lineT D ws q ++ [10]) = S5 at *
              generalize str (lineT D ws q) = S4 at *
              go_wp2_with (first | (go_at_call 29; (with_reducible refine CL.out.mono ?_); rintro e w6 ⟨rfl, hb6⟩; have hr6 := below_reads hb6; have hh6 := below_holds hb6; obtain ⟨m6, hs6⟩ := below_grew hb6) | (go_at_call 27; (with_reducible refine (CW2.out _ ?_).mono ?_); (focus (repeat (first | with_reducible assumption | with_reducible refine isb_dr _ ?_ | with_reducible refine isb_d1 ?_ | with_reducible refine isb_al _ ?_ | (with_reducible apply isb_be; with_reducible assumption)))); rintro e w7 ⟨rfl, hi7, hb7⟩))
              go_roundw
              case rel =>
                refine ⟨q + 1, by omega, by go_num, (bw_behind hb6 hB5).trans hb7, ?_⟩
                rw [HT0.out, if_pos hqj]
                exact hi7
              case measure => simp [intOf]; omega
            · have g5 : ¬ ((q : Int) < (j : Int)) := by omega
              go_wp2
              go_roundw
              case rel =>
                refine ⟨q + 1, by omega, by go_num, by (repeat (first | with_reducible assumption | with_reducible exact Below.refl _ _ | with_reducible refine Below.drew ?_ | with_reducible refine below_drewN ?_ _ | with_reducible refine bw_alloc ?_ _ | (with_reducible refine bw_set ?_ ?_ _; focus (dsimp only; omega)) | (with_reducible apply bw_behind; with_reducible assumption))), ?_⟩
                rw [HT0.out, if_neg hqj, List.append_nil]
                repeat (first | with_reducible assumption | with_reducible refine isb_dr _ ?_ | with_reducible refine isb_d1 ?_ | with_reducible refine isb_al _ ?_ | (with_reducible apply isb_be; with_reducible assumption))
              case measure => simp [intOf]; omega
        · obtain rfl : q = j + 1 := by omega
          have CB : Hid (∀ W, IsB w1.heap.size w1.heap.size (listT D ws (j + 1)) W → Calls Tryz.prog 30 #[.pointer (some ⟨w1.heap.size, 0, none⟩)] W (fun e w' => e = .returned (.string (str (listT D ws (j + 1)))) ∧ Below w1.heap.size W w')) := hide (fun W h => bstr_any _ _ _ W h)
          go_wp2_with (first | (go_at_call 30; (with_reducible refine (CB.out _ ?_).mono ?_); (focus (repeat (first | with_reducible assumption | with_reducible refine isb_dr _ ?_ | with_reducible refine isb_d1 ?_ | with_reducible refine isb_al _ ?_ | (with_reducible apply isb_be; with_reducible assumption)))); rintro e w8 ⟨rfl, hb8⟩))
          go_ret
          refine ⟨rfl, ?_⟩
          exact bw_behind (hB.trans hb8) hB1

end Go.Proofs.YtlommbeokbicjaaGreatDoor
