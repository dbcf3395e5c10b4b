/-
  The document's listing.
-/
import Derived.Test.YtlommbeokbicjaaGreatDoorAsmRef5b
namespace Go.Proofs.YtlommbeokbicjaaGreatDoor
open Go.RowKit InstMath AsmMath
open Go.Lib (itoa)

theorem cut_text {T A : List UInt8} {i : Nat} (h : T.take i = A) (hi : i ≤ T.length) (W : World) : (Instr.slice 9 (.string (str T)) none (some (.int .i64 (i : Int))) none).run Tryz.prog W = .ok (.string (str A)) W := by
  have hz : (str T).size = T.length := str_size T
  have hx : (str T).extract 0 i = str A := by
    rw [str_extract, List.drop_zero, Nat.sub_zero, h]
  simp [go_sem, hz, hi, hx]
/-- Where the text of a branch is cut. -/
theorem wr_last {k : Nat} (hb : brB (shp k) = true) (F : Nat → Int) : ∃ L, ∀ s, wr k F s = L ++ 32 :: s := by
  have h2 : shp k = 66 ∨ shp k = 74 := by
    unfold brB at hb
    simp at hb
    omega
  rcases h2 with h | h
  · refine ⟨nameL k ++ 32 :: (99 :: itoa (F 1) ++ [44, 32] ++ (99 :: itoa (F 2) ++ [44])), fun s => ?_⟩
    unfold wr txs
    rw [h, show opL 66 = [1, 2, 3] by decide]
    simp [joinS, tx]
  · refine ⟨nameL k ++ 32 :: (99 :: itoa (F 0) ++ [44]), fun s => ?_⟩
    unfold wr txs
    rw [h, show opL 74 = [0, 3] by decide]
    simp [joinS, tx]
/-- What the document's functions answer to the word j; its text, and the line. -/
structure RowX (D : BitVec 64 → Option Nat) (ws : List (BitVec 64)) (j : Nat) (K x0 x1 x2 x3 : Int) (ok : Bool) (T : List UInt8) : Prop where
  row : RowD D ws j K x0 x1 x2 x3 ok
  text : ok = true → ∀ W, Calls Tryz.prog 35 #[.agg #[.int .i64 K, .int .i64 x0, .int .i64 x1, .int .i64 x2, .int .i64 x3]] W (Makes (.string (str T)) W)
  len : T.length ≤ 240
  bad : ok = false → lineT D ws j = [35, 32, 119, 111, 114, 100, 32] ++ hexF 8 (wsAt ws j).toNat
  plain : ok = true → goesW D ws j = none → lineT D ws j = T
  go : ∀ t, ok = true → goesW D ws j = some t → ∃ L B, T = L ++ 32 :: B ∧ (32 : UInt8) ∉ B ∧ lineT D ws j = L ++ 32 :: 109 :: itoa (t : Int)
theorem rowx_any {D : BitVec 64 → Option Nat} {ws : List (BitVec 64)} (hD : Ds D ws) (hn : ws.length ≤ 10000) (j : Nat) (hj : j < ws.length) : ∃ K x0 x1 x2 x3 ok T, RowX D ws j K x0 x1 x2 x3 ok T := by
  have hmem : wsAt ws j ∈ ws := by
    unfold wsAt
    rw [List.getD_eq_getElem?_getD, List.getElem?_eq_getElem hj]
    exact List.getElem_mem hj
  have hy := hD.lt _ hmem
  have hd := hD.is (wsAt ws j)
  cases hdd : D (wsAt ws j) with
  | none =>
    rw [hdd] at hd
    have hg : goesW D ws j = none := by unfold goesW; rw [hdd]
    exact ⟨0, 0, 0, 0, 0, false, [], ⟨fun W => rdec_any (wsAt ws j) hy none hd W, fun h => (by cases h), fun _ => hg⟩, fun h => (by cases h), by simp, fun _ => (by unfold lineT; rw [hdd]), fun h => (by cases h), fun _ h => (by cases h)⟩
  | some k =>
    rw [hdd] at hd
    have hd2 := hd
    obtain ⟨k1, k2, hm⟩ := hd
    have hb := dec_imm k1 k2 hy hm
    have hg : goesW D ws j = goesQ k (opsI k (wsAt ws j) 3) j ws.length := by unfold goesW; rw [hdd]
    refine ⟨(k : Int), _, _, _, _, true, wr k (opsI k (wsAt ws j)) (itoa (opsI k (wsAt ws j) 3)), ⟨fun W => rdec_any (wsAt ws j) hy (some k) hd2 W, fun _ W => ?_, fun h => (by cases h)⟩, fun _ W => ?_, ?_, fun h => (by cases h), fun _ h => ?_, fun t _ h => ?_⟩
    · rw [hg]
      obtain ⟨i, rfl⟩ : ∃ i, k = i + 1 := ⟨k - 1, by omega⟩
      exact rgoes_any i (by omega) _ _ _ _ (by omega) j ws.length (by omega) hn W
    · obtain ⟨i, rfl⟩ : ∃ i, k = i + 1 := ⟨k - 1, by omega⟩
      exact rtext_any i (by omega) hy hm W
    · have := wr_len k1 (by omega) (last_itoa (opsI_rng k (wsAt ws j) 3)) (opsI_rng k (wsAt ws j))
      omega
    · rw [hg] at h
      unfold lineT
      rw [hdd]
      dsimp only
      rw [h]
    · rw [hg] at h
      obtain ⟨L, hL⟩ := wr_last (goes_br h) (opsI k (wsAt ws j))
      refine ⟨L, itoa (opsI k (wsAt ws j) 3), hL _, fun hb => (ok_ne (ok_itoa _ hb)).2.1 rfl, ?_⟩
      unfold lineT
      rw [hdd]
      dsimp only
      rw [h]
      exact hL _

set_option maxRecDepth 100000 in
set_option maxHeartbeats 8000000 in
theorem rlisting_any (D : BitVec 64 → Option Nat) (ws : List (BitVec 64)) (hD : Ds D ws) (n : Nat) (hnn : ws.length = n) (hn : n ≤ 1000) (sa : Option Addr) (cap : Nat) (w : World) (hcell : ∀ j, j < n → ∃ b off, sa = some ⟨b, off, none⟩ ∧ w.cell? ⟨b, off + j, none⟩ = some (.int .u32 ((wsAt ws j).toNat : Int))) :
    Calls Tryz.prog 12 #[.slice sa n cap] w (Makes (.string (str (listT D ws (n + 1)))) w) := by
  have HR : Hid (∀ j, j < n → ∃ K x0 x1 x2 x3 ok T, RowX D ws j K x0 x1 x2 x3 ok T) := hide (fun j hj => rowx_any hD (by omega) j (by omega))
  have HL : Hid (∀ j, j ≤ n + 1 → (listT D ws j).length ≤ 270 * j) := hide (fun j hj => list_len hD (by omega) j (by omega))
  have HEn : Hid (∀ j, j ≤ n → (headT D ws j).length ≤ 20 ∧ (lineT D ws j).length ≤ 240) := hide (fun j hj => ent_len hD (by omega) j (by omega))
  have HCL := hide hcell
  have HN := hide hnn
  have HGO : Hid (∀ j t, goesW D ws j = some t → t ≤ n) := hide (fun j t h => by
    unfold goesW at h
    split at h
    · have := goes_le h
      omega
    · cases h)
  have HMA : Hid (∀ q W, Below w.heap.size w W → Calls Tryz.prog 31 #[.slice sa n cap, .int .i64 ((q : Nat) : Int)] W (Makes (.bool (markP D ws n q)) W)) := hide (fun q W hb => rmarked_any D ws hD n hnn hn sa cap q W (fun j hj => by
    obtain ⟨b, off, h1, h2⟩ := hcell j hj
    exact ⟨b, off, h1, c_be hb h2⟩))
  obtain ⟨R, hR⟩ : ∃ R, str (listT D ws (n + 1)) = R := ⟨_, rfl⟩
  rw [hR]
  have HRR := hide hR
  have HX : ∀ u, u < 4294967296 → Hid (∀ W, Calls Tryz.prog 34 #[.int .u32 ((u : Nat) : Int), .int .i64 8] W (Makes (.string (str (hexF 8 u))) W)) := fun u hu => hide (fun W => rhex_any 8 u (by omega) hu W)
  have HLT : Hid (∀ j, (wsAt ws j).toNat < 4294967296) := hide (fun j => by
    unfold wsAt
    rw [List.getD_eq_getElem?_getD]
    cases h : ws[j]? with
    | none => decide
    | some y => exact hD.lt y (List.mem_of_getElem? h))
  have HXX := hide HX
  clear hcell hD hnn hR HX
  have SS := cell_same
  have LB' := ltB_add
  have LS := ltB_self
  have LA' := alloc_reads
  have LH := alloc_holds
  go_enter Tryz.func12, Tryz.ntmps12
  go_wp2
  go_loopw [3, 4] (fun v i wr => ∃ q : Nat, q ≤ n ∧ i = .int .i64 (q : Int) ∧ v = .string (str (listT D ws q)) ∧ Below w.heap.size w wr) (fun _ i _ => n + 1 - (intOf i).toNat)
  case atStart => exact ⟨0, by omega, rfl, rfl, by (repeat (first | with_reducible assumption | with_reducible exact Below.refl _ _ | with_reducible refine Below.drew ?_ | with_reducible refine below_drewN ?_ _ | with_reducible refine bw_alloc ?_ _ | (with_reducible refine bw_set ?_ ?_ _; focus (dsimp only; omega)) | (with_reducible apply bw_behind; with_reducible assumption)))⟩
  case round =>
    obtain ⟨q, hq, rfl, rfl, hB⟩ := hrel
    have hsz := hB.size
    have g0 : (0 : Int) ≤ (q : Int) := by omega
    have g2 : (q : Int) ≤ (n : Int) := by omega
    have hL := HL.out q (by omega)
    have hE := HEn.out q (by omega)
    have CM := hide (HMA.out q)
    have CN : Hid (∀ W, Calls Tryz.prog 32 #[.int .i64 (q : Int)] W (Makes (.string (str (itoa (q : Int)))) W)) := hide (fun W => rnum_any (q : Int) (by omega) W)
    have hit := itoa_len (n := (q : Int)) (by omega)
    have hhd : headT D ws q = if markP D ws n q then 109 :: itoa (q : Int) ++ [58] ++ [10] else [] := by unfold headT; rw [HN.out]
    have hls := list_succ D ws q
    have hen : entT D ws q = headT D ws q ++ (if q < n then lineT D ws q ++ [10] else []) := by unfold entT; rw [HN.out]
    have d1 : ∀ W, (Op.stringOp .add (str (listT D ws q)) ⟨#[109]⟩).run Tryz.prog W = .ok (.string (str (listT D ws q ++ [109]))) W := text_add (b := [109]) (by simp; omega)
    have d2 : ∀ W, (Op.stringOp .add (str (listT D ws q ++ [109])) (str (itoa (q : Int)))).run Tryz.prog W = .ok (.string (str (listT D ws q ++ [109] ++ itoa (q : Int)))) W := text_add (by simp; omega)
    have d3 : ∀ W, (Op.stringOp .add (str (listT D ws q ++ [109] ++ itoa (q : Int))) ⟨#[58, 10]⟩).run Tryz.prog W = .ok (.string (str (listT D ws q ++ [109] ++ itoa (q : Int) ++ [58, 10]))) W := text_add (b := [58, 10]) (by simp; omega)
    obtain ⟨H, hH⟩ : ∃ H, listT D ws q ++ headT D ws q = H := ⟨_, rfl⟩
    have hHl : H.length ≤ 280000 := by
      rw [← hH, List.length_append]
      omega
    have hnx : listT D ws (q + 1) = H ++ (if q < n then lineT D ws q ++ [10] else []) := by rw [hls, hen, ← List.append_assoc, hH]
    have HNX := hide hnx
    have hll := hE.2
    clear hls hen hnx hL hE
    rcases (Bool.eq_false_or_eq_true (markP D ws n q)) with hmk | hmk
    case' inl =>
      rw [hmk] at hhd CM
      rw [if_pos rfl] at hhd
      have e3 : listT D ws q ++ [109] ++ itoa (q : Int) ++ [58, 10] = H := by
        rw [← hH, hhd]
        simp
      rw [e3] at d3
      clear hhd hmk hH hit e3
      generalize str (listT D ws q ++ [109] ++ itoa (q : Int)) = S2 at *
      generalize str (listT D ws q ++ [109]) = S1 at *
      generalize str (listT D ws q) = S0 at *
      generalize str (itoa (q : Int)) = SI at *
      go_upto_region 7 with (first | (go_at_call 31; (with_reducible refine (CM.out _ ?_).mono ?_); (focus (repeat (first | with_reducible assumption | with_reducible exact Below.refl _ _ | with_reducible refine Below.drew ?_ | with_reducible refine below_drewN ?_ _ | with_reducible refine bw_alloc ?_ _ | (with_reducible refine bw_set ?_ ?_ _; focus (dsimp only; omega)) | (with_reducible apply bw_behind; with_reducible assumption)))); rintro e w6 ⟨rfl, hb6⟩; have hr6 := below_reads hb6; have hh6 := below_holds hb6; obtain ⟨m6, hs6⟩ := below_grew hb6) | (go_at_call 32; (with_reducible refine (CN.out _).mono ?_); rintro e w7 ⟨rfl, hb7⟩; have hr7 := below_reads hb7; have hh7 := below_holds hb7; obtain ⟨m7, hs7⟩ := below_grew hb7))
    case' inr =>
      rw [hmk] at hhd CM
      rw [if_neg (by simp)] at hhd
      have e3 : listT D ws q = H := by
        rw [← hH, hhd]
        simp
      rw [e3]
      clear hhd hmk hH hit e3 d1 d2 d3 CN
      go_upto_region 7 with (first | (go_at_call 31; (with_reducible refine (CM.out _ ?_).mono ?_); (focus (repeat (first | with_reducible assumption | with_reducible exact Below.refl _ _ | with_reducible refine Below.drew ?_ | with_reducible refine below_drewN ?_ _ | with_reducible refine bw_alloc ?_ _ | (with_reducible refine bw_set ?_ ?_ _; focus (dsimp only; omega)) | (with_reducible apply bw_behind; with_reducible assumption)))); rintro e w6 ⟨rfl, hb6⟩; have hr6 := below_reads hb6; have hh6 := below_holds hb6; obtain ⟨m6, hs6⟩ := below_grew hb6))
    all_goals
      refine wp_abs (fun W => Below w.heap.size w W) ?_ ?_
      · repeat (first | with_reducible assumption | with_reducible exact Below.refl _ _ | with_reducible refine Below.drew ?_ | with_reducible refine below_drewN ?_ _ | with_reducible refine bw_alloc ?_ _ | (with_reducible refine bw_set ?_ ?_ _; focus (dsimp only; omega)) | (with_reducible apply bw_behind; with_reducible assumption))
      rintro w5 hB5
      clear hB hsz CM
      have hsz := hB5.size
      by_cases hlt : q < n
      · obtain ⟨b, off, rfl, hc⟩ := HCL.out q hlt
        obtain ⟨K, x0, x1, x2, x3, ok, T, hrow⟩ := HR.out q hlt
        have hX := c_be hB5 hc
        have lB : ltB b w5.heap.size = true := by unfold ltB; simpa using World.block_lt_of_cell? _ _ hX
        have g1 : (q : Int) < (n : Int) := by omega
        have g4 : ((q : Int) == (n : Int)) = false := by simp; omega
        have CD := hide hrow.row.dec
        have CX := hide (HXX.out _ (HLT.out q)).out
        have HO := hrow.bad
        have hT := hrow.len
        have hnx := HNX.out
        rw [if_pos hlt] at hnx
        cases ok with
        | false =>
          have hl := HO rfl
          have hxl := hexF_len 8 (wsAt ws q).toNat
          have d4 : ∀ W, (Op.stringOp .add (str H) ⟨#[35, 32, 119, 111, 114, 100, 32]⟩).run Tryz.prog W = .ok (.string (str (H ++ [35, 32, 119, 111, 114, 100, 32]))) W := text_add (b := [35, 32, 119, 111, 114, 100, 32]) (by simp; omega)
          have d5 : ∀ W, (Op.stringOp .add (str (H ++ [35, 32, 119, 111, 114, 100, 32])) (str (hexF 8 (wsAt ws q).toNat))).run Tryz.prog W = .ok (.string (str (H ++ [35, 32, 119, 111, 114, 100, 32] ++ hexF 8 (wsAt ws q).toNat))) W := text_add (by simp; omega)
          have d6 : ∀ W, (Op.stringOp .add (str (H ++ [35, 32, 119, 111, 114, 100, 32] ++ hexF 8 (wsAt ws q).toNat)) ⟨#[10]⟩).run Tryz.prog W = .ok (.string (str (listT D ws (q + 1)))) W := by
            rw [hnx, hl, ← List.append_assoc, ← List.append_assoc]
            exact text_add (b := [10]) (by simp; omega)
          clear hl hxl hnx HO hrow hll hT hHl
          generalize str (H ++ [35, 32, 119, 111, 114, 100, 32] ++ hexF 8 (wsAt ws q).toNat) = S5 at *
          generalize str (H ++ [35, 32, 119, 111, 114, 100, 32]) = S4 at *
          generalize str (hexF 8 (wsAt ws q).toNat) = SX at *
          generalize hs6 : str (listT D ws (q + 1)) = S6 at *
          generalize str H = SH at *
          generalize hy : ((wsAt ws q).toNat : Int) = Y at *
          have HS6 := hide hs6
          clear hy hc hs6
          go_wp2_with (first | (go_at_call 33; (with_reducible refine (CD.out _).mono ?_); rintro e w1 ⟨rfl, hb1⟩; have hr1 := below_reads hb1; have hh1 := below_holds hb1; obtain ⟨m1, hs1⟩ := below_grew hb1) | (go_at_call 34; (with_reducible refine (CX.out _).mono ?_); rintro e w2 ⟨rfl, hb2⟩; have hr2 := below_reads hb2; have hh2 := below_holds hb2; obtain ⟨m2, hs2⟩ := below_grew hb2))
          go_roundw
          case rel => exact ⟨q + 1, by omega, by go_num, (by rw [HS6.out]), by (repeat (first | with_reducible assumption | with_reducible exact Below.refl _ _ | with_reducible refine Below.drew ?_ | with_reducible refine below_drewN ?_ _ | with_reducible refine bw_alloc ?_ _ | (with_reducible refine bw_set ?_ ?_ _; focus (dsimp only; omega)) | (with_reducible apply bw_behind; with_reducible assumption)))⟩
          case measure => simp [intOf]; omega
        | true =>
          have CT := hide (hrow.text rfl)
          have CG := hrow.row.goes rfl
          rw [HN.out] at CG
          have HP := hrow.plain rfl
          have HG := fun t => hrow.go t rfl
          clear HO CX hrow
          cases hg : goesW D ws q with
          | none =>
            have hl := HP hg
            have CG : Hid (∀ W, Calls Tryz.prog 36 #[.agg #[.int .i64 K, .int .i64 x0, .int .i64 x1, .int .i64 x2, .int .i64 x3], .int .i64 (q : Int), .int .i64 (n : Int)] W (fun e w' => ∃ TT : Int, e = .returned (.tuple #[.int .i64 TT, .bool false]) ∧ Below W.heap.size W w')) := hide (fun W => (CG W).mono fun e w' h => by
              rw [hg] at h
              obtain ⟨TT, h1, _, h3⟩ := h
              exact ⟨TT, h1, h3⟩)
            have d4 : ∀ W, (Op.stringOp .add (str H) (str T)).run Tryz.prog W = .ok (.string (str (H ++ T))) W := text_add (by omega)
            have d5 : ∀ W, (Op.stringOp .add (str (H ++ T)) ⟨#[10]⟩).run Tryz.prog W = .ok (.string (str (listT D ws (q + 1)))) W := by
              rw [hnx, hl, ← List.append_assoc]
              exact text_add (b := [10]) (by simp; omega)
            clear hl hnx HP HG hll hT hHl hg
            generalize str (H ++ T) = S4 at *
            generalize str T = ST at *
            generalize hs6 : str (listT D ws (q + 1)) = S6 at *
            generalize str H = SH at *
            generalize hy : ((wsAt ws q).toNat : Int) = Y at *
            have HS6 := hide hs6
            clear hy hc hs6
            go_wp2_with (first | (go_at_call 33; (with_reducible refine (CD.out _).mono ?_); rintro e w1 ⟨rfl, hb1⟩; have hr1 := below_reads hb1; have hh1 := below_holds hb1; obtain ⟨m1, hs1⟩ := below_grew hb1) | (go_at_call 35; (with_reducible refine (CT.out _).mono ?_); rintro e w2 ⟨rfl, hb2⟩; have hr2 := below_reads hb2; have hh2 := below_holds hb2; obtain ⟨m2, hs2⟩ := below_grew hb2) | (go_at_call 36; (with_reducible refine (CG.out _).mono ?_); rintro e w3 ⟨TT, rfl, hb3⟩; have hr3 := below_reads hb3; have hh3 := below_holds hb3; obtain ⟨m3, hs3⟩ := below_grew hb3))
            go_roundw
            case rel => exact ⟨q + 1, by omega, by go_num, (by rw [HS6.out]), by (repeat (first | with_reducible assumption | with_reducible exact Below.refl _ _ | with_reducible refine Below.drew ?_ | with_reducible refine below_drewN ?_ _ | with_reducible refine bw_alloc ?_ _ | (with_reducible refine bw_set ?_ ?_ _; focus (dsimp only; omega)) | (with_reducible apply bw_behind; with_reducible assumption)))⟩
            case measure => simp [intOf]; omega
          | some t =>
            have htn := HGO.out q t hg
            obtain ⟨L, B, hTT, h32, hl⟩ := HG t hg
            have CG : Hid (∀ W, Calls Tryz.prog 36 #[.agg #[.int .i64 K, .int .i64 x0, .int .i64 x1, .int .i64 x2, .int .i64 x3], .int .i64 (q : Int), .int .i64 (n : Int)] W (fun e w' => e = .returned (.tuple #[.int .i64 (t : Int), .bool true]) ∧ Below W.heap.size W w')) := hide (fun W => (CG W).mono fun e w' h => by
              rw [hg] at h
              obtain ⟨TT, h1, h2, h3⟩ := h
              rw [h2 t rfl] at h1
              exact ⟨h1, h3⟩)
            have CN2 : Hid (∀ W, Calls Tryz.prog 32 #[.int .i64 (t : Int)] W (Makes (.string (str (itoa (t : Int)))) W)) := hide (fun W => rnum_any (t : Int) (by omega) W)
            have hit := itoa_len (n := (t : Int)) (by omega)
            have hTL : T.length = L.length + 1 + B.length := by rw [hTT]; simp; omega
            have hsz8 : ((str T).size : Int) = ((L.length + 1 + B.length : Nat) : Int) := by rw [str_size, hTL]
            have HIX : Hid (∀ (i : Nat), L.length + 1 ≤ i → i ≤ L.length + 1 + B.length → ∃ c : Nat, ((c : Int) = 32 ↔ i = L.length + 1) ∧ ∀ W, (Instr.index 9 (.string (str T)) (.int .i64 ((i - 1 : Nat) : Int))).run Tryz.prog W = .ok (.int .u8 (c : Int)) W) := hide (fun i h1 h2 => by
              have hi : i - 1 < T.length := by omega
              refine ⟨T[i - 1].toNat, ?_, fun W => index_text hi W⟩
              have hget : T[i - 1]? = (L ++ 32 :: B)[i - 1]? := by rw [hTT]
              rw [List.getElem?_eq_getElem hi, List.getElem?_append_right (by omega)] at hget
              by_cases e : i = L.length + 1
              · subst e
                rw [show L.length + 1 - 1 - L.length = 0 by omega] at hget
                injection hget with hget
                rw [hget]
                simp
              · obtain ⟨u, hu⟩ : ∃ u, i - 1 - L.length = u + 1 := ⟨i - 2 - L.length, by omega⟩
                rw [hu, List.getElem?_cons_succ] at hget
                have hm := List.mem_of_getElem? hget.symm
                constructor
                · intro h
                  refine absurd ?_ h32
                  have : T[i - 1] = 32 := UInt8.toNat_inj.1 (by simpa using (by omega : T[i - 1].toNat = 32))
                  rw [← this]
                  exact hm
                · intro h
                  exact absurd h e)
            have d4 : ∀ W, (Instr.slice 9 (.string (str T)) none (some (.int .i64 ((L.length + 1 : Nat) : Int))) none).run Tryz.prog W = .ok (.string (str (L ++ [32]))) W := cut_text (by rw [hTT, List.take_append, List.take_of_length_le (by omega), show L.length + 1 - L.length = 1 by omega]; rfl) (by omega)
            have d5 : ∀ W, (Op.stringOp .add (str (L ++ [32])) ⟨#[109]⟩).run Tryz.prog W = .ok (.string (str (L ++ [32] ++ [109]))) W := text_add (b := [109]) (by simp; omega)
            have d6 : ∀ W, (Op.stringOp .add (str (L ++ [32] ++ [109])) (str (itoa (t : Int)))).run Tryz.prog W = .ok (.string (str (lineT D ws q))) W := by
              rw [hl]
              intro W
              have := text_add (a := L ++ [32] ++ [109]) (b := itoa (t : Int)) (by simp; omega) W
              simpa using this
            have d7 : ∀ W, (Op.stringOp .add (str H) (str (lineT D ws q))).run Tryz.prog W = .ok (.string (str (H ++ lineT D ws q))) W := text_add (by omega)
            have d8 : ∀ W, (Op.stringOp .add (str (H ++ lineT D ws q)) ⟨#[10]⟩).run Tryz.prog W = .ok (.string (str (listT D ws (q + 1)))) W := by
              rw [hnx, ← List.append_assoc]
              exact text_add (b := [10]) (by simp; omega)
            have hLl : L.length + 1 + B.length ≤ 240 := by omega
            clear hl hnx HP HG hll hT hHl hg hit hTT h32 hTL
            generalize L.length = l at *
            generalize B.length = bl at *
            generalize str (H ++ lineT D ws q) = S7 at *
            generalize str (lineT D ws q) = S8 at *
            generalize str (L ++ [32] ++ [109]) = S5 at *
            generalize str (L ++ [32]) = S4 at *
            generalize str (itoa (t : Int)) = SI2 at *
            generalize str T = ST at *
            generalize hs6 : str (listT D ws (q + 1)) = S6 at *
            generalize str H = SH at *
            generalize hy : ((wsAt ws q).toNat : Int) = Y at *
            have HS6 := hide hs6
            clear hy hc hs6
            go_wp2_with (first | (go_at_call 33; (with_reducible refine (CD.out _).mono ?_); rintro e w1 ⟨rfl, hb1⟩; have hr1 := below_reads hb1; have hh1 := below_holds hb1; obtain ⟨m1, hs1⟩ := below_grew hb1) | (go_at_call 35; (with_reducible refine (CT.out _).mono ?_); rintro e w2 ⟨rfl, hb2⟩; have hr2 := below_reads hb2; have hh2 := below_holds hb2; obtain ⟨m2, hs2⟩ := below_grew hb2) | (go_at_call 36; (with_reducible refine (CG.out _).mono ?_); rintro e w3 ⟨rfl, hb3⟩; have hr3 := below_reads hb3; have hh3 := below_holds hb3; obtain ⟨m3, hs3⟩ := below_grew hb3))
            refine wp_abs (fun W => Below w.heap.size w W) ?_ ?_
            · repeat (first | with_reducible assumption | with_reducible exact Below.refl _ _ | with_reducible refine Below.drew ?_ | with_reducible refine below_drewN ?_ _ | with_reducible refine bw_alloc ?_ _ | (with_reducible refine bw_set ?_ ?_ _; focus (dsimp only; omega)) | (with_reducible apply bw_behind; with_reducible assumption))
            rintro w6 hB6
            clear CD CT CG hX lB
            have hsz6 := hB6.size
            go_loopw [10] (fun v wr => ∃ i : Nat, l + 1 ≤ i ∧ i ≤ l + 1 + bl ∧ v = .int .i64 (i : Int) ∧ Below w.heap.size w wr) (fun v _ => (intOf v).toNat)
            case atStart => exact ⟨l + 1 + bl, by omega, by omega, by (first | rfl | (rw [hsz8]; done) | (congr 1; omega)), hB6⟩
            case round =>
              obtain ⟨i, hi1, hi2, rfl, hB7⟩ := hrel
              obtain ⟨c, hc, hix⟩ := HIX.out i hi1 hi2
              obtain ⟨J, hJ⟩ : ∃ J : Int, ((i - 1 : Nat) : Int) = J := ⟨_, rfl⟩
              have w1 : IntKind.i64.wrap ((i : Int) - 1) = J := by rw [IntKind.wrap_i64]; omega
              have w2 : (i : Int) - 1 = J := by omega
              have w3 : IntKind.i64.wrap J = J := by rw [IntKind.wrap_i64]; omega
              have w4 : wrap64 J = J := (IntWalk.i64_left J).symm.trans w3
              rw [hJ] at hix
              by_cases e : i = l + 1
              · have hc2 : (c : Int) = 32 := hc.2 e
                rw [hc2] at hix
                rw [← e] at d4
                clear hc hc2 hJ hi1 hi2 HIX
                generalize (i : Int) = I at *
                go_upto_region 18 with fail
                refine wp_abs (fun W => Below w.heap.size w W) ?_ ?_
                · repeat (first | with_reducible assumption | with_reducible exact Below.refl _ _ | with_reducible refine Below.drew ?_ | with_reducible refine below_drewN ?_ _ | with_reducible refine bw_alloc ?_ _ | (with_reducible refine bw_set ?_ ?_ _; focus (dsimp only; omega)) | (with_reducible apply bw_behind; with_reducible assumption))
                rintro w8 hB8
                have hsome := Behind.any w8
                refine wp_region_behind w8 (by kernel_rfl) (by kernel_rfl) (Below.refl _ _) ?_
                repeat (go_big_quiet_step (first | (go_at_call 32; with_reducible first | exact behind_m CN2.out _)))
                refine wpQuiet_nil ?_
                rintro _ ⟨y, rfl⟩
                have hBy := bw_behind y.below hB8
                clear hsome
                obtain ⟨w9, hw9⟩ : ∃ W, W = y.world := ⟨_, rfl⟩
                rw [← hw9] at hBy ⊢
                clear hw9 y hB8
                go_wp2
                go_roundw
                case rel => exact ⟨q + 1, by omega, by go_num, (by rw [HS6.out]), by (repeat (first | with_reducible assumption | with_reducible exact Below.refl _ _ | with_reducible refine Below.drew ?_ | with_reducible refine below_drewN ?_ _ | with_reducible refine bw_alloc ?_ _ | (with_reducible refine bw_set ?_ ?_ _; focus (dsimp only; omega)) | (with_reducible apply bw_behind; with_reducible assumption)))⟩
                case measure => simp [intOf]; omega
              · have n1 : ((c : Int) == 32) = false := by
                  have : ¬ (c : Int) = 32 := fun h => e (hc.1 h)
                  simpa using this
                have n2 : ¬ (c : Int) = 32 := fun h => e (hc.1 h)
                have n3 : ((c : Int) != 32) = true := by simpa using n2
                clear hc
                go_wp2
                go_roundw
                case rel => exact ⟨i - 1, by omega, by omega, by rw [hJ], by (repeat (first | with_reducible assumption | with_reducible exact Below.refl _ _ | with_reducible refine Below.drew ?_ | with_reducible refine below_drewN ?_ _ | with_reducible refine bw_alloc ?_ _ | (with_reducible refine bw_set ?_ ?_ _; focus (dsimp only; omega)) | (with_reducible apply bw_behind; with_reducible assumption)))⟩
                case measure => simp [intOf]; omega
      · obtain rfl : q = n := by omega
        have hnx := HNX.out
        rw [if_neg hlt, List.append_nil] at hnx
        have hE : R = str H := by rw [← HRR.out, hnx]
        subst hE
        go_wp2
        go_ret
        refine ⟨rfl, ?_⟩
        repeat (first | with_reducible assumption | with_reducible exact Below.refl _ _ | with_reducible refine Below.drew ?_ | with_reducible refine below_drewN ?_ _ | with_reducible refine bw_alloc ?_ _ | (with_reducible refine bw_set ?_ ?_ _; focus (dsimp only; omega)) | (with_reducible apply bw_behind; with_reducible assumption))

end Go.Proofs.YtlommbeokbicjaaGreatDoor
