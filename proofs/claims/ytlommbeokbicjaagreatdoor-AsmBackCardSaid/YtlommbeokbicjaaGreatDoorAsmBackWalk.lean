/-
  AsmBack, walked: what is told of an instruction is parsed as it; a program of such has their words.
-/
import Derived.Test.YtlommbeokbicjaaGreatDoorAsmBackMath
import Derived.BigQuiet
import Derived.WalkMore
namespace Go.Proofs.YtlommbeokbicjaaGreatDoor
open Go.RowKit InstMath AsmMath
open Go.Lib (itoa)

theorem isEmpty_no2 {l : List UInt8} (h : l ≠ []) : l.isEmpty = false := by
  cases l with
  | nil => exact absurd rfl h
  | cons _ _ => rfl
/-- The cells of the instructions, as the loop reads them. -/
def CellsI (w : World) (l : List InD) (sa : Option Addr) : Prop := ∀ k d, l[k]? = some d → ∃ b off, sa = some ⟨b, off, none⟩ ∧ ∀ j v, d.cells[j]? = some v → w.cell? ⟨b, off + k * 5 + j, none⟩ = some v
theorem cells_i {w : World} {l : List InD} {v : Value} (h : IsIns w l v) : ∃ sa cap, v = .slice sa l.length cap ∧ l.length ≤ cap + 0 * l.length ∧ CellsI w l sa ∨ l = [] ∧ v = .slice sa 0 cap := by
  rcases h.2 with ⟨rfl, s, c, rfl⟩ | ⟨b, off, cap, rfl, hc, hl⟩
  · exact ⟨s, c, .inr ⟨rfl, rfl⟩⟩
  · exact ⟨_, cap, .inl ⟨rfl, by omega, fun k d hd => ⟨b, off, rfl, fun j v hv => hl k d j v hd hv⟩⟩⟩

set_option maxRecDepth 100000 in
set_option maxHeartbeats 8000000 in
theorem back_le (l : List InD) (sa : Option Addr) (cap : Nat) (hok : ∀ d ∈ l, d.Ok) (w : World) (hG : G w) (hl : l.length ≤ 100) (hcell : CellsI w l sa) :
    Calls Tryz.prog 3 #[.slice sa l.length cap] w (Makes (.bool true) w) := by
  have HCL := hide hcell
  have HR : Hid (∀ d ∈ l, (∃ y, encI d = some y ∧ YesI d y) ∨ (encI d = none ∧ NoI d)) := hide (fun d hd => by
    cases he : encI d with
    | none => exact .inr ⟨rfl, no_i he (hok d hd)⟩
    | some y => exact .inl ⟨y, rfl, yes_i he (hok d hd)⟩)
  have HLE : Hid (∀ j, ∀ p ∈ accL (l.take j), (txtI p.1).length ≤ 65) := hide (fun j p hp => by
    obtain ⟨h1, h2⟩ := acc_mem hp
    exact (yes_i h2 (hok _ (List.mem_of_mem_take h1))).len)
  have CA : Hid (∀ W, G W → Calls Tryz.prog 9 #[.string (str (bodyB (accL l)))] W (Assembled (accL l).length (fun n => ((accL l).map (·.2)).getD n 0#64) W)) := hide (back_asm (accL l) (by have := acc_len l; omega) (fun p hp => ⟨hok _ (acc_mem hp).1, (acc_mem hp).2⟩))
  have CO := hide one_any
  have HNL : Hid ((accL l).length ≤ 100) := hide (by have := acc_len l; omega)
  clear hcell hok
  obtain ⟨i0, hi, hz0, hz1, hz2⟩ := info_parts info_u32
  have SS := cell_same
  have LB' := ltB_add
  have LS := ltB_self
  have LA' := alloc_reads
  have LH := alloc_holds
  go_enter Tryz.func3, Tryz.ntmps3
  have a1 : ¬ (100 < (l.length : Int)) := by omega
  go_wp2

  go_loopw [3, 4, 5] (fun tv v i wr => ∃ j : Nat, j ≤ l.length ∧ i = .int .i64 (j : Int) ∧ tv = .string (str (bodyB (accL (l.take j)))) ∧ Hid (wr.ownsRow w.heap.size 24 1 v (accL (l.take j)).length (wordV ((accL (l.take j)).map (·.2)))) ∧ Below w.heap.size w wr) (fun _ _ i _ => l.length - (intOf i).toNat)
  case atStart => exact ⟨0, by omega, rfl, rfl, hide (World.ownsRow_nil _ _ _ _), by
    repeat (first | with_reducible assumption | with_reducible exact Below.refl _ _ | with_reducible refine Below.drew ?_ | with_reducible refine below_drewN ?_ _ | with_reducible refine bw_alloc ?_ _ | (with_reducible refine bw_set ?_ ?_ _; focus (dsimp only; omega)) | (with_reducible apply bw_behind; with_reducible assumption))⟩
  case round =>
    obtain ⟨j, hj, rfl, rfl, hown, hB⟩ := hrel
    have hsz := hB.size
    by_cases hlt : j < l.length
    · obtain ⟨d, hd⟩ : ∃ d, l[j]? = some d := ⟨_, List.getElem?_eq_getElem hlt⟩
      have hmem : d ∈ l := List.mem_of_getElem? hd
      obtain ⟨b, off, rfl, hc⟩ := HCL.out j d hd
      have y0 : wr.cell? ⟨b, off + j * 5, none⟩ = some (.int .i64 d.K) := c_be hB (hc 0 _ rfl)
      have y1 := c_be hB (hc 1 _ rfl)
      have y2 := c_be hB (hc 2 _ rfl)
      have y3 := c_be hB (hc 3 _ rfl)
      have y4 := c_be hB (hc 4 _ rfl)
      have lB : ltB b wr.heap.size = true := by unfold ltB; simpa using World.block_lt_of_cell? _ _ y0
      have g1 : (j : Int) < (l.length : Int) := by omega
      have g3 : (0 : Int) ≤ (j : Int) := by omega
      have htk : l.take (j + 1) = l.take j ++ [d] := by rw [List.take_succ_eq_append_getElem hlt]; congr 1; rw [List.getElem?_eq_getElem hlt] at hd; injection hd with hd; rw [hd]
      have hsn := acc_snoc (l.take j) d
      rw [← htk] at hsn
      have hRd := HR.out d hmem
      have hAl := acc_len (l.take j)
      have hTl := body_len (accL (l.take j)) (HLE.out j)
      have htl : (l.take j).length ≤ 100 := by rw [List.length_take]; omega
      clear hc htk hd hmem
      rcases hRd with ⟨y, he, hy⟩ | ⟨he, hn⟩
      · rw [he] at hsn
        have HS := hide hsn
        have CE1 := hide hy.e1
        have CE2 := hide hy.e2
        have CT1 := hide hy.t1
        have CT2 := hide hy.t2
        have CP := hide hy.p
        have hne := hy.ne
        have hlen := hy.len
        have e1 : ¬ (str (txtI d)).toList = [] := by rw [str_toList]; exact hne
        have e2 : (str (txtI d)).toList.isEmpty = false := by rw [str_toList]; exact isEmpty_no2 hne
        have d1 : ∀ W, (Op.stringOp .add (str (bodyB (accL (l.take j)))) ⟨#[32, 32]⟩).run Tryz.prog W = .ok (.string (str (bodyB (accL (l.take j)) ++ [32, 32]))) W := text_add (b := [32, 32]) (by simp; omega)
        have d2 : ∀ W, (Op.stringOp .add (str (bodyB (accL (l.take j)) ++ [32, 32])) (str (txtI d))).run Tryz.prog W = .ok (.string (str (bodyB (accL (l.take j)) ++ [32, 32] ++ txtI d))) W := text_add (by simp; omega)
        have d3 : ∀ W, (Op.stringOp .add (str (bodyB (accL (l.take j)) ++ [32, 32] ++ txtI d)) ⟨#[10]⟩).run Tryz.prog W = .ok (.string (str (bodyB (accL (l.take j)) ++ [32, 32] ++ txtI d ++ [10]))) W := text_add (b := [10]) (by simp; omega)
        have hT3 : str (bodyB (accL (l.take j)) ++ [32, 32] ++ txtI d ++ [10]) = str (bodyB (accL (l.take (j + 1)))) := by
          rw [HS.out]
          dsimp only
          rw [body_snoc]
          simp only [List.append_assoc]
        rw [hT3] at d3
        clear hy hne hlen hTl hsn hT3 he
        generalize str (bodyB (accL (l.take j)) ++ [32, 32] ++ txtI d) = T2 at *
        generalize str (bodyB (accL (l.take j)) ++ [32, 32]) = T1 at *
        generalize hT3 : str (bodyB (accL (l.take (j + 1)))) = T3 at *
        have HT3 := hide hT3
        clear hT3
        generalize str (bodyB (accL (l.take j))) = T0 at *
        generalize str (txtI d) = TX at *
        generalize mskI d 0 = m0 at *
        generalize mskI d 1 = m1' at *
        generalize mskI d 2 = m2' at *
        generalize mskI d 3 = m3' at *
        generalize hYN : y.toNat = YN at *
        have HY := hide hYN
        clear hYN
        go_wp2_with (first | (go_at_call 6; (first | ((with_reducible refine (CE1.out _ ?_).mono ?_); (focus (refine hG.behind ?_; repeat (first | with_reducible assumption | with_reducible exact Below.refl _ _ | with_reducible refine Below.drew ?_ | with_reducible refine below_drewN ?_ _ | with_reducible refine bw_alloc ?_ _ | (with_reducible refine bw_set ?_ ?_ _; focus (dsimp only; omega)) | (with_reducible apply bw_behind; with_reducible assumption)))))); rintro e w1 ⟨rfl, hb1⟩; have hr1 := below_reads hb1; have hh1 := below_holds hb1; obtain ⟨m1, hs1⟩ := below_grew hb1) | (go_at_call 6; (first | ((with_reducible refine (CE2.out _ ?_).mono ?_); (focus (refine hG.behind ?_; repeat (first | with_reducible assumption | with_reducible exact Below.refl _ _ | with_reducible refine Below.drew ?_ | with_reducible refine below_drewN ?_ _ | with_reducible refine bw_alloc ?_ _ | (with_reducible refine bw_set ?_ ?_ _; focus (dsimp only; omega)) | (with_reducible apply bw_behind; with_reducible assumption)))))); rintro e w4 ⟨rfl, hb4⟩; have hr4 := below_reads hb4; have hh4 := below_holds hb4; obtain ⟨m4, hs4⟩ := below_grew hb4) | (go_at_call 7; (first | ((with_reducible refine (CT1.out _ ?_).mono ?_); (focus (refine hG.behind ?_; repeat (first | with_reducible assumption | with_reducible exact Below.refl _ _ | with_reducible refine Below.drew ?_ | with_reducible refine below_drewN ?_ _ | with_reducible refine bw_alloc ?_ _ | (with_reducible refine bw_set ?_ ?_ _; focus (dsimp only; omega)) | (with_reducible apply bw_behind; with_reducible assumption)))))); rintro e w2 ⟨rfl, hb2⟩; have hr2 := below_reads hb2; have hh2 := below_holds hb2; obtain ⟨m2, hs2⟩ := below_grew hb2) | (go_at_call 7; (first | ((with_reducible refine (CT2.out _ ?_).mono ?_); (focus (refine hG.behind ?_; repeat (first | with_reducible assumption | with_reducible exact Below.refl _ _ | with_reducible refine Below.drew ?_ | with_reducible refine below_drewN ?_ _ | with_reducible refine bw_alloc ?_ _ | (with_reducible refine bw_set ?_ ?_ _; focus (dsimp only; omega)) | (with_reducible apply bw_behind; with_reducible assumption)))))); rintro e w5 ⟨rfl, hb5⟩; have hr5 := below_reads hb5; have hh5 := below_holds hb5; obtain ⟨m5, hs5⟩ := below_grew hb5) | (go_at_call 8; (first | ((with_reducible refine (CP.out _ ?_).mono ?_); (focus (refine hG.behind ?_; repeat (first | with_reducible assumption | with_reducible exact Below.refl _ _ | with_reducible refine Below.drew ?_ | with_reducible refine below_drewN ?_ _ | with_reducible refine bw_alloc ?_ _ | (with_reducible refine bw_set ?_ ?_ _; focus (dsimp only; omega)) | (with_reducible apply bw_behind; with_reducible assumption)))))); rintro e w3 ⟨rfl, hb3⟩; have hr3 := below_reads hb3; have hh3 := below_holds hb3; obtain ⟨m3, hs3⟩ := below_grew hb3) | (at_builtin; refine wpList_append_own _ rfl _ _ 23 rfl w.heap.size 24 i0 (.int .u32 0) 1 4 Tryz.underlying23 hi hz0 hz1 hz2 rfl (by decide) _ _ _ rfl (owns_al _ (owns_be hb5 (owns_be hb4 (owns_al _ (owns_be hb3 (owns_be hb2 (owns_be hb1 hown.out))))))) _ 1 1 [.int .u32 (YN : Int)] rfl rfl (cell_one _ _ _ (by simp [*])) (fun x hx => by simp at hx; subst hx; rfl) (by unfold maxLen; omega) (by omega) (by have h1 := hb1.size; have h2 := hb2.size; have h3 := hb3.size; have h4 := hb4.size; have h5 := hb5.size; simp at h4 h5 ⊢; omega) ?_; intro v' w8 hown' hgrow hnil'; have hB8 := (bw_alloc (bw_behind hb5 (bw_behind hb4 (bw_alloc (bw_behind hb3 (bw_behind hb2 (bw_behind hb1 hB))) _))) _).grown hgrow (by have h1 := hb1.size; have h2 := hb2.size; have h3 := hb3.size; have h4 := hb4.size; have h5 := hb5.size; simp at h4 h5 ⊢; omega) (row_base hown.out)))
        go_roundw
        case rel =>
          refine ⟨j + 1, by omega, by go_num, by rw [HT3.out], hide ?_, ?_⟩
          · rw [HS.out]
            rw [List.length_append, List.map_append]
            unfold wordV at hown' ⊢
            rw [List.map_append]
            show w8.ownsRow w.heap.size 24 1 v' ((accL (l.take j)).length + 1) (List.map (fun y => Value.int .u32 (y.toNat : Int)) ((accL (l.take j)).map (·.2)) ++ [Value.int .u32 (y.toNat : Int)])
            rw [HY.out]
            exact hown'
          · repeat (first | with_reducible assumption | with_reducible exact Below.refl _ _ | with_reducible refine Below.drew ?_ | with_reducible refine below_drewN ?_ _ | with_reducible refine bw_alloc ?_ _ | (with_reducible refine bw_set ?_ ?_ _; focus (dsimp only; omega)) | (with_reducible apply bw_behind; with_reducible assumption))
        case measure => simp [intOf]; omega
      · rw [he] at hsn
        dsimp only at hsn
        rw [List.append_nil] at hsn
        have HS := hide hsn
        have CE1 := hide hn.e1
        have CT1 := hide hn.t1
        have CP := hide parse_empty
        clear hn hTl hsn he
        generalize hT0 : str (bodyB (accL (l.take j))) = T0 at *
        have HT0 := hide hT0
        clear hT0
        go_wp2_with (first | (go_at_call 6; (first | ((with_reducible refine (CE1.out _ ?_).mono ?_); (focus (refine hG.behind ?_; repeat (first | with_reducible assumption | with_reducible exact Below.refl _ _ | with_reducible refine Below.drew ?_ | with_reducible refine below_drewN ?_ _ | with_reducible refine bw_alloc ?_ _ | (with_reducible refine bw_set ?_ ?_ _; focus (dsimp only; omega)) | (with_reducible apply bw_behind; with_reducible assumption)))))); rintro e w1 ⟨rfl, hb1⟩; have hr1 := below_reads hb1; have hh1 := below_holds hb1; obtain ⟨m1, hs1⟩ := below_grew hb1) | (go_at_call 7; (first | ((with_reducible refine (CT1.out _ ?_).mono ?_); (focus (refine hG.behind ?_; repeat (first | with_reducible assumption | with_reducible exact Below.refl _ _ | with_reducible refine Below.drew ?_ | with_reducible refine below_drewN ?_ _ | with_reducible refine bw_alloc ?_ _ | (with_reducible refine bw_set ?_ ?_ _; focus (dsimp only; omega)) | (with_reducible apply bw_behind; with_reducible assumption)))))); rintro e w2 ⟨rfl, hb2⟩; have hr2 := below_reads hb2; have hh2 := below_holds hb2; obtain ⟨m2, hs2⟩ := below_grew hb2) | (go_at_call 8; (first | ((with_reducible refine (CP.out _ ?_).mono ?_); (focus (refine hG.behind ?_; repeat (first | with_reducible assumption | with_reducible exact Below.refl _ _ | with_reducible refine Below.drew ?_ | with_reducible refine below_drewN ?_ _ | with_reducible refine bw_alloc ?_ _ | (with_reducible refine bw_set ?_ ?_ _; focus (dsimp only; omega)) | (with_reducible apply bw_behind; with_reducible assumption)))))); rintro e w3 ⟨rfl, hb3⟩; have hr3 := below_reads hb3; have hh3 := below_holds hb3; obtain ⟨m3, hs3⟩ := below_grew hb3))
        go_roundw
        case rel =>
          refine ⟨j + 1, by omega, by go_num, ?_, hide ?_, ?_⟩
          · rw [HS.out, HT0.out]
          · rw [HS.out]
            exact owns_al _ (owns_be hb3 (owns_be hb2 (owns_be hb1 hown.out)))
          · repeat (first | with_reducible assumption | with_reducible exact Below.refl _ _ | with_reducible refine Below.drew ?_ | with_reducible refine below_drewN ?_ _ | with_reducible refine bw_alloc ?_ _ | (with_reducible refine bw_set ?_ ?_ _; focus (dsimp only; omega)) | (with_reducible apply bw_behind; with_reducible assumption))
        case measure => simp [intOf]; omega
    · obtain rfl : j = l.length := by omega
      rw [List.take_length] at hown
      rw [List.take_length]
      obtain ⟨ua, uc, rfl⟩ := owns_len hown.out
      obtain ⟨ys, hys⟩ : ∃ ys, ys = (accL l).map (·.2) := ⟨_, rfl⟩
      have hyl : ys.length = (accL l).length := by rw [hys]; simp
      rw [← hys] at hown CA
      have HYL := hide hyl
      generalize (accL l).length = n at *
      generalize str (bodyB (accL l)) = TT at *
      have hnl : n ≤ 100 := by
        have := HNL.out
        omega
      clear hyl hys
      go_wp2_with (first | (go_at_call 9; (with_reducible refine (CA.out _ ?_).mono ?_); (focus (refine hG.behind ?_; repeat (first | with_reducible assumption | with_reducible exact Below.refl _ _ | with_reducible refine Below.drew ?_ | with_reducible refine below_drewN ?_ _ | with_reducible refine bw_alloc ?_ _ | (with_reducible refine bw_set ?_ ?_ _; focus (dsimp only; omega)) | (with_reducible apply bw_behind; with_reducible assumption)))); rintro e wA ⟨vA, rfl, hbA, hoA⟩; obtain ⟨va, vc, rfl⟩ := owns_len hoA; have hrA := below_reads hbA; have hhA := below_holds hbA; obtain ⟨mA, hsA⟩ := below_grew hbA))
      go_loopw [16] (fun i w2 => ∃ j : Nat, j ≤ n ∧ i = .int .i64 (j : Int) ∧ Below wA.heap.size wA w2) (fun i _ => n - (intOf i).toNat)
      case atStart => exact ⟨0, by omega, rfl, by
        repeat (first | with_reducible assumption | with_reducible exact Below.refl _ _ | with_reducible refine Below.drew ?_ | with_reducible refine below_drewN ?_ _ | with_reducible refine bw_alloc ?_ _ | (with_reducible refine bw_set ?_ ?_ _; focus (dsimp only; omega)) | (with_reducible apply bw_behind; with_reducible assumption))⟩
      case round =>
        obtain ⟨j, hj, rfl, hB2⟩ := hrel
        have hszA := hB2.size
        by_cases hlt : j < n
        · obtain ⟨g, cap1, e1, _, _, hgl, hcells⟩ := owns_cell hoA (by omega)
          obtain ⟨g', cap2, e2, _, _, hgl', hcells'⟩ := owns_cell (owns_be hbA hown.out) (by omega)
          injection e1 with e1a _ e1c
          injection e2 with e2a _ e2c
          subst e1a e1c e2a e2c
          have hjy : j < ys.length := by rw [HYL.out]; exact hlt
          have f1 : (wordV ((List.range n).map (fun n => ys.getD n 0#64)))[j]? = some (.int .u32 (ys[j].toNat : Int)) := by
            unfold wordV
            rw [List.getElem?_map, List.getElem?_map, List.getElem?_range hlt]
            simp [List.getD_eq_getElem?_getD, List.getElem?_eq_getElem hjy]
          have f2 : (wordV ys)[j]? = some (.int .u32 (ys[j].toNat : Int)) := by
            unfold wordV
            rw [List.getElem?_map, List.getElem?_eq_getElem hjy]
            rfl
          have c1 := c_be hB2 (hcells _ _ f1)
          have c2 := c_be hB2 (hcells' _ _ f2)
          have b1 : (j : Int) < (n : Int) := by omega
          have b3 : (0 : Int) ≤ (j : Int) := by omega
          clear hcells hcells' f1 f2
          generalize ys[j].toNat = z at *
          clear hjy
          go_wp2
          go_region
          go_wp2
          go_roundw
          case rel =>
            refine ⟨j + 1, by omega, by go_num, ?_⟩
            repeat (first | with_reducible assumption | with_reducible exact Below.refl _ _ | with_reducible refine Below.drew ?_ | with_reducible refine below_drewN ?_ _ | with_reducible refine bw_alloc ?_ _ | (with_reducible refine bw_set ?_ ?_ _; focus (dsimp only; omega)) | (with_reducible apply bw_behind; with_reducible assumption))
          case measure => simp [intOf]; omega
        · obtain rfl : j = n := by omega
          have hBA := bw_behind hB2 (bw_behind hbA hB)
          go_wp2_with (first | (go_at_call 10; (first | ((with_reducible refine (CO.out _ ?_).mono ?_); (focus (refine hG.behind ?_; repeat (first | with_reducible assumption | with_reducible exact Below.refl _ _ | with_reducible refine Below.drew ?_ | with_reducible refine below_drewN ?_ _ | with_reducible refine bw_alloc ?_ _ | (with_reducible refine bw_set ?_ ?_ _; focus (dsimp only; omega)) | (with_reducible apply bw_behind; with_reducible assumption)))))); rintro e w9 ⟨rfl, hb9⟩; have hr9 := below_reads hb9; have hh9 := below_holds hb9; obtain ⟨m9, hs9⟩ := below_grew hb9))
          go_ret
          refine ⟨rfl, ?_⟩
          repeat (first | with_reducible assumption | with_reducible exact Below.refl _ _ | with_reducible refine Below.drew ?_ | with_reducible refine below_drewN ?_ _ | with_reducible refine bw_alloc ?_ _ | (with_reducible refine bw_set ?_ ?_ _; focus (dsimp only; omega)) | (with_reducible apply bw_behind; with_reducible assumption))


set_option maxRecDepth 100000 in
set_option maxHeartbeats 8000000 in
theorem back_gt (l : List InD) (b0 off0 N : Nat) (cap : Nat) (hok : ∀ d ∈ l, d.Ok) (w : World) (hG : G w) (hl : l.length = 100) (hN : 100 < N) (hcap : N ≤ cap) (hcell : CellsI w l (some ⟨b0, off0, none⟩)) :
    Calls Tryz.prog 3 #[.slice (some ⟨b0, off0, none⟩) N cap] w (Makes (.bool true) w) := by
  have HCL := hide hcell
  have HR : Hid (∀ d ∈ l, (∃ y, encI d = some y ∧ YesI d y) ∨ (encI d = none ∧ NoI d)) := hide (fun d hd => by
    cases he : encI d with
    | none => exact .inr ⟨rfl, no_i he (hok d hd)⟩
    | some y => exact .inl ⟨y, rfl, yes_i he (hok d hd)⟩)
  have HLE : Hid (∀ j, ∀ p ∈ accL (l.take j), (txtI p.1).length ≤ 65) := hide (fun j p hp => by
    obtain ⟨h1, h2⟩ := acc_mem hp
    exact (yes_i h2 (hok _ (List.mem_of_mem_take h1))).len)
  have CA : Hid (∀ W, G W → Calls Tryz.prog 9 #[.string (str (bodyB (accL l)))] W (Assembled (accL l).length (fun n => ((accL l).map (·.2)).getD n 0#64) W)) := hide (back_asm (accL l) (by have := acc_len l; omega) (fun p hp => ⟨hok _ (acc_mem hp).1, (acc_mem hp).2⟩))
  have CO := hide one_any
  have HNL : Hid ((accL l).length ≤ 100) := hide (by have := acc_len l; omega)
  clear hcell hok
  obtain ⟨i0, hi, hz0, hz1, hz2⟩ := info_parts info_u32
  have SS := cell_same
  have LB' := ltB_add
  have LS := ltB_self
  have LA' := alloc_reads
  have LH := alloc_holds
  go_enter Tryz.func3, Tryz.ntmps3
  have a1 : (100 < (N : Int)) := by omega
  have a2 : 100 ≤ cap := by omega
  have a3 : (100 : Int) ≤ (cap : Int) := by omega
  go_wp2

  go_loopw [3, 4, 5] (fun tv v i wr => ∃ j : Nat, j ≤ l.length ∧ i = .int .i64 (j : Int) ∧ tv = .string (str (bodyB (accL (l.take j)))) ∧ Hid (wr.ownsRow w.heap.size 24 1 v (accL (l.take j)).length (wordV ((accL (l.take j)).map (·.2)))) ∧ Below w.heap.size w wr) (fun _ _ i _ => l.length - (intOf i).toNat)
  case atStart => exact ⟨0, by omega, rfl, rfl, hide (World.ownsRow_nil _ _ _ _), by
    repeat (first | with_reducible assumption | with_reducible exact Below.refl _ _ | with_reducible refine Below.drew ?_ | with_reducible refine below_drewN ?_ _ | with_reducible refine bw_alloc ?_ _ | (with_reducible refine bw_set ?_ ?_ _; focus (dsimp only; omega)) | (with_reducible apply bw_behind; with_reducible assumption))⟩
  case round =>
    obtain ⟨j, hj, rfl, rfl, hown, hB⟩ := hrel
    have hsz := hB.size
    by_cases hlt : j < l.length
    · obtain ⟨d, hd⟩ : ∃ d, l[j]? = some d := ⟨_, List.getElem?_eq_getElem hlt⟩
      have hmem : d ∈ l := List.mem_of_getElem? hd
      obtain ⟨b, off, hsa, hc⟩ := HCL.out j d hd
      obtain ⟨rfl, rfl⟩ : b = b0 ∧ off = off0 := by
        injection hsa with hsa
        injection hsa with h1 h2
        exact ⟨h1.symm, h2.symm⟩
      have y0 : wr.cell? ⟨b, off + j * 5, none⟩ = some (.int .i64 d.K) := c_be hB (hc 0 _ rfl)
      have y1 := c_be hB (hc 1 _ rfl)
      have y2 := c_be hB (hc 2 _ rfl)
      have y3 := c_be hB (hc 3 _ rfl)
      have y4 := c_be hB (hc 4 _ rfl)
      have lB : ltB b wr.heap.size = true := by unfold ltB; simpa using World.block_lt_of_cell? _ _ y0
      have g1 : (j : Int) < 100 := by omega
      have g3 : (0 : Int) ≤ (j : Int) := by omega
      have htk : l.take (j + 1) = l.take j ++ [d] := by rw [List.take_succ_eq_append_getElem hlt]; congr 1; rw [List.getElem?_eq_getElem hlt] at hd; injection hd with hd; rw [hd]
      have hsn := acc_snoc (l.take j) d
      rw [← htk] at hsn
      have hRd := HR.out d hmem
      have hAl := acc_len (l.take j)
      have hTl := body_len (accL (l.take j)) (HLE.out j)
      have htl : (l.take j).length ≤ 100 := by rw [List.length_take]; omega
      clear hc htk hd hmem
      rcases hRd with ⟨y, he, hy⟩ | ⟨he, hn⟩
      · rw [he] at hsn
        have HS := hide hsn
        have CE1 := hide hy.e1
        have CE2 := hide hy.e2
        have CT1 := hide hy.t1
        have CT2 := hide hy.t2
        have CP := hide hy.p
        have hne := hy.ne
        have hlen := hy.len
        have e1 : ¬ (str (txtI d)).toList = [] := by rw [str_toList]; exact hne
        have e2 : (str (txtI d)).toList.isEmpty = false := by rw [str_toList]; exact isEmpty_no2 hne
        have d1 : ∀ W, (Op.stringOp .add (str (bodyB (accL (l.take j)))) ⟨#[32, 32]⟩).run Tryz.prog W = .ok (.string (str (bodyB (accL (l.take j)) ++ [32, 32]))) W := text_add (b := [32, 32]) (by simp; omega)
        have d2 : ∀ W, (Op.stringOp .add (str (bodyB (accL (l.take j)) ++ [32, 32])) (str (txtI d))).run Tryz.prog W = .ok (.string (str (bodyB (accL (l.take j)) ++ [32, 32] ++ txtI d))) W := text_add (by simp; omega)
        have d3 : ∀ W, (Op.stringOp .add (str (bodyB (accL (l.take j)) ++ [32, 32] ++ txtI d)) ⟨#[10]⟩).run Tryz.prog W = .ok (.string (str (bodyB (accL (l.take j)) ++ [32, 32] ++ txtI d ++ [10]))) W := text_add (b := [10]) (by simp; omega)
        have hT3 : str (bodyB (accL (l.take j)) ++ [32, 32] ++ txtI d ++ [10]) = str (bodyB (accL (l.take (j + 1)))) := by
          rw [HS.out]
          dsimp only
          rw [body_snoc]
          simp only [List.append_assoc]
        rw [hT3] at d3
        clear hy hne hlen hTl hsn hT3 he
        generalize str (bodyB (accL (l.take j)) ++ [32, 32] ++ txtI d) = T2 at *
        generalize str (bodyB (accL (l.take j)) ++ [32, 32]) = T1 at *
        generalize hT3 : str (bodyB (accL (l.take (j + 1)))) = T3 at *
        have HT3 := hide hT3
        clear hT3
        generalize str (bodyB (accL (l.take j))) = T0 at *
        generalize str (txtI d) = TX at *
        generalize mskI d 0 = m0 at *
        generalize mskI d 1 = m1' at *
        generalize mskI d 2 = m2' at *
        generalize mskI d 3 = m3' at *
        generalize hYN : y.toNat = YN at *
        have HY := hide hYN
        clear hYN
        go_wp2_with (first | (go_at_call 6; (first | ((with_reducible refine (CE1.out _ ?_).mono ?_); (focus (refine hG.behind ?_; repeat (first | with_reducible assumption | with_reducible exact Below.refl _ _ | with_reducible refine Below.drew ?_ | with_reducible refine below_drewN ?_ _ | with_reducible refine bw_alloc ?_ _ | (with_reducible refine bw_set ?_ ?_ _; focus (dsimp only; omega)) | (with_reducible apply bw_behind; with_reducible assumption)))))); rintro e w1 ⟨rfl, hb1⟩; have hr1 := below_reads hb1; have hh1 := below_holds hb1; obtain ⟨m1, hs1⟩ := below_grew hb1) | (go_at_call 6; (first | ((with_reducible refine (CE2.out _ ?_).mono ?_); (focus (refine hG.behind ?_; repeat (first | with_reducible assumption | with_reducible exact Below.refl _ _ | with_reducible refine Below.drew ?_ | with_reducible refine below_drewN ?_ _ | with_reducible refine bw_alloc ?_ _ | (with_reducible refine bw_set ?_ ?_ _; focus (dsimp only; omega)) | (with_reducible apply bw_behind; with_reducible assumption)))))); rintro e w4 ⟨rfl, hb4⟩; have hr4 := below_reads hb4; have hh4 := below_holds hb4; obtain ⟨m4, hs4⟩ := below_grew hb4) | (go_at_call 7; (first | ((with_reducible refine (CT1.out _ ?_).mono ?_); (focus (refine hG.behind ?_; repeat (first | with_reducible assumption | with_reducible exact Below.refl _ _ | with_reducible refine Below.drew ?_ | with_reducible refine below_drewN ?_ _ | with_reducible refine bw_alloc ?_ _ | (with_reducible refine bw_set ?_ ?_ _; focus (dsimp only; omega)) | (with_reducible apply bw_behind; with_reducible assumption)))))); rintro e w2 ⟨rfl, hb2⟩; have hr2 := below_reads hb2; have hh2 := below_holds hb2; obtain ⟨m2, hs2⟩ := below_grew hb2) | (go_at_call 7; (first | ((with_reducible refine (CT2.out _ ?_).mono ?_); (focus (refine hG.behind ?_; repeat (first | with_reducible assumption | with_reducible exact Below.refl _ _ | with_reducible refine Below.drew ?_ | with_reducible refine below_drewN ?_ _ | with_reducible refine bw_alloc ?_ _ | (with_reducible refine bw_set ?_ ?_ _; focus (dsimp only; omega)) | (with_reducible apply bw_behind; with_reducible assumption)))))); rintro e w5 ⟨rfl, hb5⟩; have hr5 := below_reads hb5; have hh5 := below_holds hb5; obtain ⟨m5, hs5⟩ := below_grew hb5) | (go_at_call 8; (first | ((with_reducible refine (CP.out _ ?_).mono ?_); (focus (refine hG.behind ?_; repeat (first | with_reducible assumption | with_reducible exact Below.refl _ _ | with_reducible refine Below.drew ?_ | with_reducible refine below_drewN ?_ _ | with_reducible refine bw_alloc ?_ _ | (with_reducible refine bw_set ?_ ?_ _; focus (dsimp only; omega)) | (with_reducible apply bw_behind; with_reducible assumption)))))); rintro e w3 ⟨rfl, hb3⟩; have hr3 := below_reads hb3; have hh3 := below_holds hb3; obtain ⟨m3, hs3⟩ := below_grew hb3) | (at_builtin; refine wpList_append_own _ rfl _ _ 23 rfl w.heap.size 24 i0 (.int .u32 0) 1 4 Tryz.underlying23 hi hz0 hz1 hz2 rfl (by decide) _ _ _ rfl (owns_al _ (owns_be hb5 (owns_be hb4 (owns_al _ (owns_be hb3 (owns_be hb2 (owns_be hb1 hown.out))))))) _ 1 1 [.int .u32 (YN : Int)] rfl rfl (cell_one _ _ _ (by simp [*])) (fun x hx => by simp at hx; subst hx; rfl) (by unfold maxLen; omega) (by omega) (by have h1 := hb1.size; have h2 := hb2.size; have h3 := hb3.size; have h4 := hb4.size; have h5 := hb5.size; simp at h4 h5 ⊢; omega) ?_; intro v' w8 hown' hgrow hnil'; have hB8 := (bw_alloc (bw_behind hb5 (bw_behind hb4 (bw_alloc (bw_behind hb3 (bw_behind hb2 (bw_behind hb1 hB))) _))) _).grown hgrow (by have h1 := hb1.size; have h2 := hb2.size; have h3 := hb3.size; have h4 := hb4.size; have h5 := hb5.size; simp at h4 h5 ⊢; omega) (row_base hown.out)))
        go_roundw
        case rel =>
          refine ⟨j + 1, by omega, by go_num, by rw [HT3.out], hide ?_, ?_⟩
          · rw [HS.out]
            rw [List.length_append, List.map_append]
            unfold wordV at hown' ⊢
            rw [List.map_append]
            show w8.ownsRow w.heap.size 24 1 v' ((accL (l.take j)).length + 1) (List.map (fun y => Value.int .u32 (y.toNat : Int)) ((accL (l.take j)).map (·.2)) ++ [Value.int .u32 (y.toNat : Int)])
            rw [HY.out]
            exact hown'
          · repeat (first | with_reducible assumption | with_reducible exact Below.refl _ _ | with_reducible refine Below.drew ?_ | with_reducible refine below_drewN ?_ _ | with_reducible refine bw_alloc ?_ _ | (with_reducible refine bw_set ?_ ?_ _; focus (dsimp only; omega)) | (with_reducible apply bw_behind; with_reducible assumption))
        case measure => simp [intOf]; omega
      · rw [he] at hsn
        dsimp only at hsn
        rw [List.append_nil] at hsn
        have HS := hide hsn
        have CE1 := hide hn.e1
        have CT1 := hide hn.t1
        have CP := hide parse_empty
        clear hn hTl hsn he
        generalize hT0 : str (bodyB (accL (l.take j))) = T0 at *
        have HT0 := hide hT0
        clear hT0
        go_wp2_with (first | (go_at_call 6; (first | ((with_reducible refine (CE1.out _ ?_).mono ?_); (focus (refine hG.behind ?_; repeat (first | with_reducible assumption | with_reducible exact Below.refl _ _ | with_reducible refine Below.drew ?_ | with_reducible refine below_drewN ?_ _ | with_reducible refine bw_alloc ?_ _ | (with_reducible refine bw_set ?_ ?_ _; focus (dsimp only; omega)) | (with_reducible apply bw_behind; with_reducible assumption)))))); rintro e w1 ⟨rfl, hb1⟩; have hr1 := below_reads hb1; have hh1 := below_holds hb1; obtain ⟨m1, hs1⟩ := below_grew hb1) | (go_at_call 7; (first | ((with_reducible refine (CT1.out _ ?_).mono ?_); (focus (refine hG.behind ?_; repeat (first | with_reducible assumption | with_reducible exact Below.refl _ _ | with_reducible refine Below.drew ?_ | with_reducible refine below_drewN ?_ _ | with_reducible refine bw_alloc ?_ _ | (with_reducible refine bw_set ?_ ?_ _; focus (dsimp only; omega)) | (with_reducible apply bw_behind; with_reducible assumption)))))); rintro e w2 ⟨rfl, hb2⟩; have hr2 := below_reads hb2; have hh2 := below_holds hb2; obtain ⟨m2, hs2⟩ := below_grew hb2) | (go_at_call 8; (first | ((with_reducible refine (CP.out _ ?_).mono ?_); (focus (refine hG.behind ?_; repeat (first | with_reducible assumption | with_reducible exact Below.refl _ _ | with_reducible refine Below.drew ?_ | with_reducible refine below_drewN ?_ _ | with_reducible refine bw_alloc ?_ _ | (with_reducible refine bw_set ?_ ?_ _; focus (dsimp only; omega)) | (with_reducible apply bw_behind; with_reducible assumption)))))); rintro e w3 ⟨rfl, hb3⟩; have hr3 := below_reads hb3; have hh3 := below_holds hb3; obtain ⟨m3, hs3⟩ := below_grew hb3))
        go_roundw
        case rel =>
          refine ⟨j + 1, by omega, by go_num, ?_, hide ?_, ?_⟩
          · rw [HS.out, HT0.out]
          · rw [HS.out]
            exact owns_al _ (owns_be hb3 (owns_be hb2 (owns_be hb1 hown.out)))
          · repeat (first | with_reducible assumption | with_reducible exact Below.refl _ _ | with_reducible refine Below.drew ?_ | with_reducible refine below_drewN ?_ _ | with_reducible refine bw_alloc ?_ _ | (with_reducible refine bw_set ?_ ?_ _; focus (dsimp only; omega)) | (with_reducible apply bw_behind; with_reducible assumption))
        case measure => simp [intOf]; omega
    · obtain rfl : j = l.length := by omega
      rw [List.take_length] at hown
      rw [List.take_length]
      obtain ⟨ua, uc, rfl⟩ := owns_len hown.out
      obtain ⟨ys, hys⟩ : ∃ ys, ys = (accL l).map (·.2) := ⟨_, rfl⟩
      have hyl : ys.length = (accL l).length := by rw [hys]; simp
      rw [← hys] at hown CA
      have HYL := hide hyl
      generalize (accL l).length = n at *
      generalize str (bodyB (accL l)) = TT at *
      have hnl : n ≤ 100 := by
        have := HNL.out
        omega
      clear hyl hys
      go_wp2_with (first | (go_at_call 9; (with_reducible refine (CA.out _ ?_).mono ?_); (focus (refine hG.behind ?_; repeat (first | with_reducible assumption | with_reducible exact Below.refl _ _ | with_reducible refine Below.drew ?_ | with_reducible refine below_drewN ?_ _ | with_reducible refine bw_alloc ?_ _ | (with_reducible refine bw_set ?_ ?_ _; focus (dsimp only; omega)) | (with_reducible apply bw_behind; with_reducible assumption)))); rintro e wA ⟨vA, rfl, hbA, hoA⟩; obtain ⟨va, vc, rfl⟩ := owns_len hoA; have hrA := below_reads hbA; have hhA := below_holds hbA; obtain ⟨mA, hsA⟩ := below_grew hbA))
      go_loopw [16] (fun i w2 => ∃ j : Nat, j ≤ n ∧ i = .int .i64 (j : Int) ∧ Below wA.heap.size wA w2) (fun i _ => n - (intOf i).toNat)
      case atStart => exact ⟨0, by omega, rfl, by
        repeat (first | with_reducible assumption | with_reducible exact Below.refl _ _ | with_reducible refine Below.drew ?_ | with_reducible refine below_drewN ?_ _ | with_reducible refine bw_alloc ?_ _ | (with_reducible refine bw_set ?_ ?_ _; focus (dsimp only; omega)) | (with_reducible apply bw_behind; with_reducible assumption))⟩
      case round =>
        obtain ⟨j, hj, rfl, hB2⟩ := hrel
        have hszA := hB2.size
        by_cases hlt : j < n
        · obtain ⟨g, cap1, e1, _, _, hgl, hcells⟩ := owns_cell hoA (by omega)
          obtain ⟨g', cap2, e2, _, _, hgl', hcells'⟩ := owns_cell (owns_be hbA hown.out) (by omega)
          injection e1 with e1a _ e1c
          injection e2 with e2a _ e2c
          subst e1a e1c e2a e2c
          have hjy : j < ys.length := by rw [HYL.out]; exact hlt
          have f1 : (wordV ((List.range n).map (fun n => ys.getD n 0#64)))[j]? = some (.int .u32 (ys[j].toNat : Int)) := by
            unfold wordV
            rw [List.getElem?_map, List.getElem?_map, List.getElem?_range hlt]
            simp [List.getD_eq_getElem?_getD, List.getElem?_eq_getElem hjy]
          have f2 : (wordV ys)[j]? = some (.int .u32 (ys[j].toNat : Int)) := by
            unfold wordV
            rw [List.getElem?_map, List.getElem?_eq_getElem hjy]
            rfl
          have c1 := c_be hB2 (hcells _ _ f1)
          have c2 := c_be hB2 (hcells' _ _ f2)
          have b1 : (j : Int) < (n : Int) := by omega
          have b3 : (0 : Int) ≤ (j : Int) := by omega
          clear hcells hcells' f1 f2
          generalize ys[j].toNat = z at *
          clear hjy
          go_wp2
          go_region
          go_wp2
          go_roundw
          case rel =>
            refine ⟨j + 1, by omega, by go_num, ?_⟩
            repeat (first | with_reducible assumption | with_reducible exact Below.refl _ _ | with_reducible refine Below.drew ?_ | with_reducible refine below_drewN ?_ _ | with_reducible refine bw_alloc ?_ _ | (with_reducible refine bw_set ?_ ?_ _; focus (dsimp only; omega)) | (with_reducible apply bw_behind; with_reducible assumption))
          case measure => simp [intOf]; omega
        · obtain rfl : j = n := by omega
          have hBA := bw_behind hB2 (bw_behind hbA hB)
          go_wp2_with (first | (go_at_call 10; (first | ((with_reducible refine (CO.out _ ?_).mono ?_); (focus (refine hG.behind ?_; repeat (first | with_reducible assumption | with_reducible exact Below.refl _ _ | with_reducible refine Below.drew ?_ | with_reducible refine below_drewN ?_ _ | with_reducible refine bw_alloc ?_ _ | (with_reducible refine bw_set ?_ ?_ _; focus (dsimp only; omega)) | (with_reducible apply bw_behind; with_reducible assumption)))))); rintro e w9 ⟨rfl, hb9⟩; have hr9 := below_reads hb9; have hh9 := below_holds hb9; obtain ⟨m9, hs9⟩ := below_grew hb9))
          go_ret
          refine ⟨rfl, ?_⟩
          repeat (first | with_reducible assumption | with_reducible exact Below.refl _ _ | with_reducible refine Below.drew ?_ | with_reducible refine below_drewN ?_ _ | with_reducible refine bw_alloc ?_ _ | (with_reducible refine bw_set ?_ ?_ _; focus (dsimp only; omega)) | (with_reducible apply bw_behind; with_reducible assumption))

end Go.Proofs.YtlommbeokbicjaaGreatDoor
