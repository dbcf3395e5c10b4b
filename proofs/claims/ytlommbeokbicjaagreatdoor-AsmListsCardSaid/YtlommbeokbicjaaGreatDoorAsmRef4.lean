/-
  Does a word go to a place, by the document.
-/
import Derived.Test.YtlommbeokbicjaaGreatDoorAsmRef3
import Derived.Test.YtlommbeokbicjaaGreatDoorInstRdec
namespace Go.Proofs.YtlommbeokbicjaaGreatDoor
open Go.RowKit InstMath AsmMath
open Go.Lib (itoa)

/-- What the document's functions answer to the word j. -/
structure RowD (D : BitVec 64 → Option Nat) (ws : List (BitVec 64)) (j : Nat) (K x0 x1 x2 x3 : Int) (ok : Bool) : Prop where
  dec : ∀ W, Calls Tryz.prog 33 #[.int .u32 ((wsAt ws j).toNat : Int)] W (Makes (.tuple #[.agg #[.int .i64 K, .int .i64 x0, .int .i64 x1, .int .i64 x2, .int .i64 x3], .bool ok]) W)
  goes : ok = true → ∀ W, Calls Tryz.prog 36 #[.agg #[.int .i64 K, .int .i64 x0, .int .i64 x1, .int .i64 x2, .int .i64 x3], .int .i64 (j : Int), .int .i64 (ws.length : Int)] W (GoesR (goesW D ws j) W)
  none : ok = false → goesW D ws j = none
theorem rowd_any {D : BitVec 64 → Option Nat} {ws : List (BitVec 64)} (hD : Ds D ws) (hn : ws.length ≤ 10000) (j : Nat) (hj : j < ws.length) : ∃ K x0 x1 x2 x3 ok, RowD D ws j K x0 x1 x2 x3 ok := by
  have hmem : wsAt ws j ∈ ws := by
    unfold wsAt
    rw [List.getD_eq_getElem?_getD, List.getElem?_eq_getElem hj]
    exact List.getElem_mem hj
  have hy := hD.lt _ hmem
  have hd := hD.is (wsAt ws j)
  cases hdd : D (wsAt ws j) with
  | none =>
    rw [hdd] at hd
    have hg : goesW D ws j = none := by unfold goesW; rw [hdd]
    exact ⟨0, 0, 0, 0, 0, false, fun W => rdec_any (wsAt ws j) hy none hd W, fun h => (by cases h), fun _ => hg⟩
  | some k =>
    rw [hdd] at hd
    have hd2 := hd
    obtain ⟨k1, k2, hm⟩ := hd
    have hb := dec_imm k1 k2 hy hm
    have hg : goesW D ws j = goesQ k (opsI k (wsAt ws j) 3) j ws.length := by unfold goesW; rw [hdd]
    refine ⟨(k : Int), _, _, _, _, true, fun W => rdec_any (wsAt ws j) hy (some k) hd2 W, fun _ W => ?_, fun h => (by cases h)⟩
    rw [hg]
    obtain ⟨i, rfl⟩ : ∃ i, k = i + 1 := ⟨k - 1, by omega⟩
    exact rgoes_any i (by omega) _ _ _ _ (by omega) j ws.length (by omega) hn W

theorem mark_mono {D : BitVec 64 → Option Nat} {ws : List (BitVec 64)} {t : Nat} {a b : Nat} (hab : a ≤ b) (h : markP D ws a t = true) : markP D ws b t = true := by
  unfold markP at h ⊢
  rw [List.any_eq_true] at h ⊢
  obtain ⟨x, hx, hh⟩ := h
  exact ⟨x, by simp at hx ⊢; omega, hh⟩
set_option maxRecDepth 100000 in
set_option maxHeartbeats 8000000 in
theorem rmarked_any (D : BitVec 64 → Option Nat) (ws : List (BitVec 64)) (hD : Ds D ws) (n : Nat) (hnn : ws.length = n) (hn : n ≤ 1000) (sa : Option Addr) (cap : Nat) (t : Nat) (w : World) (hcell : ∀ j, j < n → ∃ b off, sa = some ⟨b, off, none⟩ ∧ w.cell? ⟨b, off + j, none⟩ = some (.int .u32 ((wsAt ws j).toNat : Int))) :
    Calls Tryz.prog 31 #[.slice sa n cap, .int .i64 (t : Int)] w (Makes (.bool (markP D ws n t)) w) := by
  have HR : Hid (∀ j, j < n → ∃ K x0 x1 x2 x3 ok, RowD D ws j K x0 x1 x2 x3 ok) := hide (fun j hj => rowd_any hD (by omega) j (by omega))
  have HCL := hide hcell
  have HN := hide hnn
  obtain ⟨R, hR⟩ : ∃ R, markP D ws n t = R := ⟨_, rfl⟩
  rw [hR]
  have HRR := hide hR
  clear hcell hD hnn hR
  have SS := cell_same
  have LB' := ltB_add
  have LS := ltB_self
  have LA' := alloc_reads
  have LH := alloc_holds
  go_enter Tryz.func31, Tryz.ntmps31
  go_wp2
  go_loopw [5] (fun i wr => ∃ j : Nat, j ≤ n ∧ i = .int .i64 (j : Int) ∧ Hid (markP D ws j t = false) ∧ Below w.heap.size w wr) (fun i _ => n - (intOf i).toNat)
  case atStart => exact ⟨0, by omega, rfl, hide (by simp [markP]), by (repeat (first | with_reducible assumption | with_reducible exact Below.refl _ _ | with_reducible refine Below.drew ?_ | with_reducible refine below_drewN ?_ _ | with_reducible refine bw_alloc ?_ _ | (with_reducible refine bw_set ?_ ?_ _; focus (dsimp only; omega)) | (with_reducible apply bw_behind; with_reducible assumption)))⟩
  case round =>
    obtain ⟨j, hj, rfl, HM, hB⟩ := hrel
    have hsz := hB.size
    have g3 : (0 : Int) ≤ (j : Int) := by omega
    by_cases hlt : j < n
    · obtain ⟨b, off, rfl, hc⟩ := HCL.out j hlt
      obtain ⟨K, x0, x1, x2, x3, ok, hrow⟩ := HR.out j hlt
      have hX := c_be hB hc
      have lB : ltB b wr.heap.size = true := by unfold ltB; simpa using World.block_lt_of_cell? _ _ hX
      have g1 : (j : Int) < (n : Int) := by omega
      have CD := hide hrow.dec
      have CT := hrow.goes
      have HO := hrow.none
      rw [HN.out] at CT
      have hms := mark_succ D ws j t
      generalize hy : ((wsAt ws j).toNat : Int) = Y at *
      clear hy hc hrow
      cases ok with
      | false =>
        have HMS : Hid (markP D ws (j + 1) t = markP D ws j t) := hide (by rw [hms, HO rfl]; simp)
        clear CT HO hms
        go_wp2_with (first | (go_at_call 33; (with_reducible refine (CD.out _).mono ?_); rintro e w1 ⟨rfl, hb1⟩; have hr1 := below_reads hb1; have hh1 := below_holds hb1; obtain ⟨m1, hs1⟩ := below_grew hb1))
        go_roundw
        case rel => exact ⟨j + 1, by omega, by go_num, hide (by rw [HMS.out]; exact HM.out), by (repeat (first | with_reducible assumption | with_reducible exact Below.refl _ _ | with_reducible refine Below.drew ?_ | with_reducible refine below_drewN ?_ _ | with_reducible refine bw_alloc ?_ _ | (with_reducible refine bw_set ?_ ?_ _; focus (dsimp only; omega)) | (with_reducible apply bw_behind; with_reducible assumption)))⟩
        case measure => simp [intOf]; omega
      | true =>
        have CT := CT rfl
        clear HO
        cases hg : goesW D ws j with
        | none =>
          have CG : Hid (∀ W, Calls Tryz.prog 36 #[.agg #[.int .i64 K, .int .i64 x0, .int .i64 x1, .int .i64 x2, .int .i64 x3], .int .i64 (j : Int), .int .i64 (n : Int)] W (fun e w' => ∃ T : Int, e = .returned (.tuple #[.int .i64 T, .bool false]) ∧ Below W.heap.size W w')) := hide (fun W => (CT W).mono fun e w' h => by
            rw [hg] at h
            obtain ⟨T, h1, _, h3⟩ := h
            exact ⟨T, h1, h3⟩)
          have HMS : Hid (markP D ws (j + 1) t = markP D ws j t) := hide (by rw [hms, hg]; simp)
          clear hms hg CT
          go_wp2_with (first | (go_at_call 33; (with_reducible refine (CD.out _).mono ?_); rintro e w1 ⟨rfl, hb1⟩; have hr1 := below_reads hb1; have hh1 := below_holds hb1; obtain ⟨m1, hs1⟩ := below_grew hb1) | (go_at_call 36; (with_reducible refine (CG.out _).mono ?_); rintro e w2 ⟨T, rfl, hb2⟩; have hr2 := below_reads hb2; have hh2 := below_holds hb2; obtain ⟨m2, hs2⟩ := below_grew hb2))
          go_roundw
          case rel => exact ⟨j + 1, by omega, by go_num, hide (by rw [HMS.out]; exact HM.out), by (repeat (first | with_reducible assumption | with_reducible exact Below.refl _ _ | with_reducible refine Below.drew ?_ | with_reducible refine below_drewN ?_ _ | with_reducible refine bw_alloc ?_ _ | (with_reducible refine bw_set ?_ ?_ _; focus (dsimp only; omega)) | (with_reducible apply bw_behind; with_reducible assumption)))⟩
          case measure => simp [intOf]; omega
        | some t' =>
          have CG : Hid (∀ W, Calls Tryz.prog 36 #[.agg #[.int .i64 K, .int .i64 x0, .int .i64 x1, .int .i64 x2, .int .i64 x3], .int .i64 (j : Int), .int .i64 (n : Int)] W (fun e w' => e = .returned (.tuple #[.int .i64 (t' : Int), .bool true]) ∧ Below W.heap.size W w')) := hide (fun W => (CT W).mono fun e w' h => by
            rw [hg] at h
            obtain ⟨T, h1, h2, h3⟩ := h
            rw [h2 t' rfl] at h1
            exact ⟨h1, h3⟩)
          by_cases htt : t' = t
          · subst htt
            have HE : R = true := by
              rw [← HRR.out]
              exact mark_mono (a := j + 1) (by omega) (by rw [hms, hg]; simp)
            subst HE
            clear hms hg CT
            go_wp2_with (first | (go_at_call 33; (with_reducible refine (CD.out _).mono ?_); rintro e w1 ⟨rfl, hb1⟩; have hr1 := below_reads hb1; have hh1 := below_holds hb1; obtain ⟨m1, hs1⟩ := below_grew hb1) | (go_at_call 36; (with_reducible refine (CG.out _).mono ?_); rintro e w2 ⟨rfl, hb2⟩; have hr2 := below_reads hb2; have hh2 := below_holds hb2; obtain ⟨m2, hs2⟩ := below_grew hb2))
            go_ret
            refine ⟨rfl, ?_⟩
            repeat (first | with_reducible assumption | with_reducible exact Below.refl _ _ | with_reducible refine Below.drew ?_ | with_reducible refine below_drewN ?_ _ | with_reducible refine bw_alloc ?_ _ | (with_reducible refine bw_set ?_ ?_ _; focus (dsimp only; omega)) | (with_reducible apply bw_behind; with_reducible assumption))
          · have HMS : Hid (markP D ws (j + 1) t = markP D ws j t) := hide (by rw [hms, hg]; simp [htt])
            have q1 : ((t' : Int) == (t : Int)) = false := by simp; omega
            have q2 : ¬ (t' : Int) = (t : Int) := by omega
            clear hms hg CT
            go_wp2_with (first | (go_at_call 33; (with_reducible refine (CD.out _).mono ?_); rintro e w1 ⟨rfl, hb1⟩; have hr1 := below_reads hb1; have hh1 := below_holds hb1; obtain ⟨m1, hs1⟩ := below_grew hb1) | (go_at_call 36; (with_reducible refine (CG.out _).mono ?_); rintro e w2 ⟨rfl, hb2⟩; have hr2 := below_reads hb2; have hh2 := below_holds hb2; obtain ⟨m2, hs2⟩ := below_grew hb2))
            go_roundw
            case rel => exact ⟨j + 1, by omega, by go_num, hide (by rw [HMS.out]; exact HM.out), by (repeat (first | with_reducible assumption | with_reducible exact Below.refl _ _ | with_reducible refine Below.drew ?_ | with_reducible refine below_drewN ?_ _ | with_reducible refine bw_alloc ?_ _ | (with_reducible refine bw_set ?_ ?_ _; focus (dsimp only; omega)) | (with_reducible apply bw_behind; with_reducible assumption)))⟩
            case measure => simp [intOf]; omega
    · obtain rfl : j = n := by omega
      have HE : R = false := by rw [← HRR.out]; exact HM.out
      subst HE
      go_wp2
      go_ret
      refine ⟨rfl, ?_⟩
      repeat (first | with_reducible assumption | with_reducible exact Below.refl _ _ | with_reducible refine Below.drew ?_ | with_reducible refine below_drewN ?_ _ | with_reducible refine bw_alloc ?_ _ | (with_reducible refine bw_set ?_ ?_ _; focus (dsimp only; omega)) | (with_reducible apply bw_behind; with_reducible assumption))

end Go.Proofs.YtlommbeokbicjaaGreatDoor
