/-
  The loop that each law assembles at last.
-/
import Derived.Test.YtlommbeokbicjaaGreatDoorAsmAll
import Derived.Test.YtlommbeokbicjaaGreatDoorGWord
namespace Go.Proofs.YtlommbeokbicjaaGreatDoor
open Go.RowKit InstMath AsmMath
open Go.Lib (itoa)

theorem dec_d (u : Nat) (a b : Nat) (h : u = 10 * a + b) (hb : b < 10) (ha : 0 < a) : Lib.decDigits u = Lib.decDigits a ++ [UInt8.ofNat (48 + b)] := by
  rw [dec_big (by omega), show u / 10 = a by omega, show u % 10 = b by omega]
theorem itoa_0 : itoa 0 = [48] := by rw [show (0 : Int) = ((0 : Nat) : Int) from rfl, itoa_nat, dec_small (by omega)]; rfl
theorem itoa_1 : itoa 1 = [49] := by rw [show (1 : Int) = ((1 : Nat) : Int) from rfl, itoa_nat, dec_small (by omega)]; rfl
theorem itoa_2 : itoa 2 = [50] := by rw [show (2 : Int) = ((2 : Nat) : Int) from rfl, itoa_nat, dec_small (by omega)]; rfl
theorem itoa_3 : itoa 3 = [51] := by rw [show (3 : Int) = ((3 : Nat) : Int) from rfl, itoa_nat, dec_small (by omega)]; rfl
theorem itoa_10 : itoa 10 = [49, 48] := by rw [show (10 : Int) = ((10 : Nat) : Int) from rfl, itoa_nat, dec_d 10 1 0 rfl (by omega) (by omega), dec_small (by omega)]; rfl
theorem itoa_m1 : itoa (-1) = [45, 49] := by rw [show (-1 : Int) = -((1 : Nat) : Int) from rfl, itoa_neg (by omega), dec_small (by omega)]; rfl
theorem t_addi : wr 22 (four 10 10 0 (-1)) (itoa (-1)) = [97, 100, 100, 105, 32, 99, 49, 48, 44, 32, 99, 49, 48, 44, 32, 45, 49] := by
  have e : opL (shp 22) = [0, 1, 3] := by decide +kernel
  have n : nameL 22 = [97, 100, 100, 105] := by decide +kernel
  unfold wr txs
  rw [e, n, itoa_m1]
  simp [tx, joinS, four, itoa_10]
theorem t_bne : wr 6 (four 0 10 0 (-4)) [97] = [98, 110, 101, 32, 99, 49, 48, 44, 32, 99, 48, 44, 32, 97] := by
  have e : opL (shp 6) = [1, 2, 3] := by decide +kernel
  have n : nameL 6 = [98, 110, 101] := by decide +kernel
  unfold wr txs
  rw [e, n]
  simp [tx, joinS, four, itoa_10, itoa_0]
theorem name_one (b : UInt8) (h : ltrB b.toNat = true) : NameOk [b] := ⟨by simp, by simp, fun _ => h, fun c hc => by simp at hc; subst hc; unfold nmB; rw [h]; rfl⟩
theorem plain_ln {k : Nat} (h1 : 1 ≤ k) (h2 : k ≤ 69) {F : Nat → Int} (hF : ∀ o, rng (F o)) {s : List UInt8} (hs : LastOk s) (n : Nat) : InsLn ⟨2, List.replicate n 32 ++ wr k F s, wr k F s⟩ :=
  ⟨rfl, wr_trim h1 (by omega) n, wr_plain h1 (by omega) hs, by have := wr_len h1 (by omega) hs hF (k := k); dsimp only; omega⟩
def oneL : List Ln := [⟨1, [97, 58], [97]⟩, ⟨2, List.replicate 0 32 ++ wr 22 (four 10 10 0 (-1)) (itoa (-1)), wr 22 (four 10 10 0 (-1)) (itoa (-1))⟩, ⟨2, List.replicate 0 32 ++ wr 6 (four 0 10 0 (-4)) [97], wr 6 (four 0 10 0 (-4)) [97]⟩]
def oneY (n : Nat) : BitVec 64 := if n = 0 then 4294247699#64 else 4261748451#64
theorem rng_small {v : Int} (h : -1000000 ≤ v ∧ v ≤ 1000000) : rng v := by unfold rng; omega
theorem one_asm (W : World) (hG : G W) : Calls Tryz.prog 9 #[.string ⟨#[97, 58, 10, 97, 100, 100, 105, 32, 99, 49, 48, 44, 32, 99, 49, 48, 44, 32, 45, 49, 10, 98, 110, 101, 32, 99, 49, 48, 44, 32, 99, 48, 44, 32, 97]⟩] W (Assembled 2 oneY W) := by
  have n1 := name_one 97 (by decide)
  have r1 : ∀ o, rng (four 10 10 0 (-1) o) := four_rng (rng_small (by omega)) (rng_small (by omega)) (rng_small (by omega)) (rng_small (by omega))
  have r2 : ∀ o, rng (four 0 10 0 (-4) o) := four_rng (rng_small (by omega)) (rng_small (by omega)) (rng_small (by omega)) (rng_small (by omega))
  have l1 : LastOk (itoa (-1)) := last_itoa (rng_small (by omega))
  have l2 := last_name n1
  have hm : marksOf oneL [97] = some (0, 1) := by
    unfold marksOf oneL
    simp [mkF, updS]
  have hm2 : marksOf oneL (itoa (-1)) = none := by
    rw [itoa_m1]
    unfold marksOf oneL
    simp [mkF, updS]
  have c := assemble_any oneL oneY (by simp [oneL]) (fun l hl => by
      simp only [oneL, List.mem_cons, List.not_mem_nil, or_false] at hl
      rcases hl with rfl | rfl | rfl
      · exact .inr (.inl ⟨rfl, by decide, n1⟩)
      · exact .inr (.inr (plain_ln (by omega) (by omega) r1 l1 0))
      · exact .inr (.inr (plain_ln (by omega) (by omega) r2 l2 0))) (fun l hl => by
      simp only [oneL, List.mem_cons, List.not_mem_nil, or_false] at hl
      rcases hl with rfl | rfl | rfl
      · decide
      · rw [t_addi]; decide
      · rw [t_bne]; decide) (by simp [oneL, joinS, t_addi, t_bne]) (by simp [oneL, cntL, isI]) (by simp [oneL]) (fun j l hj hc => by
      match j, hj with
      | 0, hj => rfl
      | 1, hj => simp [oneL] at hj; subst hj; cases hc
      | 2, hj => simp [oneL] at hj; subst hj; cases hc
      | j + 3, hj => simp [oneL] at hj) (fun j l hj hc => by
      match j, hj with
      | 0, hj => simp [oneL] at hj; subst hj; cases hc
      | 1, hj =>
        have : l = ⟨2, List.replicate 0 32 ++ wr 22 (four 10 10 0 (-1)) (itoa (-1)), wr 22 (four 10 10 0 (-1)) (itoa (-1))⟩ := by simpa [oneL] using hj.symm
        subst this
        refine ⟨22, four 10 10 0 (-1), itoa (-1), rfl, ⟨by omega, by omega, r1, ?_, l1, by decide +kernel⟩, .inr ⟨hm2, rfl, by decide, by decide⟩⟩
        rw [show opL (shp 22) = [0, 1, 3] by decide +kernel]
        decide
      | 2, hj =>
        have : l = ⟨2, List.replicate 0 32 ++ wr 6 (four 0 10 0 (-4)) [97], wr 6 (four 0 10 0 (-4)) [97]⟩ := by simpa [oneL] using hj.symm
        subst this
        refine ⟨6, four 0 10 0 (-4), [97], rfl, ⟨by omega, by omega, r2, ?_, l2, by decide +kernel⟩, .inl ⟨0, hm, by omega, by decide +kernel, rfl⟩⟩
        rw [show opL (shp 6) = [1, 2, 3] by decide +kernel]
        decide
      | j + 3, hj => simp [oneL] at hj) W hG
  have e : str (joinS [10] (oneL.map (·.raw))) = ⟨#[97, 58, 10, 97, 100, 100, 105, 32, 99, 49, 48, 44, 32, 99, 49, 48, 44, 32, 45, 49, 10, 98, 110, 101, 32, 99, 49, 48, 44, 32, 99, 48, 44, 32, 97]⟩ := by
    unfold str
    simp [oneL, joinS, t_addi, t_bne]
  rw [e] at c
  exact c

set_option maxRecDepth 100000 in
set_option maxHeartbeats 4000000 in
theorem one_any  (w : World) (hG : G w) : Calls Tryz.prog 10 #[] w (Makes (.bool true) w) := by
  have C1 : Hid (∀ W, G W → Calls Tryz.prog 9 #[.string ⟨#[97, 58, 10, 97, 100, 100, 105, 32, 99, 49, 48, 44, 32, 99, 49, 48, 44, 32, 45, 49, 10, 98, 110, 101, 32, 99, 49, 48, 44, 32, 99, 48, 44, 32, 97]⟩] W fun e w' => ∃ g cap, e = .returned (.tuple #[.slice (some ⟨g, 0, none⟩) 2 cap, .int .i64 0, .int .i64 0]) ∧ Below W.heap.size W w' ∧ w'.cell? ⟨g, 0, none⟩ = some (.int .u32 4294247699) ∧ w'.cell? ⟨g, 1, none⟩ = some (.int .u32 4261748451) ∧ 2 ≤ cap) := hide (fun W hG => (one_asm W hG).mono fun e w' ⟨v, he, hb, ho⟩ => by
    obtain ⟨g, cap, rfl, hc, _, _, hcells⟩ := owns_cell ho (by omega)
    exact ⟨g, cap, he, hb, hcells 0 _ rfl, hcells 1 _ rfl, hc⟩)
  have SS := cell_same
  have LB' := ltB_add
  have LS := ltB_self
  have LA' := alloc_reads
  have LH := alloc_holds
  go_enter Tryz.func10, Tryz.ntmps10
  go_wp2_with (first | (go_at_call 9; (with_reducible refine (C1.out _ ?_).mono ?_); (focus (refine hG.behind ?_; repeat (first | with_reducible assumption | with_reducible exact Below.refl _ _ | with_reducible refine Below.drew ?_ | with_reducible refine below_drewN ?_ _ | with_reducible refine bw_alloc ?_ _ | (with_reducible refine bw_set ?_ ?_ _; focus (dsimp only; omega)) | (with_reducible apply bw_behind; with_reducible assumption)))); rintro e w1 ⟨g, cap, rfl, hb1, c0, c1, hcap⟩; have hr1 := below_reads hb1; have hh1 := below_holds hb1; obtain ⟨m1, hs1⟩ := below_grew hb1))
  refine bodyPost_ret (v := .bool true) (by simp (maxDischargeDepth := 4) [results, Tryz.results10, go_sem, *]) rfl ?_
  refine ⟨rfl, ?_⟩
  repeat (first | with_reducible assumption | with_reducible exact Below.refl _ _ | with_reducible refine Below.drew ?_ | with_reducible refine below_drewN ?_ _ | with_reducible refine bw_alloc ?_ _ | (with_reducible refine bw_set ?_ ?_ _; focus (dsimp only; omega)) | (with_reducible apply bw_behind; with_reducible assumption))
end Go.Proofs.YtlommbeokbicjaaGreatDoor
