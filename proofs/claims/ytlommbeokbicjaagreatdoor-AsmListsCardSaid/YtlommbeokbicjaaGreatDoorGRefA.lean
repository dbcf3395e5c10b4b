/-
  Texts laid one behind the other: AsmRef1, AsmRef2.
  The document's numbers, registers and hexadecimal digits.
  The document's hexadecimal digits.
-/
import Derived.Test.YtlommbeokbicjaaGreatDoorAsmListing
import Derived.BigQuiet
namespace Go.Proofs.YtlommbeokbicjaaGreatDoor
open Go.RowKit InstMath AsmMath
open Go.Lib (itoa)

theorem digit_ext : ∀ d, d < 10 → (⟨#[48, 49, 50, 51, 52, 53, 54, 55, 56, 57]⟩ : ByteArray).extract d (d + 1) = str [UInt8.ofNat (48 + d)] := by decide +kernel
theorem hexd_ext : ∀ d, d < 16 → (⟨#[48, 49, 50, 51, 52, 53, 54, 55, 56, 57, 97, 98, 99, 100, 101, 102]⟩ : ByteArray).extract d (d + 1) = str [hexC d] := by decide +kernel

set_option maxRecDepth 100000 in
set_option maxHeartbeats 2000000 in
theorem rnum_nat : ∀ (m u : Nat), u ≤ m → u < 100000000000 → ∀ w : World, Calls Tryz.prog 32 #[.int .i64 (u : Int)] w (Makes (.string (str (Lib.decDigits u))) w) := by
  intro m
  induction m using Nat.strongRecOn with
  | _ m ih =>
    intro u hum hu w
    have cut := digit_ext (u % 10) (by omega)
    have c1 : u % 10 < 10 := by omega
    have tn : (((u % 10 : Nat) : Int) + 1).toNat = u % 10 + 1 := by omega
    have tb : ((u % 10 : Nat) : Int) + 1 ≤ 10 := by omega
    have a1 : (u : Int).tmod 10 = ((u % 10 : Nat) : Int) := by rw [Int.tmod_eq_emod_of_nonneg (by omega)]; omega
    have a2 : (u : Int) % 10 = ((u % 10 : Nat) : Int) := by omega
    have a3 : (u : Int).tdiv 10 = ((u / 10 : Nat) : Int) := by rw [Int.tdiv_eq_ediv_of_nonneg (by omega)]; omega
    have a4 : (u : Int) / 10 = ((u / 10 : Nat) : Int) := by omega
    have a5 : IntKind.i64.wrap (((u % 10 : Nat) : Int) + 1) = ((u % 10 : Nat) : Int) + 1 := by rw [IntKind.wrap_i64]; omega
    have n0 : ¬ ((u : Int) < 0) := by omega
    by_cases hs : u < 10
    · have hd : Lib.decDigits u = [UInt8.ofNat (48 + u % 10)] := by rw [dec_small hs, Nat.mod_eq_of_lt hs]
      have n1 : (u : Int) < 10 := by omega
      rw [hd]
      clear ih hd
      generalize str [UInt8.ofNat (48 + u % 10)] = S1 at *
      generalize (u % 10 : Nat) = d at *
      have SS := cell_same
      have LB' := ltB_add
      have LS := ltB_self
      have LA' := alloc_reads
      have LH := alloc_holds
      go_enter Tryz.func32, Tryz.ntmps32
      go_wp2
      refine bodyPost_ret (v := .string S1) (by simp (maxDischargeDepth := 4) [results, Tryz.results32, go_sem, *]) rfl ?_
      refine ⟨rfl, ?_⟩
      repeat (first | with_reducible assumption | with_reducible exact Below.refl _ _ | with_reducible refine Below.drew ?_ | with_reducible refine below_drewN ?_ _ | with_reducible refine bw_alloc ?_ _ | (with_reducible refine bw_set ?_ ?_ _; focus (dsimp only; omega)) | (with_reducible apply bw_behind; with_reducible assumption))
    · have hd := dec_big hs
      have n1 : ¬ ((u : Int) < 10) := by omega
      have C1 := hide (fun W => ih (u / 10) (by omega) (u / 10) (Nat.le_refl _) (by omega) W)
      have hlen : (Lib.decDigits (u / 10)).length ≤ 40 := by
        rw [Lib.decDigits_length]
        have := Lib.nDigits_le20 (u / 10) (by omega)
        omega
      have d1 : ∀ W, (Op.stringOp .add (str (Lib.decDigits (u / 10))) (str [UInt8.ofNat (48 + u % 10)])).run Tryz.prog W = .ok (.string (str (Lib.decDigits u))) W := by
        rw [hd]
        exact text_add (by simp; omega)
      clear ih hd hlen
      generalize str (Lib.decDigits (u / 10)) = S2 at *
      generalize str (Lib.decDigits u) = S3 at *
      generalize str [UInt8.ofNat (48 + u % 10)] = S1 at *
      generalize (u % 10 : Nat) = d at *
      generalize ((u / 10 : Nat) : Int) = q at *
      have SS := cell_same
      have LB' := ltB_add
      have LS := ltB_self
      have LA' := alloc_reads
      have LH := alloc_holds
      go_enter Tryz.func32, Tryz.ntmps32
      go_wp2_with (first | (go_at_call 32; (with_reducible refine (C1.out _).mono ?_); rintro e w1 ⟨rfl, hb1⟩; have hr1 := below_reads hb1; have hh1 := below_holds hb1; obtain ⟨m1, hs1⟩ := below_grew hb1))
      refine bodyPost_ret (v := .string S3) (by simp (maxDischargeDepth := 4) [results, Tryz.results32, go_sem, *]) rfl ?_
      refine ⟨rfl, ?_⟩
      repeat (first | with_reducible assumption | with_reducible exact Below.refl _ _ | with_reducible refine Below.drew ?_ | with_reducible refine below_drewN ?_ _ | with_reducible refine bw_alloc ?_ _ | (with_reducible refine bw_set ?_ ?_ _; focus (dsimp only; omega)) | (with_reducible apply bw_behind; with_reducible assumption))

set_option maxRecDepth 100000 in
set_option maxHeartbeats 2000000 in
theorem rnum_any (n : Int) (hn : -100000000000 < n ∧ n < 100000000000) (w : World)  : Calls Tryz.prog 32 #[.int .i64 n] w (Makes (.string (str (itoa n))) w) := by
  by_cases h0 : 0 ≤ n
  · obtain ⟨u, rfl⟩ : ∃ u : Nat, n = (u : Int) := ⟨n.toNat, by omega⟩
    rw [itoa_nat]
    exact rnum_nat u u (Nat.le_refl _) (by omega) w
  · obtain ⟨u, hu, rfl⟩ : ∃ u : Nat, 0 < u ∧ n = -(u : Int) := ⟨(-n).toNat, by omega, by omega⟩
    have C1 := hide (fun W => rnum_nat u u (Nat.le_refl _) (by omega) W)
    have hlen : (Lib.decDigits u).length ≤ 40 := by
      rw [Lib.decDigits_length]
      have := Lib.nDigits_le20 u (by omega)
      omega
    have d1 : ∀ W, (Op.stringOp .add ⟨#[45]⟩ (str (Lib.decDigits u))).run Tryz.prog W = .ok (.string (str (45 :: Lib.decDigits u))) W := text_add (a := [45]) (by simp; omega)
    have hi : itoa (-(u : Int)) = 45 :: Lib.decDigits u := itoa_neg hu
    have n0 : -(u : Int) < 0 := by omega
    have a5 : IntKind.i64.wrap (- -(u : Int)) = (u : Int) := by rw [IntKind.wrap_i64]; omega
    have a6 : IntKind.i64.wrap ((u : Nat) : Int) = (u : Int) := by rw [IntKind.wrap_i64]; omega
    rw [hi]
    clear hlen hi
    generalize str (45 :: Lib.decDigits u) = S2 at *
    generalize str (Lib.decDigits u) = S1 at *
    have SS := cell_same
    have LB' := ltB_add
    have LS := ltB_self
    have LA' := alloc_reads
    have LH := alloc_holds
    go_enter Tryz.func32, Tryz.ntmps32
    go_wp2_with (first | (go_at_call 32; (with_reducible refine (C1.out _).mono ?_); rintro e w1 ⟨rfl, hb1⟩; have hr1 := below_reads hb1; have hh1 := below_holds hb1; obtain ⟨m1, hs1⟩ := below_grew hb1))
    refine bodyPost_ret (v := .string S2) (by simp (maxDischargeDepth := 4) [results, Tryz.results32, go_sem, *]) rfl ?_
    refine ⟨rfl, ?_⟩
    repeat (first | with_reducible assumption | with_reducible exact Below.refl _ _ | with_reducible refine Below.drew ?_ | with_reducible refine below_drewN ?_ _ | with_reducible refine bw_alloc ?_ _ | (with_reducible refine bw_set ?_ ?_ _; focus (dsimp only; omega)) | (with_reducible apply bw_behind; with_reducible assumption))

set_option maxRecDepth 100000 in
set_option maxHeartbeats 2000000 in
theorem rregt_any (n : Int) (hn : -10000000000 < n ∧ n < 10000000000) (w : World)  : Calls Tryz.prog 70 #[.int .i64 n] w (Makes (.string (str (99 :: itoa n))) w) := by
  have C1 := hide (rnum_any n (by omega))
  have hl := itoa_len hn
  have d1 : ∀ W, (Op.stringOp .add ⟨#[99]⟩ (str (itoa n))).run Tryz.prog W = .ok (.string (str (99 :: itoa n))) W := text_add (a := [99]) (by simp; omega)
  have a6 : IntKind.i64.wrap n = n := by rw [IntKind.wrap_i64]; omega
  clear hl
  generalize str (99 :: itoa n) = S2 at *
  generalize str (itoa n) = S1 at *
  have SS := cell_same
  have LB' := ltB_add
  have LS := ltB_self
  have LA' := alloc_reads
  have LH := alloc_holds
  go_enter Tryz.func70, Tryz.ntmps70
  go_wp2_with (first | (go_at_call 32; (with_reducible refine (C1.out _).mono ?_); rintro e w1 ⟨rfl, hb1⟩; have hr1 := below_reads hb1; have hh1 := below_holds hb1; obtain ⟨m1, hs1⟩ := below_grew hb1))
  refine bodyPost_ret (v := .string S2) (by simp (maxDischargeDepth := 4) [results, Tryz.results70, go_sem, *]) rfl ?_
  refine ⟨rfl, ?_⟩
  repeat (first | with_reducible assumption | with_reducible exact Below.refl _ _ | with_reducible refine Below.drew ?_ | with_reducible refine below_drewN ?_ _ | with_reducible refine bw_alloc ?_ _ | (with_reducible refine bw_set ?_ ?_ _; focus (dsimp only; omega)) | (with_reducible apply bw_behind; with_reducible assumption))

end Go.Proofs.YtlommbeokbicjaaGreatDoor

namespace Go.Proofs.YtlommbeokbicjaaGreatDoor
open Go.RowKit InstMath AsmMath
open Go.Lib (itoa)

theorem behind_m {f : FuncId} {args : Array Value} {v : Value} {w0 : World} (c : ∀ W, Calls Tryz.prog f args W (Makes v W)) (y : Behind w0.heap.size w0) :
    Calls Tryz.prog f args y.world fun e w'' => e = .returned v ∧ ∃ z : Behind w0.heap.size w0, w'' = z.world :=
  (c _).mono fun _ _ ⟨he, hb⟩ => ⟨he, ⟨_, y.below.trans (hb.mono y.below.size)⟩, rfl⟩
set_option maxRecDepth 100000 in
set_option maxHeartbeats 4000000 in
theorem rhex_any : ∀ (m u : Nat), m ≤ 8 → u < 4294967296 → ∀ w : World, Calls Tryz.prog 34 #[.int .u32 (u : Int), .int .i64 (m : Int)] w (Makes (.string (str (hexF m u))) w)
  | 0, u, _, _, w => by
    go_enter Tryz.func34, Tryz.ntmps34
    go_wp2
    refine bodyPost_ret (v := .string ⟨#[]⟩) (by simp (maxDischargeDepth := 4) [results, Tryz.results34, go_sem, *]) rfl ?_
    refine ⟨rfl, ?_⟩
    repeat (first | with_reducible assumption | with_reducible exact Below.refl _ _ | with_reducible refine Below.drew ?_ | with_reducible refine below_drewN ?_ _ | with_reducible refine bw_alloc ?_ _ | (with_reducible refine bw_set ?_ ?_ _; focus (dsimp only; omega)) | (with_reducible apply bw_behind; with_reducible assumption))
  | m + 1, u, hm, hu, w => by
    have C1 := hide (fun W => rhex_any m (u / 16) (by omega) (by omega) W)
    have hlen := hexF_len m (u / 16)
    have d1 : ∀ W, (Op.stringOp .add (str (hexF m (u / 16))) (str [hexC (u % 16)])).run Tryz.prog W = .ok (.string (str (hexF (m + 1) u))) W := text_add (by simp; omega)
    have cut := hexd_ext (u % 16) (by omega)
    have c1 : u % 16 < 16 := by omega
    have a1 : (u : Int).tmod 16 = ((u % 16 : Nat) : Int) := by rw [Int.tmod_eq_emod_of_nonneg (by omega)]; omega
    have a2 : (u : Int) % 16 = ((u % 16 : Nat) : Int) := by omega
    have a3 : (u : Int).tdiv 16 = ((u / 16 : Nat) : Int) := by rw [Int.tdiv_eq_ediv_of_nonneg (by omega)]; omega
    have a4 : (u : Int) / 16 = ((u / 16 : Nat) : Int) := by omega
    have u0 : (0 : Int) ≤ (u : Int) := by omega
    have a5 : IntKind.u32.wrap (((u % 16 : Nat) : Int) + 1) = ((u % 16 : Nat) : Int) + 1 := by rw [IntKind.wrap_u32]; omega
    have a6 : IntKind.u32.wrap ((u / 16 : Nat) : Int) = ((u / 16 : Nat) : Int) := by rw [IntKind.wrap_u32]; omega
    have tn : (((u % 16 : Nat) : Int) + 1).toNat = u % 16 + 1 := by omega
    have tb : ((u % 16 : Nat) : Int) + 1 ≤ 16 := by omega
    obtain ⟨M, hM⟩ : ∃ M, ((m + 1 : Nat) : Int) = M := ⟨_, rfl⟩
    have b1 : (M == 0) = false := by simp; omega
    have b2 : IntKind.i64.wrap (M - 1) = (m : Int) := by rw [IntKind.wrap_i64]; omega
    have b3 : M - 1 = (m : Int) := by omega
    rw [hM]
    clear hM hlen
    generalize str (hexF m (u / 16)) = S2 at *
    generalize str (hexF (m + 1) u) = S3 at *
    generalize str [hexC (u % 16)] = S1 at *
    generalize (u % 16 : Nat) = d at *
    generalize ((u / 16 : Nat) : Int) = q at *
    go_enter Tryz.func34, Tryz.ntmps34
    go_upto_region 4 with fail
    have hsome := Behind.any w
    refine wp_region_behind w (by kernel_rfl) (by kernel_rfl) (Below.refl _ _) ?_
    repeat (go_big_quiet_step (first | (go_at_call 34; with_reducible first | exact behind_m C1.out _)))
    refine wpQuiet_nil ?_
    rintro _ ⟨y, rfl⟩
    have hBy := y.below
    clear hsome
    obtain ⟨w1, hw1⟩ : ∃ W, W = y.world := ⟨_, rfl⟩
    rw [← hw1] at hBy ⊢
    clear hw1 y
    go_wp2
    refine bodyPost_ret (v := .string S3) (by simp (maxDischargeDepth := 4) [results, Tryz.results34, go_sem, *]) rfl ?_
    refine ⟨rfl, ?_⟩
    repeat (first | with_reducible assumption | with_reducible exact Below.refl _ _ | with_reducible refine Below.drew ?_ | with_reducible refine below_drewN ?_ _ | with_reducible refine bw_alloc ?_ _ | (with_reducible refine bw_set ?_ ?_ _; focus (dsimp only; omega)) | (with_reducible apply bw_behind; with_reducible assumption))

end Go.Proofs.YtlommbeokbicjaaGreatDoor
