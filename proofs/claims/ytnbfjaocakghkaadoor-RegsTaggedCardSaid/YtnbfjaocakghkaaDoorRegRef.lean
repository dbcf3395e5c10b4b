/-
  The document's sweep, and that the program's is the same.
-/
import Derived.Test.YtnbfjaocakghkaaDoorReg6
namespace Go.Proofs.YtnbfjaocakghkaaDoor
open Go.RowKit

/-- Register i is swept when the first k are looked at. -/
def hitB (R : Nat → C3) (g : Nat → Bool) (i : Nat) : Bool := decide (1 ≤ i) && (R i).1 && g (basN (R i))
def rsR (R : Nat → C3) (g : Nat → Bool) (k : Nat) : Nat → C3 := fun i => if (decide (i < k) && hitB R g i) = true then (false, (R i).2.1, (R i).2.2) else R i
def rsC (R : Nat → C3) (g : Nat → Bool) : Nat → Nat
  | 0 => 0
  | k + 1 => rsC R g k + (if hitB R g k = true then 1 else 0)
theorem rsC_le (R : Nat → C3) (g : Nat → Bool) : ∀ k, rsC R g k ≤ k
  | 0 => Nat.le_refl _
  | k + 1 => by
    have := rsC_le R g k
    rw [rsC]
    split <;> omega
theorem rsR_self (R : Nat → C3) (g : Nat → Bool) (k : Nat) : rsR R g k k = R k := by unfold rsR; simp
theorem rsR_one (R : Nat → C3) (g : Nat → Bool) : rsR R g 1 = R := funext fun i => by
  unfold rsR hitB
  by_cases h : i < 1
  · obtain rfl : i = 0 := by omega
    simp
  · simp [h]
theorem rsC_one (R : Nat → C3) (g : Nat → Bool) : rsC R g 1 = 0 := by simp [rsC, hitB]
theorem rsR_hit (R : Nat → C3) (g : Nat → Bool) (k : Nat) (h : hitB R g k = true) : rsR R g (k + 1) = updC (rsR R g k) k (false, (R k).2.1, (R k).2.2) := funext fun i => by
  unfold rsR updC
  by_cases e : i = k
  · subst e
    simp [h]
  · rw [if_neg e, show decide (i < k + 1) = decide (i < k) from decide_eq_decide.mpr (by omega)]
theorem rsR_miss (R : Nat → C3) (g : Nat → Bool) (k : Nat) (h : hitB R g k = false) : rsR R g (k + 1) = rsR R g k := funext fun i => by
  unfold rsR
  by_cases e : i = k
  · subst e
    simp [h]
  · rw [show decide (i < k + 1) = decide (i < k) from decide_eq_decide.mpr (by omega)]
theorem any_tag (R : Nat → C3) (i : Nat) : ∀ k, k ≤ 33 → (tagU R k).any (fun x => x.1 == i) = (decide (1 ≤ i) && decide (i < k) && (R i).1)
  | 0, _ => by simp [tagU]
  | k + 1, hk => by
    have ih := any_tag R i k (by omega)
    rw [tagU, List.any_append, ih]
    by_cases h : (1 ≤ k ∧ k ≤ 32) ∧ (R k).1 = true
    · rw [dif_pos h]
      by_cases e : i = k
      · subst e
        simp [h.1.1, h.2]
      · have e1 : decide (i < k + 1) = decide (i < k) := decide_eq_decide.mpr (by omega)
        have e2 : (k == i) = false := by simp; omega
        simp [e1, e2]
    · rw [dif_neg h]
      by_cases e : i = k
      · subst e
        by_cases h1 : 1 ≤ i
        · have : (R i).1 = false := by
            cases hh : (R i).1
            · rfl
            · exact absurd ⟨⟨h1, by omega⟩, hh⟩ h
          simp [this]
        · simp [h1]
      · have e1 : decide (i < k + 1) = decide (i < k) := decide_eq_decide.mpr (by omega)
        simp [e1]
theorem swC_tag (R : Nat → C3) (g : Nat → Bool) : ∀ k, k ≤ 33 → swC R g (tagU R k) = rsC R g k
  | 0, _ => rfl
  | k + 1, hk => by
    have ih := swC_tag R g k (by omega)
    rw [rsC]
    by_cases h : (1 ≤ k ∧ k ≤ 32) ∧ (R k).1 = true
    · rw [tagU_hit R k h.1 h.2, swC_app, ih]
      have e1 : decide (1 ≤ k) = true := decide_eq_true h.1.1
      have e2 := h.2
      unfold hitB
      simp only [e1, e2, Bool.true_and]
    · rw [tagU_miss R k h, ih]
      have : hitB R g k = false := by
        unfold hitB
        by_cases h1 : 1 ≤ k
        · have : (R k).1 = false := by
            cases hh : (R k).1
            · rfl
            · exact absurd ⟨⟨h1, by omega⟩, hh⟩ h
          simp [this]
        · simp [h1]
      simp [this]
theorem swept_rs (R : Nat → C3) (g : Nat → Bool) : sweptR R g = rsR R g 33 := funext fun i => by
  unfold sweptR swR rsR hitB
  rw [any_tag R i 33 (by omega)]
  cases (R i).1 <;> cases g (basN (R i)) <;> by_cases h1 : 1 ≤ i <;> by_cases h2 : i < 33 <;> simp [h1, h2]
theorem swept_rc (R : Nat → C3) (g : Nat → Bool) : sweptC R g = rsC R g 33 := swC_tag R g 33 (by omega)
theorem ctx_clear {W : World} {b i : Nat} {R : Nat → C3} (h : Ctx W b R) (hi : i < 33) : Ctx (W.setCell ⟨b, i * 3, none⟩ (.bool false)) b (updC R i (false, (R i).2.1, (R i).2.2)) := by
  refine ⟨fun j hj k v hv => ?_, o_set h.own⟩
  have hk : k < 3 := (List.getElem?_eq_some_iff.1 hv).1
  refine set_at h.own (by omega) ?_
  unfold updC at hv
  by_cases e : j = i
  · subst e
    rw [if_pos rfl] at hv
    match k, hk, hv with
    | 0, _, hv =>
      rw [if_pos (by omega)]
      simpa [capL] using hv
    | 1, _, hv =>
      rw [if_neg (by omega)]
      exact h.at_ j hj 1 v hv
    | 2, _, hv =>
      rw [if_neg (by omega)]
      exact h.at_ j hj 2 v hv
  · rw [if_neg e] at hv
    rw [if_neg (by omega)]
    exact h.at_ j hj k v hv
set_option maxRecDepth 100000 in
theorem field_base (x y : Int) (W : World) : (Instr.field 58 (.agg #[.int .u64 x, .int .u64 y]) 0).run Tryd.prog W = .ok (.int .u64 x) W := by kernel_rfl
/-- From F on, below G. -/
def betw (F G : Nat) (b : Nat) : Bool := decide (F ≤ b) && decide (b < G)

set_option maxRecDepth 100000 in
set_option maxHeartbeats 2000000 in
theorem rswept_all (R : Nat → C3) (F G : Nat) (w : World) : Calls Tryd.prog 9 #[.agg (ctxA R), .int .u64 (F : Int), .int .u64 (G : Int)] w (Makes (.tuple #[.agg (ctxA (rsR R (betw F G) 33)), .int .i64 ((rsC R (betw F G) 33 : Nat) : Int)]) w) := by
  obtain ⟨Z, hz, hZe⟩ := ctx_zero ctx_d
  have hZs := ctxA_size (fun _ => zC)
  rw [← hZe] at hZs
  clear hZe
  generalize hcs : ctxA R = cs
  have HC := hide hcs
  clear hcs
  have hfld := field_base
  go_enter Tryd.func9, Tryd.ntmps9
  go_wp2
  go_loopw [8, 9] (fun n i wr => ∃ k : Nat, 1 ≤ k ∧ k ≤ 32 ∧ i = .int .i64 (k : Int) ∧ n = .int .i64 ((rsC R (betw F G) k : Nat) : Int) ∧ Ctx wr w.heap.size (rsR R (betw F G) k) ∧ Own wr (w.heap.size + 1) 99 ∧ Below w.heap.size w wr) (fun _ i _ => 32 - (intOf i).toNat)
  case atStart =>
    refine ⟨1, by omega, by omega, rfl, by rw [rsC_one]; rfl, ?_, ?_, ?_⟩
    · rw [rsR_one]
      repeat (first | with_reducible assumption | with_reducible refine Ctx.dr ?_ _ | with_reducible refine Ctx.d1 ?_ | with_reducible exact ctx_newE HC.out rfl | (with_reducible refine ctx_newE HC.out ?_; focus (simp [*]; done)) | with_reducible refine Ctx.al ?_ _ | (with_reducible refine x_set ?_ ?_; focus (dsimp only; omega)) | (with_reducible refine x_sc ?_ ?_; focus omega) | (with_reducible refine x_be (by with_reducible assumption) ?_))
    · repeat (first | with_reducible assumption | with_reducible exact Ctx.own (by with_reducible assumption) | with_reducible refine o_dr _ ?_ | with_reducible refine o_d1 ?_ | with_reducible refine o_set ?_ | with_reducible refine o_sc ?_ | (with_reducible refine o_new ?_ ?_; (focus (first | (simp [*]; done) | (simp [*]; omega))); (focus (first | omega | (simp; done)))) | with_reducible refine o_al _ ?_ | (with_reducible apply o_be; with_reducible assumption))
    · repeat (first | with_reducible assumption | with_reducible exact Below.refl _ _ | with_reducible refine Below.drew ?_ | with_reducible refine below_drewN ?_ _ | with_reducible refine bw_alloc ?_ _ | (with_reducible refine bw_set ?_ ?_ _; focus (dsimp only; omega)) | (with_reducible apply bw_behind; with_reducible assumption) | (with_reducible refine bw_sc _ ?_ ?_; focus omega))
  case round =>
    obtain ⟨k, hk1, hk, rfl, rfl, hX, hO, hB⟩ := hrel
    have hle := rsC_le R (betw F G) k
    have c0 := hX.c0 (i := k) (by omega)
    have c1 := hX.c1 (i := k) (by omega)
    have c2 := hX.c2 (i := k) (by omega)
    rw [rsR_self] at c0 c1 c2
    have hclr := fun W h => ctx_clear (W := W) (b := w.heap.size) (i := k) (R := rsR R (betw F G) k) h (by omega)
    rw [rsR_self] at hclr
    have hH := rsR_hit R (betw F G) k
    have hM := rsR_miss R (betw F G) k
    have hCS : rsC R (betw F G) (k + 1) = rsC R (betw F G) k + (if hitB R (betw F G) k = true then 1 else 0) := rfl
    have hbit : hitB R (betw F G) k = ((R k).1 && (decide (F ≤ basN (R k)) && decide (basN (R k) < G))) := by unfold hitB betw; rw [decide_eq_true hk1, Bool.true_and]
    rw [hbit] at hH hM hCS
    have C1 := hide (fun W => rspan_all (R k) W)
    clear hbit
    obtain ⟨⟨t, m, a⟩, hc⟩ : ∃ c, R k = c := ⟨_, rfl⟩
    rw [hc] at c0 c1 c2 hclr hH hM hCS C1
    unfold capV at C1
    dsimp only at c0 c1 c2 hclr hH hM hCS C1
    generalize hRN : rsR R (betw F G) (k + 1) = RN at *
    generalize rsR R (betw F G) k = RK at *
    generalize hCN : rsC R (betw F G) (k + 1) = CN at *
    generalize rsC R (betw F G) k = CK at *
    generalize basN (t, m, a) = B at *
    generalize lT m a = TT at *
    have HRN := hide hRN
    have HCN := hide hCN
    clear hRN hCN
    by_cases hlt : k < 32
    · have e1 : (k : Int) < 32 := by omega
      have e2 : (0 : Int) ≤ (k : Int) := by omega
      rw [Nat.mul_comm] at c0 c1 c2
      have hwr : IntKind.i64.wrap ((CK : Int) + 1) = ((CK + 1 : Nat) : Int) := by rw [IntKind.wrap_i64]; omega
      cases t with
      | false =>
        obtain rfl := hM rfl
        obtain rfl : CN = CK := by rw [hCS]; rfl
        clear hH hM hCS hclr
        go_wp2_with (first | (go_at_call 29; (with_reducible refine (C1.out _).mono ?_); rintro e w1 ⟨rfl, hb1⟩; have d0 := c_be hb1 c0; have hX1 := hX.be hb1; have f0 := hX1.own.free (k * 3) (by omega)))
        go_roundw
        case rel => exact ⟨k + 1, by omega, by omega, by go_num, by rw [HCN.out], by rw [HRN.out]; exact hX1, o_be hb1 hO, hB.trans (hb1.mono hB.size)⟩
        case measure => simp [intOf]; omega
      | true =>
        by_cases h1 : F ≤ B
        · have g1 : (F : Int) ≤ (B : Int) := by omega
          by_cases h2 : B < G
          · have g2 : (B : Int) < (G : Int) := by omega
            obtain rfl := hH (by simp [h1, h2])
            obtain rfl : CN = CK + 1 := by rw [hCS]; simp [h1, h2]
            have HCL := hide hclr
            clear hH hM hCS hclr
            go_wp2_with (first | (go_at_call 29; (with_reducible refine (C1.out _).mono ?_); rintro e w1 ⟨rfl, hb1⟩; have d0 := c_be hb1 c0; have hX1 := hX.be hb1; have f0 := hX1.own.free (k * 3) (by omega)))
            go_roundw
            case rel => exact ⟨k + 1, by omega, by omega, by go_num, by rw [HCN.out]; exact congrArg _ (by omega), by rw [HRN.out]; exact HCL.out _ hX1, o_set (o_be hb1 hO), (hB.trans (hb1.mono hB.size)).setCell (p := ⟨w.heap.size, k * 3, none⟩) (Nat.le_refl _) _⟩
            case measure => simp [intOf]; omega
          · have g2 : ¬ (B : Int) < (G : Int) := by omega
            obtain rfl := hM (by simp [h2])
            obtain rfl : CN = CK := by rw [hCS]; simp [h2]
            clear hH hM hCS hclr
            go_wp2_with (first | (go_at_call 29; (with_reducible refine (C1.out _).mono ?_); rintro e w1 ⟨rfl, hb1⟩; have d0 := c_be hb1 c0; have hX1 := hX.be hb1; have f0 := hX1.own.free (k * 3) (by omega)))
            go_roundw
            case rel => exact ⟨k + 1, by omega, by omega, by go_num, by rw [HCN.out], by rw [HRN.out]; exact hX1, o_be hb1 hO, hB.trans (hb1.mono hB.size)⟩
            case measure => simp [intOf]; omega
        · have g1 : ¬ (F : Int) ≤ (B : Int) := by omega
          obtain rfl := hM (by simp [h1])
          obtain rfl : CN = CK := by rw [hCS]; simp [h1]
          clear hH hM hCS hclr
          go_wp2_with (first | (go_at_call 29; (with_reducible refine (C1.out _).mono ?_); rintro e w1 ⟨rfl, hb1⟩; have d0 := c_be hb1 c0; have hX1 := hX.be hb1; have f0 := hX1.own.free (k * 3) (by omega)))
          go_roundw
          case rel => exact ⟨k + 1, by omega, by omega, by go_num, by rw [HCN.out], by rw [HRN.out]; exact hX1, o_be hb1 hO, hB.trans (hb1.mono hB.size)⟩
          case measure => simp [intOf]; omega
    · obtain rfl : k = 32 := by omega
      have hwr : IntKind.i64.wrap ((CK : Int) + 1) = ((CK + 1 : Nat) : Int) := by rw [IntKind.wrap_i64]; omega
      rw [show 3 * 32 = 96 from rfl] at c0 c1 c2
      have HH := hide hH
      have HM := hide hM
      have HCS := hide hCS
      have HCL := hide hclr
      clear hH hM hCS hclr
      cases t with
      | false =>
        obtain rfl := HM.out rfl
        obtain rfl : CN = CK := by rw [HCS.out]; rfl
        go_wp2_with (first | (go_at_call 29; (with_reducible refine (C1.out _).mono ?_); rintro e w1 ⟨rfl, hb1⟩; have d0 := c_be hb1 c0; have hX1 := hX.be hb1; have f0 := hX1.own.free (96) (by omega)) | ((refine wpList_load_ctx rfl ctx_d rfl rfl hX1 ?_)) | ((refine wpList_store_ctx rfl ctx_d rfl rfl rfl (o_be hb1 hO) ?_)))
        refine bodyPost_ret (results_ctx2 rfl ctx_d rfl (ctx_store (o_be hb1 hO) _)) rfl ⟨?_, ?_⟩
        · rw [HRN.out, HCN.out]; rfl
        · exact (hB.trans (hb1.mono hB.size)).trans (be_sc _ (by omega))
      | true =>
        by_cases h1 : F ≤ B
        · have g1 : (F : Int) ≤ (B : Int) := by omega
          by_cases h2 : B < G
          · have g2 : (B : Int) < (G : Int) := by omega
            obtain rfl := HH.out (by simp [h1, h2])
            obtain rfl : CN = CK + 1 := by rw [HCS.out]; simp [h1, h2]
            go_wp2_with (first | (go_at_call 29; (with_reducible refine (C1.out _).mono ?_); rintro e w1 ⟨rfl, hb1⟩; have d0 := c_be hb1 c0; have hX1 := hX.be hb1; have f0 := hX1.own.free (96) (by omega)) | ((refine wpList_load_ctx rfl ctx_d rfl rfl (HCL.out _ hX1) ?_)) | ((refine wpList_store_ctx rfl ctx_d rfl rfl rfl (o_set (o_be hb1 hO)) ?_)))
            refine bodyPost_ret (results_ctx2 rfl ctx_d rfl (ctx_store (o_set (o_be hb1 hO)) _)) rfl ⟨?_, ?_⟩
            · rw [HRN.out, HCN.out, show ((CK + 1 : Nat) : Int) = (CK : Int) + 1 by omega]
              rfl
            · exact ((hB.trans (hb1.mono hB.size)).setCell (p := ⟨w.heap.size, 32 * 3, none⟩) (Nat.le_refl _) _).trans (be_sc _ (by omega))
          · have g2 : ¬ (B : Int) < (G : Int) := by omega
            obtain rfl := HM.out (by simp [h2])
            obtain rfl : CN = CK := by rw [HCS.out]; simp [h2]
            go_wp2_with (first | (go_at_call 29; (with_reducible refine (C1.out _).mono ?_); rintro e w1 ⟨rfl, hb1⟩; have d0 := c_be hb1 c0; have hX1 := hX.be hb1; have f0 := hX1.own.free (96) (by omega)) | ((refine wpList_load_ctx rfl ctx_d rfl rfl hX1 ?_)) | ((refine wpList_store_ctx rfl ctx_d rfl rfl rfl (o_be hb1 hO) ?_)))
            refine bodyPost_ret (results_ctx2 rfl ctx_d rfl (ctx_store (o_be hb1 hO) _)) rfl ⟨?_, ?_⟩
            · rw [HRN.out, HCN.out]; rfl
            · exact (hB.trans (hb1.mono hB.size)).trans (be_sc _ (by omega))
        · have g1 : ¬ (F : Int) ≤ (B : Int) := by omega
          obtain rfl := HM.out (by simp [h1])
          obtain rfl : CN = CK := by rw [HCS.out]; simp [h1]
          go_wp2_with (first | (go_at_call 29; (with_reducible refine (C1.out _).mono ?_); rintro e w1 ⟨rfl, hb1⟩; have d0 := c_be hb1 c0; have hX1 := hX.be hb1; have f0 := hX1.own.free (96) (by omega)) | ((refine wpList_load_ctx rfl ctx_d rfl rfl hX1 ?_)) | ((refine wpList_store_ctx rfl ctx_d rfl rfl rfl (o_be hb1 hO) ?_)))
          refine bodyPost_ret (results_ctx2 rfl ctx_d rfl (ctx_store (o_be hb1 hO) _)) rfl ⟨?_, ?_⟩
          · rw [HRN.out, HCN.out]; rfl
          · exact (hB.trans (hb1.mono hB.size)).trans (be_sc _ (by omega))

end Go.Proofs.YtnbfjaocakghkaaDoor
