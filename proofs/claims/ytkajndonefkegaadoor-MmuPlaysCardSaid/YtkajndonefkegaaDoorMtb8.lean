/-
  What Put turns.
-/
import Derived.Test.YtkajndonefkegaaDoorGMtbD
import Derived.Test.YtkajndonefkegaaDoorGMtbC
import Derived.Deep.RegionHeld3
import Derived.Deep.DeepCutAuto
set_option maxRecDepth 100000
set_option maxHeartbeats 64000000
namespace Go.Proofs.YtkajndonefkegaaDoor
open Go.RowKit

def addM {α : Type} (D : Nat -> List (LnX α)) (q : Nat) (l : LnX α) : Nat -> List (LnX α) := fun r => if r = q then D q ++ [l] else D r
theorem tm_add {W : World} {N q m : Nat} {D : Nat -> List Ln} {R : Nat -> Ln} (l : Ln) (hq : q < 4) (hm : (D q).length = m) (hm1 : m ≤ 1) (hP : ∀ q, q < 4 -> (D q).length ≤ 2 /\ ∀ j l, (D q)[j]? = some l -> R (2 * q + j) = l)
    (hT : TlbAt W N (updL R (2 * q + m) l) (updL (fun r => (D r).length) q (m + 1))) : TlbM W N (addM D q l) := by
  refine ⟨_, ⟨hT.line, fun r hr => ?_, hT.there⟩, fun r hr => ?_⟩
  · have := hT.fill r hr
    unfold updL at this
    show W.cell? ⟨N, 128 + r, none⟩ = some (Value.int .i64 ((addM D q l r).length : Int))
    unfold addM
    by_cases e : r = q
    · subst e
      rw [if_pos rfl] at this ⊢
      rw [this, List.length_append, hm]
      rfl
    · rw [if_neg e] at this ⊢
      exact this
  · unfold addM
    by_cases e : r = q
    · subst e
      rw [if_pos rfl]
      refine ⟨by rw [List.length_append, hm]; simp; omega, fun j x hx => ?_⟩
      unfold updL
      rcases Nat.lt_or_ge j m with h | h
      · rw [List.getElem?_append_left (by omega)] at hx
        rw [if_neg (by omega)]
        exact (hP r hr).2 j x hx
      · rw [List.getElem?_append_right (by omega), hm] at hx
        have hj : j - m < [l].length := (List.getElem?_eq_some_iff.1 hx).1
        have hj2 : j = m := by simp at hj; omega
        subst hj2
        rw [if_pos rfl]
        simpa using hx
    · rw [if_neg e]
      refine ⟨(hP r hr).1, fun j x hx => ?_⟩
      have hj : j < (D r).length := (List.getElem?_eq_some_iff.1 hx).1
      have := (hP r hr).1
      unfold updL
      rw [if_neg (by omega)]
      exact (hP r hr).2 j x hx
theorem take_dst {P : Program} {ops : Array Oper} {Q : Exit -> Act -> World -> Prop} {md : Region.Mode} {S : World -> Prop} (i d : Nat) (v : Value) {oi : Oper} {fuel : Nat} {listed : Array Bool} {tm : Array Value} {df : List Deferred} {w : World} (hi : ops[i]? = some oi) (hd : oi.dst = some d)
    (hs : Region.noSelect ops = true) (hf : Region.free md ops listed i = true) (hr : (Region.ready md ops listed).contains i = true)
    (hQ : ∀ c a w, Q (.panic c) (a.put oi.dst v) w -> Q (.panic c) a w) (hy : YieldsIf P ops S oi v ⟨tm, df⟩) (hS : S w)
    (h : wpAnyH P md ops Q S fuel (listed.setIfInBounds i true) ⟨tm.setIfInBounds d v, df⟩ w) : wpAnyH P md ops Q S (fuel + 1) listed ⟨tm, df⟩ w := by
  refine wpAnyH_take hi hs hf hr hQ hy hS ?_
  rw [hd]
  exact h
theorem step_store_line {P : Program} {ops : Array Oper} {o : Oper} {a : Act} {w : World} {K : Act -> World -> Prop} {Q : Exit -> Act -> World -> Prop} {E : Prop} (hgd : o.guard = none) (ty : TypeId) (x y : Operand) (ho : o.op = .store ty x y) (hd : o.dst = none)
    (N i : Nat) (A B : Int) (X : Fd) (hx : a.eval x = .pointer (some ⟨N, i, none⟩)) (hy : a.eval y = .agg #[.int .u64 A, .int .u64 B, .bool X.e0, .bool X.e1, .bool X.e2, .bool X.e3, .bool X.e4, .bool X.e5, .bool X.e6, .bool X.e7, .bool X.e8, .bool X.e9, .bool X.e10, .bool X.e11, .int .u64 X.f, .int .u64 X.a]) (hi : (P.info? ty).map (·.size) = some 16) (ht : w.there N i 16) (h : K a (w.setCells N i (lineI A B X))) :
    if Region.wanted o (yielded ops a.tmps) = true then Oper.wp P o a w K Q else E := by
  have hw : Region.wanted o (yielded ops a.tmps) = true := by simp [Region.wanted, hgd]
  rw [if_pos hw]
  refine wp_store_mid ty x y ho N i _ hx hy ht hi (by simp [Value.oneCell']) ?_
  rw [hd]
  exact h
theorem rg_new {W : World} {A B : Int} {X : Fd} {t : TypeId} {b : Nat} (hb : b = W.heap.size) : (W.alloc (.cells (lineI A B X).toArray t)).rangeAt b 0 (lineI A B X) := fun j v hv => by
  subst hb
  rw [Nat.zero_add]
  simp [go_sem]
  simpa using hv
theorem put_fill {W : World} {N q m : Nat} {R : Nat -> Ln} {D : Nat -> List Ln} (h : TlbAt W N R (fun r => (D r).length)) (hq : q < 4) (hm : (D q).length = m) : W.cell? ⟨N, 128 + q, none⟩ = some (.int .i64 (m : Int)) := by
  have := h.fill q hq
  rw [hm] at this
  exact this
theorem put_first {W : World} {N q : Nat} {R : Nat -> Ln} {D : Nat -> List Ln} {A B : Int} {X : Fd} {l : Ln} (h : TlbAt W N R (fun r => (D r).length)) (hP : ∀ q, q < 4 -> (D q).length ≤ 2 /\ ∀ j l, (D q)[j]? = some l -> R (2 * q + j) = l) (hq : q < 4) (hD : D q = [(A, B, X), l]) : W.rangeAt N (q * 32) (lineI A B X) := by
  have h1 := h.line (2 * q) (by omega)
  have h2 := (hP q hq).2 0 (A, B, X) (by rw [hD]; rfl)
  rw [Nat.add_zero] at h2
  rw [h2, show 16 * (2 * q) = q * 32 by omega] at h1
  exact h1
theorem put_keep1 {W : World} {N q m : Nat} {L : List Value} {v : Value} (h : W.cell? ⟨N, 128 + q, none⟩ = some v) (hl : L.length = 16) (hq : q < 4) (hm : m ≤ 1) : (W.drew.setCells N (q * 32 + m * 16) L).cell? ⟨N, 128 + q, none⟩ = some v := by
  rw [World.cell?_setCells_out N _ _ _ _ (fun _ _ => by rw [hl]; show 128 + q < _ ∨ _ ≤ 128 + q; omega)]
  exact h
attribute [local irreducible] World.setCells in
theorem put_A (N q m : Nat) (a n : Int) (x : Fd) (M D  : Nat -> List Ln) (hq : q < 4) (_hm1 : m ≤ 1) (hm : (D q).length = m) (H1 : ∀ W : World, TlbM W N M -> Calls Tryd.prog 15 #[.pointer (some ⟨N, 0, none⟩), .int .u64 a, .int .u64 n] W (fun e W' => e = .returned (.tuple #[]) /\ TlbM W' N D /\ Out1 N W W')) (HS : ∀ W : World, Calls Tryd.prog 60 #[.int .u64 n] W (Quiet (.int .u64 (q : Int)) W)) (w : World) (hM : TlbM w N M) :
    Calls Tryd.prog 61 #[.pointer (some ⟨N, 0, none⟩), .agg #[.int .u64 a, .int .u64 n, .bool x.e0, .bool x.e1, .bool x.e2, .bool x.e3, .bool x.e4, .bool x.e5, .bool x.e6, .bool x.e7, .bool x.e8, .bool x.e9, .bool x.e10, .bool x.e11, .int .u64 x.f, .int .u64 x.a]] w (fun e w' => e = .returned (.tuple #[]) /\ TlbM w' N (addM D q (a, n, x)) /\ Out1 N w w') := by
  obtain ⟨SS, LB', LS, LA', LH⟩ := rules5
  have hN : N < w.heap.size := hM.here
  have C1 := hide H1
  have CS := hide HS
  have HM := hide hM
  have HQ := hide hm
  clear H1 HS hM hm
  have h1 : ¬ ((4 : Int) ≤ (q : Int)) := by omega
  have h2 : (q : Int) < 4 := by omega
  have h3 : (0 : Int) ≤ (q : Int) := by omega
  have h4 : ((m : Int) == 2) = false := by simp; omega
  have h6 : ¬ ((2 : Int) ≤ (m : Int)) := by omega
  have h7 : (m : Int) < 2 := by omega
  have h8 : (0 : Int) ≤ (m : Int) := by omega
  go_enter Tryd.func61, Tryd.ntmps61
  go_upto_region 7 with (first | (go_at_call 60; (with_reducible refine (CS.out _).mono ?_); rintro e w' ⟨rfl, n1, rfl⟩) | (go_at_call 15; (with_reducible refine (C1.out _ ?_).mono ?_); (focus (have hM := HM.out; repeat (with_reducible first | assumption | refine tm_dr _ ?_ | refine tm_d1 ?_ | refine tm_al _ ?_ | (refine tm_set ?_ ?_; focus (dsimp only; omega)) | (apply tm_be; assumption) | (refine tm_bn (by assumption) ?_ ?_; focus omega) | (refine tm_out (by assumption) ?_ ?_; focus omega)))); rintro e wd ⟨rfl, hTd, hUd⟩; have y1 : wd.cell? ⟨w.heap.size, 1, none⟩ = some (.int .u64 n) := hUd.reads (by dsimp only; omega) (by simp [go_sem]); have yr : wd.rangeAt w.heap.size 0 (lineI a n x) := rg_out hUd (by omega) (rg_new rfl); have hsd : w.heap.size + 1 ≤ wd.heap.size := (by simpa using hUd.size); have hTd2 := hide hTd; obtain ⟨R1, hA1, hP1⟩ := hTd; have hf1 : wd.cell? ⟨N, 128 + q, none⟩ = some (.int .i64 (m : Int)) := put_fill hA1 hq (by rw [HQ.out]); clear hA1 hP1))
  refine wp_abs (fun W => TlbM W N D /\ Out1 N w W /\ W.rangeAt w.heap.size 0 (lineI a n x)) ?_ ?_
  · have hTd2 := hTd2.out
    refine ⟨?_, ?_, ?_⟩
    · repeat (with_reducible first | assumption | refine tm_dr _ ?_ | refine tm_d1 ?_ | refine tm_al _ ?_ | (refine tm_set ?_ ?_; focus (dsimp only; omega)) | (apply tm_be; assumption) | (refine tm_bn (by assumption) ?_ ?_; focus omega) | (refine tm_out (by assumption) ?_ ?_; focus omega))
    · repeat (with_reducible first | assumption | exact Out1.refl _ _ | refine u_dr _ ?_ | refine u_d1 ?_ | refine u_al _ ?_ | (refine u_in _ ?_ ?_; focus omega) | (refine u_new _ ?_ ?_; focus (dsimp only; omega)) | (refine Out1.trans ?_ (by assumption)) | (apply u_bh; assumption) | (refine u_be (by assumption) ?_ ?_; focus omega))
    · repeat (with_reducible first | assumption | refine rg_dr _ ?_ | refine rg_d1 ?_ | refine rg_al _ ?_ | (refine rg_set ?_ ?_; focus (dsimp only; omega)) | (apply rg_be; assumption) | (refine rg_bn (by assumption) ?_ ?_; focus omega) | (refine rg_out (by assumption) ?_ ?_; focus omega))
  rintro w0 ⟨⟨R, hA, hP⟩, hU, hr⟩
  have hf : w0.cell? ⟨N, 128 + q, none⟩ = some (.int .i64 (m : Int)) := by
    have := hA.fill q hq
    rw [HQ.out] at this
    exact this
  have ht : w0.there N (q * 32 + m * 16) 16 := hA.part _ _ (by omega)
  have hrow := row_rg hr
  have b0 : w0.cell? ⟨w.heap.size, 0, none⟩ = some (.int .u64 a) := hrow 0 _ rfl
  have b1 : w0.cell? ⟨w.heap.size, 1, none⟩ = some (.int .u64 n) := hrow 1 _ rfl
  have b2 : w0.cell? ⟨w.heap.size, 2, none⟩ = some (.bool x.e0) := hrow 2 _ rfl
  have b3 : w0.cell? ⟨w.heap.size, 3, none⟩ = some (.bool x.e1) := hrow 3 _ rfl
  have b4 : w0.cell? ⟨w.heap.size, 4, none⟩ = some (.bool x.e2) := hrow 4 _ rfl
  have b5 : w0.cell? ⟨w.heap.size, 5, none⟩ = some (.bool x.e3) := hrow 5 _ rfl
  have b6 : w0.cell? ⟨w.heap.size, 6, none⟩ = some (.bool x.e4) := hrow 6 _ rfl
  have b7 : w0.cell? ⟨w.heap.size, 7, none⟩ = some (.bool x.e5) := hrow 7 _ rfl
  have b8 : w0.cell? ⟨w.heap.size, 8, none⟩ = some (.bool x.e6) := hrow 8 _ rfl
  have b9 : w0.cell? ⟨w.heap.size, 9, none⟩ = some (.bool x.e7) := hrow 9 _ rfl
  have b10 : w0.cell? ⟨w.heap.size, 10, none⟩ = some (.bool x.e8) := hrow 10 _ rfl
  have b11 : w0.cell? ⟨w.heap.size, 11, none⟩ = some (.bool x.e9) := hrow 11 _ rfl
  have b12 : w0.cell? ⟨w.heap.size, 12, none⟩ = some (.bool x.e10) := hrow 12 _ rfl
  have b13 : w0.cell? ⟨w.heap.size, 13, none⟩ = some (.bool x.e11) := hrow 13 _ rfl
  have b14 : w0.cell? ⟨w.heap.size, 14, none⟩ = some (.int .u64 x.f) := hrow 14 _ rfl
  have b15 : w0.cell? ⟨w.heap.size, 15, none⟩ = some (.int .u64 x.a) := hrow 15 _ rfl
  clear hrow hr
  have HA := hide hA
  have HP := hide hP
  clear hA hP
  refine wp_region_held_drew (S := fun w' => w'.cell? ⟨N, 128 + q, none⟩ = some (.int .i64 (m : Int)) /\ w'.cell? ⟨w.heap.size, 0, none⟩ = some (.int .u64 a) /\ w'.cell? ⟨w.heap.size, 1, none⟩ = some (.int .u64 n) /\ w'.cell? ⟨w.heap.size, 2, none⟩ = some (.bool x.e0) /\ w'.cell? ⟨w.heap.size, 3, none⟩ = some (.bool x.e1) /\ w'.cell? ⟨w.heap.size, 4, none⟩ = some (.bool x.e2) /\ w'.cell? ⟨w.heap.size, 5, none⟩ = some (.bool x.e3) /\ w'.cell? ⟨w.heap.size, 6, none⟩ = some (.bool x.e4) /\ w'.cell? ⟨w.heap.size, 7, none⟩ = some (.bool x.e5) /\ w'.cell? ⟨w.heap.size, 8, none⟩ = some (.bool x.e6) /\ w'.cell? ⟨w.heap.size, 9, none⟩ = some (.bool x.e7) /\ w'.cell? ⟨w.heap.size, 10, none⟩ = some (.bool x.e8) /\ w'.cell? ⟨w.heap.size, 11, none⟩ = some (.bool x.e9) /\ w'.cell? ⟨w.heap.size, 12, none⟩ = some (.bool x.e10) /\ w'.cell? ⟨w.heap.size, 13, none⟩ = some (.bool x.e11) /\ w'.cell? ⟨w.heap.size, 14, none⟩ = some (.int .u64 x.f) /\ w'.cell? ⟨w.heap.size, 15, none⟩ = some (.int .u64 x.a)) (by kernel_rfl) ?_ (fun hHeld => ?_)
  · exact ⟨hf, b0, b1, b2, b3, b4, b5, b6, b7, b8, b9, b10, b11, b12, b13, b14, b15⟩
  refine take_dst 0 37 (.pointer (some ⟨N, 0, none⟩)) rfl rfl (by kernel_rfl) (by kernel_rfl) (by kernel_rfl) (fun _ _ _ h => h) (Or.inl ⟨by rfl, ?_⟩) hHeld ?_
  · intro w1 hSw
    go_simp
  simp only [List.setIfInBounds_toArray, List.set_cons_zero, List.set_cons_succ]
  refine take_dst 1 38 (.int .u64 (q : Int)) rfl rfl (by kernel_rfl) (by kernel_rfl) (by kernel_rfl) (fun _ _ _ h => h) (Or.inl ⟨by rfl, ?_⟩) hHeld ?_
  · intro w1 hSw
    go_simp
  simp only [List.setIfInBounds_toArray, List.set_cons_zero, List.set_cons_succ]
  refine take_dst 2 39 (.pointer (some ⟨N, 0, none⟩)) rfl rfl (by kernel_rfl) (by kernel_rfl) (by kernel_rfl) (fun _ _ _ h => h) (Or.inl ⟨by rfl, ?_⟩) hHeld ?_
  · intro w1 hSw
    go_simp
  simp only [List.setIfInBounds_toArray, List.set_cons_zero, List.set_cons_succ]
  refine take_dst 3 40 (.int .u64 (q : Int)) rfl rfl (by kernel_rfl) (by kernel_rfl) (by kernel_rfl) (fun _ _ _ h => h) (Or.inl ⟨by rfl, ?_⟩) hHeld ?_
  · intro w1 hSw
    go_simp
  simp only [List.setIfInBounds_toArray, List.set_cons_zero, List.set_cons_succ]
  refine take_dst 4 41 (.pointer (some ⟨N, 0, none⟩)) rfl rfl (by kernel_rfl) (by kernel_rfl) (by kernel_rfl) (fun _ _ _ h => h) (Or.inl ⟨by rfl, ?_⟩) hHeld ?_
  · intro w1 hSw
    go_simp
  simp only [List.setIfInBounds_toArray, List.set_cons_zero, List.set_cons_succ]
  refine take_dst 5 42 (.pointer (some ⟨N, 128, none⟩)) rfl rfl (by kernel_rfl) (by kernel_rfl) (by kernel_rfl) (fun _ _ _ h => h) (Or.inl ⟨by rfl, ?_⟩) hHeld ?_
  · intro w1 hSw
    go_simp
  simp only [List.setIfInBounds_toArray, List.set_cons_zero, List.set_cons_succ]
  refine take_dst 6 43 (.pointer (some ⟨N, 128 + q, none⟩)) rfl rfl (by kernel_rfl) (by kernel_rfl) (by kernel_rfl) (fun _ _ _ h => h) (Or.inl ⟨by rfl, ?_⟩) hHeld ?_
  · intro w1 hSw
    go_simp
  simp only [List.setIfInBounds_toArray, List.set_cons_zero, List.set_cons_succ]
  refine take_dst 7 44 (.int .i64 (m : Int)) rfl rfl (by kernel_rfl) (by kernel_rfl) (by kernel_rfl) (fun _ _ _ h => h) (Or.inl ⟨by rfl, ?_⟩) hHeld ?_
  · intro w1 hSw
    go_simp
  simp only [List.setIfInBounds_toArray, List.set_cons_zero, List.set_cons_succ]
  refine take_dst 8 45 (.agg #[.int .u64 a, .int .u64 n, .bool x.e0, .bool x.e1, .bool x.e2, .bool x.e3, .bool x.e4, .bool x.e5, .bool x.e6, .bool x.e7, .bool x.e8, .bool x.e9, .bool x.e10, .bool x.e11, .int .u64 x.f, .int .u64 x.a]) rfl rfl (by kernel_rfl) (by kernel_rfl) (by kernel_rfl) (fun _ _ _ h => h) (Or.inl ⟨by rfl, ?_⟩) hHeld ?_
  · intro w1 hSw
    go_simp
  simp only [List.setIfInBounds_toArray, List.set_cons_zero, List.set_cons_succ]
  refine take_dst 9 46 (.pointer (some ⟨N, 0, none⟩)) rfl rfl (by kernel_rfl) (by kernel_rfl) (by kernel_rfl) (fun _ _ _ h => h) (Or.inl ⟨by rfl, ?_⟩) hHeld ?_
  · intro w1 hSw
    go_simp
  simp only [List.setIfInBounds_toArray, List.set_cons_zero, List.set_cons_succ]
  refine take_dst 10 47 (.pointer (some ⟨N, 0, none⟩)) rfl rfl (by kernel_rfl) (by kernel_rfl) (by kernel_rfl) (fun _ _ _ h => h) (Or.inl ⟨by rfl, ?_⟩) hHeld ?_
  · intro w1 hSw
    go_simp
  simp only [List.setIfInBounds_toArray, List.set_cons_zero, List.set_cons_succ]
  refine take_dst 11 48 (.pointer (some ⟨N, q * 32, none⟩)) rfl rfl (by kernel_rfl) (by kernel_rfl) (by kernel_rfl) (fun _ _ _ h => h) (Or.inl ⟨by rfl, ?_⟩) hHeld ?_
  · intro w1 hSw
    go_simp
  simp only [List.setIfInBounds_toArray, List.set_cons_zero, List.set_cons_succ]
  refine take_dst 12 49 (.pointer (some ⟨N, q * 32 + m * 16, none⟩)) rfl rfl (by kernel_rfl) (by kernel_rfl) (by kernel_rfl) (fun _ _ _ h => h) (Or.inl ⟨by rfl, ?_⟩) hHeld ?_
  · intro w1 hSw
    go_simp
  simp only [List.setIfInBounds_toArray, List.set_cons_zero, List.set_cons_succ]
  refine wpAnyH_ready (rs := [13]) (by kernel_rfl) (by simp) ?_
  refine AllReadyH.cons rfl (fun K hK => ?_) AllReadyH.nil
  refine step_store_line rfl _ _ _ rfl rfl N (q * 32 + m * 16) a n x rfl rfl infoL ht ?_
  refine hK.out _ _ ?_ (fun hHeld => ?_)
  · exact ⟨put_keep1 hf rfl hq _hm1, c_sc (by dsimp only; omega) (c_d1 b0), c_sc (by dsimp only; omega) (c_d1 b1), c_sc (by dsimp only; omega) (c_d1 b2), c_sc (by dsimp only; omega) (c_d1 b3), c_sc (by dsimp only; omega) (c_d1 b4), c_sc (by dsimp only; omega) (c_d1 b5), c_sc (by dsimp only; omega) (c_d1 b6), c_sc (by dsimp only; omega) (c_d1 b7), c_sc (by dsimp only; omega) (c_d1 b8), c_sc (by dsimp only; omega) (c_d1 b9), c_sc (by dsimp only; omega) (c_d1 b10), c_sc (by dsimp only; omega) (c_d1 b11), c_sc (by dsimp only; omega) (c_d1 b12), c_sc (by dsimp only; omega) (c_d1 b13), c_sc (by dsimp only; omega) (c_d1 b14), c_sc (by dsimp only; omega) (c_d1 b15)⟩
  clear hK K hHeld
  refine wpAnyH_done (by kernel_rfl) ?_ _
  go_upto_region 8 with (first | fail)
  refine wp_abs (fun W => TlbAt W N (updL R (2 * q + m) (a, n, x)) (fun r => (D r).length) /\ Out1 N w W) ?_ ?_
  · have hA := HA.out
    refine ⟨?_, ?_⟩
    · exact ta_line (W := w0.drew) (a, n, x) (by omega) (by omega) (ta_d1 hA)
    · exact u_sc _ _ _ (by simp; omega) (u_d1 hU)
  rintro w8 ⟨hA8, hU8⟩
  have hf8 : w8.cell? ⟨N, 128 + q, none⟩ = some (.int .i64 (m : Int)) := by
    have := hA8.fill q hq
    rw [HQ.out] at this
    exact this
  have hz8 : w8.frozen? ⟨N, 128 + q, none⟩ = false := (hA8.part (128 + q) 1 (by omega) 0 (by omega)).2
  have hw8 : IntKind.i64.wrap ((m : Int) + 1) = ((m + 1 : Nat) : Int) := by rw [IntKind.wrap_i64]; omega
  have HA8 := hide hA8
  clear hA8
  go_region
  all_goals go_wp2_with fail
  refine bodyPost_end (v := .tuple #[]) (by simp (maxDischargeDepth := 4) [results, Tryd.results61, go_sem, *]) rfl ?_
  refine ⟨rfl, tm_add (m := m) (a, n, x) hq HQ.out (by omega) HP.out ?_, ?_⟩
  · exact ta_fill (m + 1) (by omega) hq rfl (ta_d1 HA8.out)
  · repeat (with_reducible first | assumption | exact Out1.refl _ _ | refine u_dr _ ?_ | refine u_d1 ?_ | refine u_al _ ?_ | (refine u_in _ ?_ ?_; focus omega) | (refine u_new _ ?_ ?_; focus (dsimp only; omega)) | (refine Out1.trans ?_ (by assumption)) | (apply u_bh; assumption) | (refine u_be (by assumption) ?_ ?_; focus omega))

attribute [local irreducible] World.setCells in
theorem put_B (N q m : Nat) (a n : Int) (x : Fd) (M D D2 : Nat -> List Ln) (A0 B0 : Int) (X0 : Fd) (l1 : Ln) (hq : q < 4) (_hm1 : m ≤ 1) (hm : (D2 q).length = m) (hD : D q = [(A0, B0, X0), l1]) (H1 : ∀ W : World, TlbM W N M -> Calls Tryd.prog 15 #[.pointer (some ⟨N, 0, none⟩), .int .u64 a, .int .u64 n] W (fun e W' => e = .returned (.tuple #[]) /\ TlbM W' N D /\ Out1 N W W')) (H2 : ∀ W : World, TlbM W N D -> Calls Tryd.prog 15 #[.pointer (some ⟨N, 0, none⟩), .int .u64 A0, .int .u64 B0] W (fun e W' => e = .returned (.tuple #[]) /\ TlbM W' N D2 /\ Out1 N W W')) (HS : ∀ W : World, Calls Tryd.prog 60 #[.int .u64 n] W (Quiet (.int .u64 (q : Int)) W)) (w : World) (hM : TlbM w N M) :
    Calls Tryd.prog 61 #[.pointer (some ⟨N, 0, none⟩), .agg #[.int .u64 a, .int .u64 n, .bool x.e0, .bool x.e1, .bool x.e2, .bool x.e3, .bool x.e4, .bool x.e5, .bool x.e6, .bool x.e7, .bool x.e8, .bool x.e9, .bool x.e10, .bool x.e11, .int .u64 x.f, .int .u64 x.a]] w (fun e w' => e = .returned (.tuple #[]) /\ TlbM w' N (addM D2 q (a, n, x)) /\ Out1 N w w') := by
  obtain ⟨SS, LB', LS, LA', LH⟩ := rules5
  have hN : N < w.heap.size := hM.here
  have C1 := hide H1
  have CS := hide HS
  have HM := hide hM
  have C2 := hide H2
  have HDD := hide hD
  clear H2 hD
  have HQ := hide hm
  clear H1 HS hM hm
  have h1 : ¬ ((4 : Int) ≤ (q : Int)) := by omega
  have h2 : (q : Int) < 4 := by omega
  have h3 : (0 : Int) ≤ (q : Int) := by omega
  have h4 : ((m : Int) == 2) = false := by simp; omega
  have h6 : ¬ ((2 : Int) ≤ (m : Int)) := by omega
  have h7 : (m : Int) < 2 := by omega
  have h8 : (0 : Int) ≤ (m : Int) := by omega
  go_enter Tryd.func61, Tryd.ntmps61
  go_upto_region 7 with (first | (go_at_call 60; (with_reducible refine (CS.out _).mono ?_); rintro e w' ⟨rfl, n1, rfl⟩) | ((refine wpList_load_line rfl _ rfl (N) (q * 32) rfl A0 B0 X0 ?_ ?_); (focus ((repeat (with_reducible first | assumption | refine rg_dr _ ?_ | refine rg_d1 ?_ | refine rg_al _ ?_ | (refine rg_set ?_ ?_; focus (dsimp only; omega)) | (apply rg_be; assumption) | (refine rg_bn (by assumption) ?_ ?_; focus omega) | (refine rg_out (by assumption) ?_ ?_; focus omega))); done))) | ((refine wpList_store_box rfl _ _ _ rfl _ A0 B0 X0 rfl rfl infoL ?_ ?_); (focus (repeat (first | (with_reducible first | assumption | refine o_dr _ ?_ | refine o_d1 ?_ | refine o_set ?_) | (with_reducible refine o_new ?_ ?_; (focus (simp)); (focus (simp))) | (with_reducible refine o_new ?_ ?_; (focus (simp [*]; done)); (focus (simp))) | (with_reducible refine o_new ?_ ?_; (focus (simp [*]; omega)); (focus (simp))) | (with_reducible first | refine o_al _ ?_ | (apply o_be; assumption) | (refine o_bn (by assumption) ?_ ?_; focus omega))))); intro ws hrs hbs hos hss; have zr := row_rg hrs; have z0 := zr 0 _ rfl; have z1 := zr 1 _ rfl; clear zr) | (go_at_call 15; (with_reducible refine (C2.out _ ?_).mono ?_); (focus (have hTd2 := hTd2.out; repeat (with_reducible first | assumption | refine tm_dr _ ?_ | refine tm_d1 ?_ | refine tm_al _ ?_ | (refine tm_set ?_ ?_; focus (dsimp only; omega)) | (apply tm_be; assumption) | (refine tm_bn (by assumption) ?_ ?_; focus omega) | (refine tm_out (by assumption) ?_ ?_; focus omega)))); rintro e we ⟨rfl, hTe, hUe⟩; have hTe := hide hTe) | (go_at_call 15; (with_reducible refine (C1.out _ ?_).mono ?_); (focus (have hM := HM.out; repeat (with_reducible first | assumption | refine tm_dr _ ?_ | refine tm_d1 ?_ | refine tm_al _ ?_ | (refine tm_set ?_ ?_; focus (dsimp only; omega)) | (apply tm_be; assumption) | (refine tm_bn (by assumption) ?_ ?_; focus omega) | (refine tm_out (by assumption) ?_ ?_; focus omega)))); rintro e wd ⟨rfl, hTd, hUd⟩; have y1 : wd.cell? ⟨w.heap.size, 1, none⟩ = some (.int .u64 n) := hUd.reads (by dsimp only; omega) (by simp [go_sem]); have yr : wd.rangeAt w.heap.size 0 (lineI a n x) := rg_out hUd (by omega) (rg_new rfl); have hsd : w.heap.size + 1 ≤ wd.heap.size := (by simpa using hUd.size); have hTd2 := hide hTd; obtain ⟨R1, hA1, hP1⟩ := hTd; have hf1 : wd.cell? ⟨N, 128 + q, none⟩ = some (.int .i64 2) := put_fill hA1 hq (by rw [HDD.out]; rfl); have r0 : wd.rangeAt N (q * 32) (lineI A0 B0 X0) := put_first hA1 hP1 hq HDD.out; clear hA1 hP1))
  refine wp_abs (fun W => TlbM W N D2 /\ Out1 N w W /\ W.rangeAt w.heap.size 0 (lineI a n x)) ?_ ?_
  · have hTd2 := hTd2.out
    have hTe := hTe.out
    refine ⟨?_, ?_, ?_⟩
    · repeat (with_reducible first | assumption | refine tm_dr _ ?_ | refine tm_d1 ?_ | refine tm_al _ ?_ | (refine tm_set ?_ ?_; focus (dsimp only; omega)) | (apply tm_be; assumption) | (refine tm_bn (by assumption) ?_ ?_; focus omega) | (refine tm_out (by assumption) ?_ ?_; focus omega))
    · repeat (with_reducible first | assumption | exact Out1.refl _ _ | refine u_dr _ ?_ | refine u_d1 ?_ | refine u_al _ ?_ | (refine u_in _ ?_ ?_; focus omega) | (refine u_new _ ?_ ?_; focus (dsimp only; omega)) | (refine Out1.trans ?_ (by assumption)) | (apply u_bh; assumption) | (refine u_be (by assumption) ?_ ?_; focus omega))
    · repeat (with_reducible first | assumption | refine rg_dr _ ?_ | refine rg_d1 ?_ | refine rg_al _ ?_ | (refine rg_set ?_ ?_; focus (dsimp only; omega)) | (apply rg_be; assumption) | (refine rg_bn (by assumption) ?_ ?_; focus omega) | (refine rg_out (by assumption) ?_ ?_; focus omega))
  rintro w0 ⟨⟨R, hA, hP⟩, hU, hr⟩
  have hf : w0.cell? ⟨N, 128 + q, none⟩ = some (.int .i64 (m : Int)) := by
    have := hA.fill q hq
    rw [HQ.out] at this
    exact this
  have ht : w0.there N (q * 32 + m * 16) 16 := hA.part _ _ (by omega)
  have hrow := row_rg hr
  have b0 : w0.cell? ⟨w.heap.size, 0, none⟩ = some (.int .u64 a) := hrow 0 _ rfl
  have b1 : w0.cell? ⟨w.heap.size, 1, none⟩ = some (.int .u64 n) := hrow 1 _ rfl
  have b2 : w0.cell? ⟨w.heap.size, 2, none⟩ = some (.bool x.e0) := hrow 2 _ rfl
  have b3 : w0.cell? ⟨w.heap.size, 3, none⟩ = some (.bool x.e1) := hrow 3 _ rfl
  have b4 : w0.cell? ⟨w.heap.size, 4, none⟩ = some (.bool x.e2) := hrow 4 _ rfl
  have b5 : w0.cell? ⟨w.heap.size, 5, none⟩ = some (.bool x.e3) := hrow 5 _ rfl
  have b6 : w0.cell? ⟨w.heap.size, 6, none⟩ = some (.bool x.e4) := hrow 6 _ rfl
  have b7 : w0.cell? ⟨w.heap.size, 7, none⟩ = some (.bool x.e5) := hrow 7 _ rfl
  have b8 : w0.cell? ⟨w.heap.size, 8, none⟩ = some (.bool x.e6) := hrow 8 _ rfl
  have b9 : w0.cell? ⟨w.heap.size, 9, none⟩ = some (.bool x.e7) := hrow 9 _ rfl
  have b10 : w0.cell? ⟨w.heap.size, 10, none⟩ = some (.bool x.e8) := hrow 10 _ rfl
  have b11 : w0.cell? ⟨w.heap.size, 11, none⟩ = some (.bool x.e9) := hrow 11 _ rfl
  have b12 : w0.cell? ⟨w.heap.size, 12, none⟩ = some (.bool x.e10) := hrow 12 _ rfl
  have b13 : w0.cell? ⟨w.heap.size, 13, none⟩ = some (.bool x.e11) := hrow 13 _ rfl
  have b14 : w0.cell? ⟨w.heap.size, 14, none⟩ = some (.int .u64 x.f) := hrow 14 _ rfl
  have b15 : w0.cell? ⟨w.heap.size, 15, none⟩ = some (.int .u64 x.a) := hrow 15 _ rfl
  clear hrow hr
  have HA := hide hA
  have HP := hide hP
  clear hA hP
  refine wp_region_held_drew (S := fun w' => w'.cell? ⟨N, 128 + q, none⟩ = some (.int .i64 (m : Int)) /\ w'.cell? ⟨w.heap.size, 0, none⟩ = some (.int .u64 a) /\ w'.cell? ⟨w.heap.size, 1, none⟩ = some (.int .u64 n) /\ w'.cell? ⟨w.heap.size, 2, none⟩ = some (.bool x.e0) /\ w'.cell? ⟨w.heap.size, 3, none⟩ = some (.bool x.e1) /\ w'.cell? ⟨w.heap.size, 4, none⟩ = some (.bool x.e2) /\ w'.cell? ⟨w.heap.size, 5, none⟩ = some (.bool x.e3) /\ w'.cell? ⟨w.heap.size, 6, none⟩ = some (.bool x.e4) /\ w'.cell? ⟨w.heap.size, 7, none⟩ = some (.bool x.e5) /\ w'.cell? ⟨w.heap.size, 8, none⟩ = some (.bool x.e6) /\ w'.cell? ⟨w.heap.size, 9, none⟩ = some (.bool x.e7) /\ w'.cell? ⟨w.heap.size, 10, none⟩ = some (.bool x.e8) /\ w'.cell? ⟨w.heap.size, 11, none⟩ = some (.bool x.e9) /\ w'.cell? ⟨w.heap.size, 12, none⟩ = some (.bool x.e10) /\ w'.cell? ⟨w.heap.size, 13, none⟩ = some (.bool x.e11) /\ w'.cell? ⟨w.heap.size, 14, none⟩ = some (.int .u64 x.f) /\ w'.cell? ⟨w.heap.size, 15, none⟩ = some (.int .u64 x.a)) (by kernel_rfl) ?_ (fun hHeld => ?_)
  · exact ⟨hf, b0, b1, b2, b3, b4, b5, b6, b7, b8, b9, b10, b11, b12, b13, b14, b15⟩
  refine take_dst 0 37 (.pointer (some ⟨N, 0, none⟩)) rfl rfl (by kernel_rfl) (by kernel_rfl) (by kernel_rfl) (fun _ _ _ h => h) (Or.inl ⟨by rfl, ?_⟩) hHeld ?_
  · intro w1 hSw
    go_simp
  simp only [List.setIfInBounds_toArray, List.set_cons_zero, List.set_cons_succ]
  refine take_dst 1 38 (.int .u64 (q : Int)) rfl rfl (by kernel_rfl) (by kernel_rfl) (by kernel_rfl) (fun _ _ _ h => h) (Or.inl ⟨by rfl, ?_⟩) hHeld ?_
  · intro w1 hSw
    go_simp
  simp only [List.setIfInBounds_toArray, List.set_cons_zero, List.set_cons_succ]
  refine take_dst 2 39 (.pointer (some ⟨N, 0, none⟩)) rfl rfl (by kernel_rfl) (by kernel_rfl) (by kernel_rfl) (fun _ _ _ h => h) (Or.inl ⟨by rfl, ?_⟩) hHeld ?_
  · intro w1 hSw
    go_simp
  simp only [List.setIfInBounds_toArray, List.set_cons_zero, List.set_cons_succ]
  refine take_dst 3 40 (.int .u64 (q : Int)) rfl rfl (by kernel_rfl) (by kernel_rfl) (by kernel_rfl) (fun _ _ _ h => h) (Or.inl ⟨by rfl, ?_⟩) hHeld ?_
  · intro w1 hSw
    go_simp
  simp only [List.setIfInBounds_toArray, List.set_cons_zero, List.set_cons_succ]
  refine take_dst 4 41 (.pointer (some ⟨N, 0, none⟩)) rfl rfl (by kernel_rfl) (by kernel_rfl) (by kernel_rfl) (fun _ _ _ h => h) (Or.inl ⟨by rfl, ?_⟩) hHeld ?_
  · intro w1 hSw
    go_simp
  simp only [List.setIfInBounds_toArray, List.set_cons_zero, List.set_cons_succ]
  refine take_dst 5 42 (.pointer (some ⟨N, 128, none⟩)) rfl rfl (by kernel_rfl) (by kernel_rfl) (by kernel_rfl) (fun _ _ _ h => h) (Or.inl ⟨by rfl, ?_⟩) hHeld ?_
  · intro w1 hSw
    go_simp
  simp only [List.setIfInBounds_toArray, List.set_cons_zero, List.set_cons_succ]
  refine take_dst 6 43 (.pointer (some ⟨N, 128 + q, none⟩)) rfl rfl (by kernel_rfl) (by kernel_rfl) (by kernel_rfl) (fun _ _ _ h => h) (Or.inl ⟨by rfl, ?_⟩) hHeld ?_
  · intro w1 hSw
    go_simp
  simp only [List.setIfInBounds_toArray, List.set_cons_zero, List.set_cons_succ]
  refine take_dst 7 44 (.int .i64 (m : Int)) rfl rfl (by kernel_rfl) (by kernel_rfl) (by kernel_rfl) (fun _ _ _ h => h) (Or.inl ⟨by rfl, ?_⟩) hHeld ?_
  · intro w1 hSw
    go_simp
  simp only [List.setIfInBounds_toArray, List.set_cons_zero, List.set_cons_succ]
  refine take_dst 8 45 (.agg #[.int .u64 a, .int .u64 n, .bool x.e0, .bool x.e1, .bool x.e2, .bool x.e3, .bool x.e4, .bool x.e5, .bool x.e6, .bool x.e7, .bool x.e8, .bool x.e9, .bool x.e10, .bool x.e11, .int .u64 x.f, .int .u64 x.a]) rfl rfl (by kernel_rfl) (by kernel_rfl) (by kernel_rfl) (fun _ _ _ h => h) (Or.inl ⟨by rfl, ?_⟩) hHeld ?_
  · intro w1 hSw
    go_simp
  simp only [List.setIfInBounds_toArray, List.set_cons_zero, List.set_cons_succ]
  refine take_dst 9 46 (.pointer (some ⟨N, 0, none⟩)) rfl rfl (by kernel_rfl) (by kernel_rfl) (by kernel_rfl) (fun _ _ _ h => h) (Or.inl ⟨by rfl, ?_⟩) hHeld ?_
  · intro w1 hSw
    go_simp
  simp only [List.setIfInBounds_toArray, List.set_cons_zero, List.set_cons_succ]
  refine take_dst 10 47 (.pointer (some ⟨N, 0, none⟩)) rfl rfl (by kernel_rfl) (by kernel_rfl) (by kernel_rfl) (fun _ _ _ h => h) (Or.inl ⟨by rfl, ?_⟩) hHeld ?_
  · intro w1 hSw
    go_simp
  simp only [List.setIfInBounds_toArray, List.set_cons_zero, List.set_cons_succ]
  refine take_dst 11 48 (.pointer (some ⟨N, q * 32, none⟩)) rfl rfl (by kernel_rfl) (by kernel_rfl) (by kernel_rfl) (fun _ _ _ h => h) (Or.inl ⟨by rfl, ?_⟩) hHeld ?_
  · intro w1 hSw
    go_simp
  simp only [List.setIfInBounds_toArray, List.set_cons_zero, List.set_cons_succ]
  refine take_dst 12 49 (.pointer (some ⟨N, q * 32 + m * 16, none⟩)) rfl rfl (by kernel_rfl) (by kernel_rfl) (by kernel_rfl) (fun _ _ _ h => h) (Or.inl ⟨by rfl, ?_⟩) hHeld ?_
  · intro w1 hSw
    go_simp
  simp only [List.setIfInBounds_toArray, List.set_cons_zero, List.set_cons_succ]
  refine wpAnyH_ready (rs := [13]) (by kernel_rfl) (by simp) ?_
  refine AllReadyH.cons rfl (fun K hK => ?_) AllReadyH.nil
  refine step_store_line rfl _ _ _ rfl rfl N (q * 32 + m * 16) a n x rfl rfl infoL ht ?_
  refine hK.out _ _ ?_ (fun hHeld => ?_)
  · exact ⟨put_keep1 hf rfl hq _hm1, c_sc (by dsimp only; omega) (c_d1 b0), c_sc (by dsimp only; omega) (c_d1 b1), c_sc (by dsimp only; omega) (c_d1 b2), c_sc (by dsimp only; omega) (c_d1 b3), c_sc (by dsimp only; omega) (c_d1 b4), c_sc (by dsimp only; omega) (c_d1 b5), c_sc (by dsimp only; omega) (c_d1 b6), c_sc (by dsimp only; omega) (c_d1 b7), c_sc (by dsimp only; omega) (c_d1 b8), c_sc (by dsimp only; omega) (c_d1 b9), c_sc (by dsimp only; omega) (c_d1 b10), c_sc (by dsimp only; omega) (c_d1 b11), c_sc (by dsimp only; omega) (c_d1 b12), c_sc (by dsimp only; omega) (c_d1 b13), c_sc (by dsimp only; omega) (c_d1 b14), c_sc (by dsimp only; omega) (c_d1 b15)⟩
  clear hK K hHeld
  refine wpAnyH_done (by kernel_rfl) ?_ _
  go_upto_region 8 with (first | fail)
  refine wp_abs (fun W => TlbAt W N (updL R (2 * q + m) (a, n, x)) (fun r => (D2 r).length) /\ Out1 N w W) ?_ ?_
  · have hA := HA.out
    refine ⟨?_, ?_⟩
    · exact ta_line (W := w0.drew) (a, n, x) (by omega) (by omega) (ta_d1 hA)
    · exact u_sc _ _ _ (by simp; omega) (u_d1 hU)
  rintro w8 ⟨hA8, hU8⟩
  have hf8 : w8.cell? ⟨N, 128 + q, none⟩ = some (.int .i64 (m : Int)) := by
    have := hA8.fill q hq
    rw [HQ.out] at this
    exact this
  have hz8 : w8.frozen? ⟨N, 128 + q, none⟩ = false := (hA8.part (128 + q) 1 (by omega) 0 (by omega)).2
  have hw8 : IntKind.i64.wrap ((m : Int) + 1) = ((m + 1 : Nat) : Int) := by rw [IntKind.wrap_i64]; omega
  have HA8 := hide hA8
  clear hA8
  go_region
  all_goals go_wp2_with fail
  refine bodyPost_end (v := .tuple #[]) (by simp (maxDischargeDepth := 4) [results, Tryd.results61, go_sem, *]) rfl ?_
  refine ⟨rfl, tm_add (m := m) (a, n, x) hq HQ.out (by omega) HP.out ?_, ?_⟩
  · exact ta_fill (m + 1) (by omega) hq rfl (ta_d1 HA8.out)
  · repeat (with_reducible first | assumption | exact Out1.refl _ _ | refine u_dr _ ?_ | refine u_d1 ?_ | refine u_al _ ?_ | (refine u_in _ ?_ ?_; focus omega) | (refine u_new _ ?_ ?_; focus (dsimp only; omega)) | (refine Out1.trans ?_ (by assumption)) | (apply u_bh; assumption) | (refine u_be (by assumption) ?_ ?_; focus omega))

def lputM {α : Type} (M : Nat -> List (LnX α)) (q : Nat) (l : LnX α) : Nat -> List (LnX α) := match dropM M l.1 l.2.1 q with
  | [x, _] => addM (dropM (dropM M l.1 l.2.1) x.1 x.2.1) q l
  | _ => addM (dropM M l.1 l.2.1) q l
theorem lput_any (N q : Nat) (a n : Int) (x : Fd) (M : Nat -> List Ln) (hn : n % 4 = (q : Int)) (h0 : 0 ≤ n) (w : World) (hM : TlbM w N M) :
    Calls Tryd.prog 61 #[.pointer (some ⟨N, 0, none⟩), .agg #[.int .u64 a, .int .u64 n, .bool x.e0, .bool x.e1, .bool x.e2, .bool x.e3, .bool x.e4, .bool x.e5, .bool x.e6, .bool x.e7, .bool x.e8, .bool x.e9, .bool x.e10, .bool x.e11, .int .u64 x.f, .int .u64 x.a]] w (fun e w' => e = .returned (.tuple #[]) /\ TlbM w' N (lputM M q (a, n, x)) /\ Out1 N w w') := by
  have hq : q < 4 := by omega
  have H1 := fun W hM => drop_any N M a n W hM
  have HS := fun W => setof_any n q hn h0 W
  have hl : (dropM M a n q).length ≤ 2 := by
    obtain ⟨R, _, hP⟩ := hM
    exact Nat.le_trans (List.length_filter_le _ _) (hP q hq).1
  unfold lputM
  dsimp only
  generalize dropM M a n = D at *
  match hD : D q, hl with
  | [], _ => exact put_A N q 0 a n x M D hq (by omega) (by rw [hD]; rfl) H1 HS w hM
  | [y], _ => exact put_A N q 1 a n x M D hq (by omega) (by rw [hD]; rfl) H1 HS w hM
  | [y, z], _ =>
    have H2 := fun W hM => drop_any N D y.1 y.2.1 W hM
    have hm : (dropM D y.1 y.2.1 q).length ≤ 1 := by
      unfold dropM
      rw [hD]
      have : List.filter (fun l => !((l.1 == y.1) && (l.2.1 == y.2.1))) [y, z] = List.filter (fun l => !((l.1 == y.1) && (l.2.1 == y.2.1))) [z] := by
        rw [List.filter_cons_of_neg (by simp)]
      rw [this]
      exact Nat.le_trans (List.length_filter_le _ _) (Nat.le_refl _)
    exact put_B N q _ a n x M D (dropM D y.1 y.2.1) y.1 y.2.1 y.2.2 z hq hm rfl hD H1 H2 HS w hM
  | _ :: _ :: _ :: _, hl =>
    simp only [List.length_cons] at hl
    omega
end Go.Proofs.YtkajndonefkegaaDoor
