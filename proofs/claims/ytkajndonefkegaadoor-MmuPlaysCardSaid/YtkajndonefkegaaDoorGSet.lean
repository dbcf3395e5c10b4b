/-
  Texts laid one behind the other: WalkSet2, WalkMath2, WalkPlace.
-/
import Derived.Test.YtkajndonefkegaaDoorWalkSet
import Derived.Test.YtkajndonefkegaaDoorGPte
set_option maxRecDepth 100000
set_option maxHeartbeats 64000000
namespace Go.Proofs.YtkajndonefkegaaDoor
open Go.RowKit Words FieldMath PteMath

def neB (a b : Nat) : Bool := decide (a ≠ b)
theorem out_reads {N o : Nat} {w W : World} (h : Out N o w W) : ∀ b i : Nat, ltB b w.heap.size = true -> neB b N = true -> W.cell? ⟨b, i, none⟩ = w.cell? ⟨b, i, none⟩ := fun b _ h1 h2 => World.cell?_of_block (w := w) (h.block b (of_decide_eq_true h1) (of_decide_eq_true h2))
theorem out_holds {N o : Nat} {w W : World} (h : Out N o w W) : ∀ b i : Nat, ltB b w.heap.size = true -> neB b N = true -> W.frozen? ⟨b, i, none⟩ = w.frozen? ⟨b, i, none⟩ := fun b _ h1 h2 => World.frozen?_of_block (w := w) (h.block b (of_decide_eq_true h1) (of_decide_eq_true h2))
theorem mark_let (b0 b1 b2 b3 b4 b5 b6 b7 b8 b9 b10 b11 d0 d1 d2 d3 d4 d5 d6 d7 d8 d9 d10 d11 tagged : Bool) (R N C o : Nat) (M M2 : Nat -> Nat -> BitVec 64) (F A k : Int) (hC : 0 < C) (c1 : ∀ W, Calls Tryd.prog 34 #[.agg #[.bool b0, .bool b1, .bool b2, .bool b3, .bool b4, .bool b5, .bool b6, .bool b7, .bool b8, .bool b9, .bool b10, .bool b11, .int .u64 F], .int .i64 k, .bool tagged] W (Makes (.agg #[.bool d0, .bool d1, .bool d2, .bool d3, .bool d4, .bool d5, .bool d6, .bool d7, .bool d8, .bool d9, .bool d10, .bool d11, .int .u64 F]) W)) (c2 : ∀ pb fb W, Tab W -> MemW W R N C M -> W.cell? ⟨pb, 0, none⟩ = some (.pointer (some ⟨R, 0, none⟩)) -> W.cell? ⟨fb, 13, none⟩ = some (.int .u64 A) -> Calls Tryd.prog 82 #[.agg #[.bool b0, .bool b1, .bool b2, .bool b3, .bool b4, .bool b5, .bool b6, .bool b7, .bool b8, .bool b9, .bool b10, .bool b11, .int .u64 F, .int .u64 A], .agg #[.bool d0, .bool d1, .bool d2, .bool d3, .bool d4, .bool d5, .bool d6, .bool d7, .bool d8, .bool d9, .bool d10, .bool d11, .int .u64 F], .func (.func 83) #[] #[.pointer (some ⟨pb, 0, none⟩), .pointer (some ⟨fb, 0, none⟩)]] W fun e w' => e = .returned (.agg #[.bool d0, .bool d1, .bool d2, .bool d3, .bool d4, .bool d5, .bool d6, .bool d7, .bool d8, .bool d9, .bool d10, .bool d11, .int .u64 F, .int .u64 A]) /\ MemW w' R N C M2 /\ Out N o W w') (w : World) (hT : Tab w) (hM : MemW w R N C M) :
    Calls Tryd.prog 62 #[.pointer (some ⟨R, 0, none⟩), .agg #[.bool b0, .bool b1, .bool b2, .bool b3, .bool b4, .bool b5, .bool b6, .bool b7, .bool b8, .bool b9, .bool b10, .bool b11, .int .u64 F, .int .u64 A], .int .i64 k, .bool tagged] w fun e w' => e = .returned (.agg #[.bool d0, .bool d1, .bool d2, .bool d3, .bool d4, .bool d5, .bool d6, .bool d7, .bool d8, .bool d9, .bool d10, .bool d11, .int .u64 F, .int .u64 A]) /\ MemW w' R N C M2 /\ Out N o w w' := by
  have Cc1 := hide c1
  have Cc2 := hide c2
  clear c1 c2
  obtain ⟨SS, LB', LS, LA', LH⟩ := rules5
  have hN : N < w.heap.size := by
    obtain ⟨B, S, hm, _⟩ := hM
    exact (hm.page 0 hC).here
  have hR : R < w.heap.size := World.block_lt_of_cell? w _ hM.ram
  have n1 : neB w.heap.size N = true := decide_eq_true (by omega)
  have n2 : neB (w.heap.size + 1) N = true := decide_eq_true (by omega)
  have n3 : neB (w.heap.size + 1 + 1) N = true := decide_eq_true (by omega)
  have HM := hide hM
  clear hM
  go_enter Tryd.func62, Tryd.ntmps62
  go_wp2
  go_region_with (first | (go_at_call 34; (with_reducible refine (Cc1.out _).mono ?_); rintro e w4 ⟨rfl, hb4⟩; obtain ⟨hr4, hh4, m4, hs4⟩ := bl_all hb4) | (go_at_call 82; (with_reducible refine (Cc2.out _ _ _ ?_ ?_ ?_ ?_).mono ?_); (refine hT.behind ?_; repeat (with_reducible first | assumption | exact Below.refl _ _ | refine Below.drew ?_ | refine below_drewN ?_ _ | refine bw_alloc ?_ _ | (refine bw_set ?_ ?_ _; focus (dsimp only; omega)) | (apply bw_behind; assumption))); (focus (have hMw := HM.out; repeat (with_reducible first | assumption | refine mw_dr _ ?_ | refine mw_d1 ?_ | refine mw_al _ ?_ | (apply mw_be; assumption)))); (focus ((first | ((repeat (with_reducible first | assumption | refine c_dr _ ?_ | refine c_d1 ?_ | refine c_al _ ?_ | (refine c_set ?_ ?_; focus (dsimp only; omega)) | (apply c_be; assumption))); done) | (simp [go_sem]; done) | (simp (maxDischargeDepth := 4) [go_sem, *]; done)))); (focus ((first | ((repeat (with_reducible first | assumption | refine c_dr _ ?_ | refine c_d1 ?_ | refine c_al _ ?_ | (refine c_set ?_ ?_; focus (dsimp only; omega)) | (apply c_be; assumption))); done) | (simp [go_sem]; done) | (simp (maxDischargeDepth := 4) [go_sem, *]; done)))); rintro e w5 ⟨rfl, hM5, ho5⟩; have hr5 := out_reads ho5; have hh5 := out_holds ho5; have hz5 := ho5.size))
  all_goals as_aux_lemma =>
    have hOwn : Own w5 (w.heap.size + 1 + 1) 14 := by
      refine own_out ho5 (by omega) ?_
      repeat (first | (with_reducible first | assumption | refine o_dr _ ?_ | refine o_d1 ?_ | refine o_set ?_) | (with_reducible refine o_new ?_ ?_; (focus (simp)); (focus (simp))) | (with_reducible first | refine o_al _ ?_ | (apply o_be; assumption)))
    have hRow := row_sc (l := [.bool d0, .bool d1, .bool d2, .bool d3, .bool d4, .bool d5, .bool d6, .bool d7, .bool d8, .bool d9, .bool d10, .bool d11, .int .u64 F, .int .u64 A]) (th_own hOwn)
    have hMs := mw_sc (b := w.heap.size + 1 + 1) [.bool d0, .bool d1, .bool d2, .bool d3, .bool d4, .bool d5, .bool d6, .bool d7, .bool d8, .bool d9, .bool d10, .bool d11, .int .u64 F, .int .u64 A] 0 (by omega) (by omega) hM5
    have hOs : Out N o w (w5.setCells (w.heap.size + 1 + 1) 0 [.bool d0, .bool d1, .bool d2, .bool d3, .bool d4, .bool d5, .bool d6, .bool d7, .bool d8, .bool d9, .bool d10, .bool d11, .int .u64 F, .int .u64 A]) := out_sc _ _ (by omega) (Out.trans (by repeat (with_reducible first | assumption | exact Out.refl _ _ _ | refine out_dr _ ?_ | refine out_d1 ?_ | refine out_al _ ?_ | (refine out_new _ ?_ ?_; focus (dsimp only; omega)) | (apply out_be; assumption) | (refine Out.trans ?_ (by assumption)))) ho5)
    obtain ⟨ws, hws⟩ : ∃ ws, ((((((((((((((w5.setCell ⟨w.heap.size + 1 + 1, 0, none⟩ (.bool d0)).setCell ⟨w.heap.size + 1 + 1, 1, none⟩ (.bool d1)).setCell ⟨w.heap.size + 1 + 1, 2, none⟩ (.bool d2)).setCell ⟨w.heap.size + 1 + 1, 3, none⟩ (.bool d3)).setCell ⟨w.heap.size + 1 + 1, 4, none⟩ (.bool d4)).setCell ⟨w.heap.size + 1 + 1, 5, none⟩ (.bool d5)).setCell ⟨w.heap.size + 1 + 1, 6, none⟩ (.bool d6)).setCell ⟨w.heap.size + 1 + 1, 7, none⟩ (.bool d7)).setCell ⟨w.heap.size + 1 + 1, 8, none⟩ (.bool d8)).setCell ⟨w.heap.size + 1 + 1, 9, none⟩ (.bool d9)).setCell ⟨w.heap.size + 1 + 1, 10, none⟩ (.bool d10)).setCell ⟨w.heap.size + 1 + 1, 11, none⟩ (.bool d11)).setCell ⟨w.heap.size + 1 + 1, 12, none⟩ (.int .u64 F)).setCell ⟨w.heap.size + 1 + 1, 13, none⟩ (.int .u64 A)) = ws := ⟨_, rfl⟩
    have hRow2 : Row ws (w.heap.size + 1 + 1) [.bool d0, .bool d1, .bool d2, .bool d3, .bool d4, .bool d5, .bool d6, .bool d7, .bool d8, .bool d9, .bool d10, .bool d11, .int .u64 F, .int .u64 A] := by rw [← hws]; exact hRow
    have hMs2 : MemW ws R N C M2 := by rw [← hws]; exact hMs
    have hOs2 : Out N o w ws := by rw [← hws]; exact hOs
    rw [hws]
    clear hRow hMs hOs hws hOwn ho5 hr5 hh5 hz5 hM5 hb4 hr4 hh4 hs4
    have q0 := hRow2 0 _ rfl
    have q1 := hRow2 1 _ rfl
    have q2 := hRow2 2 _ rfl
    have q3 := hRow2 3 _ rfl
    have q4 := hRow2 4 _ rfl
    have q5 := hRow2 5 _ rfl
    have q6 := hRow2 6 _ rfl
    have q7 := hRow2 7 _ rfl
    have q8 := hRow2 8 _ rfl
    have q9 := hRow2 9 _ rfl
    have q10 := hRow2 10 _ rfl
    have q11 := hRow2 11 _ rfl
    have q12 := hRow2 12 _ rfl
    have q13 := hRow2 13 _ rfl
    have HM2 := hide hMs2
    have HO2 := hide hOs2
    clear hRow2 hMs2 hOs2
    go_wp2
    refine bodyPost_ret (v := .agg #[.bool d0, .bool d1, .bool d2, .bool d3, .bool d4, .bool d5, .bool d6, .bool d7, .bool d8, .bool d9, .bool d10, .bool d11, .int .u64 F, .int .u64 A]) (by simp (maxDischargeDepth := 4) [results, Tryd.results62, go_sem, *]) rfl ?_
    exact ⟨rfl, HM2.out, HO2.out⟩
end Go.Proofs.YtkajndonefkegaaDoor

namespace Go.Proofs.YtkajndonefkegaaDoor
open Go.RowKit Words FieldMath PteMath

theorem good_both {x : BitVec 64} {C : Nat} (h1 : goodQ x true C = true) (h2 : goodQ x false C = true) : False := by
  unfold goodQ at h1 h2
  generalize (x.getLsbD 0 && (x.getLsbD 1 || x.getLsbD 2 || x.getLsbD 3)) = L at *
  cases L <;> simp at h1 h2
theorem good_frame {x : BitVec 64} {l : Bool} {C : Nat} (h : goodQ x l C = true) : (getB x 10 44).toNat < C := by
  unfold goodQ at h
  simp only [Bool.and_eq_true] at h
  exact of_decide_eq_true h.2
theorem step_put (M : Nat -> Nat -> BitVec 64) (C v : Nat) (V : BitVec 64) : ∀ l t x a, t < C -> stepM M C v l t = some (x, a) -> ∃ p k, p < C /\ k < 512 /\ a = p * 4096 + 8 * k /\ M p k = x /\ goodQ x true C = true /\ (goodQ V true C = true -> stepM (putM M p k V) C v l t = some (V, a))
  | 0, t, x, a, ht, h => by
    unfold stepM at h
    split at h
    · rename_i hg
      simp only [Option.some.injEq, Prod.mk.injEq] at h
      obtain ⟨rfl, rfl⟩ := h
      refine ⟨t, idx v 0, ht, idx_lt v 0, rfl, rfl, hg, fun hV => ?_⟩
      unfold stepM
      rw [putM_same, if_pos hV]
    · cases h
  | l + 1, t, x, a, ht, h => by
    unfold stepM at h
    split at h
    · rename_i hg
      obtain ⟨p, k, hp, hk, ha, hx, hgx, hV⟩ := step_put M C v V l _ x a (good_frame hg) h
      refine ⟨p, k, hp, hk, ha, hx, hgx, fun hv => ?_⟩
      have hne : t ≠ p ∨ idx v ((l + 1 : Nat) : Int) ≠ k := by
        by_cases e : t = p
        · refine .inr (fun e2 => ?_)
          rw [e, e2, hx] at hg
          exact good_both hgx hg
        · exact .inl e
      rw [stepM]
      rw [putM_else _ _ _ _ _ _ hne, if_pos hg]
      exact hV hv
    · cases h
theorem walk_put (M : Nat -> Nat -> BitVec 64) (C root v : Nat) (V : BitVec 64) (x : BitVec 64) (a : Nat) (h : walkM M C root v = some (x, a)) : ∃ p k, p < C /\ k < 512 /\ a = p * 4096 + 8 * k /\ M p k = x /\ goodQ x true C = true /\ (goodQ V true C = true -> walkM (putM M p k V) C root v = some (V, a)) := by
  unfold walkM at h ⊢
  split at h
  · rename_i hc
    obtain ⟨p, k, hp, hk, ha, hx, hg, hV⟩ := step_put M C v V 2 root x a hc.2 h
    refine ⟨p, k, hp, hk, ha, hx, hg, fun hv => ?_⟩
    rw [if_pos hc]
    exact hV hv
  · cases h
theorem eqi_mark (b0 b1 b2 b3 b4 b5 b6 b7 b8 b9 b10 b11 D X : Bool) (N : Int) : ∀ W, (Op.equalIn 10000 32 (.agg #[.bool b0, .bool b1, .bool b2, .bool b3, .bool b4, .bool b5, .bool true, .bool D, .bool b8, .bool b9, .bool X, .bool b11, .int .u64 N]) (.agg #[.bool b0, .bool b1, .bool b2, .bool b3, .bool b4, .bool b5, .bool b6, .bool b7, .bool b8, .bool b9, .bool b10, .bool b11, .int .u64 N])).run Tryd.prog W = .ok (b6 && (D == b7) && (X == b10)) W := by
  intro W
  cases b6
  · simp [go_sem]
  · cases b7 <;> cases D
    all_goals first | (cases b10 <;> cases X <;> simp [go_sem]; done) | simp [go_sem]
theorem ne_mark (b0 b1 b2 b3 b4 b5 b6 b7 b8 b9 b10 b11 D X : Bool) (N : Int) : ∀ W, (binOp .neq 32 (.agg #[.bool b0, .bool b1, .bool b2, .bool b3, .bool b4, .bool b5, .bool true, .bool D, .bool b8, .bool b9, .bool X, .bool b11, .int .u64 N]) (.agg #[.bool b0, .bool b1, .bool b2, .bool b3, .bool b4, .bool b5, .bool b6, .bool b7, .bool b8, .bool b9, .bool b10, .bool b11, .int .u64 N])).run Tryd.prog W = .ok (.bool (!(b6 && (D == b7) && (X == b10)))) W := fun W => by
  rw [run_neq_struct, eqi_mark]
  rfl

def sameQ (b6 b7 b10 : Bool) (k : Int) (tagged : Bool) : Bool := b6 && (markD b7 k == b7) && (markC b10 k tagged == b10)
def markW (b0 b1 b2 b3 b4 b5 _b6 b7 b8 b9 b10 b11 : Bool) (k : Int) (tagged : Bool) (F : BitVec 64) : BitVec 64 := wk (bs b0 b1 b2 b3 b4 b5 true (markD b7 k) b8 b9 (markC b10 k tagged) b11) F 12
theorem mark_any {p i C : Nat} (hp : p < C) (hi : i < 512) (hC : C ≤ 64) (b0 b1 b2 b3 b4 b5 b6 b7 b8 b9 b10 b11 tagged : Bool) (F : BitVec 64) (k : Int) (R N : Nat) (M : Nat -> Nat -> BitVec 64) (w : World) (hT : Tab w) (hM : MemW w R N C M) :
    Calls Tryd.prog 62 #[.pointer (some ⟨R, 0, none⟩), .agg #[.bool b0, .bool b1, .bool b2, .bool b3, .bool b4, .bool b5, .bool b6, .bool b7, .bool b8, .bool b9, .bool b10, .bool b11, .int .u64 (F.toNat : Int), .int .u64 ((p * 4096 + 8 * i : Nat) : Int)], .int .i64 k, .bool tagged] w fun e w' => e = .returned (.agg #[.bool b0, .bool b1, .bool b2, .bool b3, .bool b4, .bool b5, .bool true, .bool (markD b7 k), .bool b8, .bool b9, .bool (markC b10 k tagged), .bool b11, .int .u64 (F.toNat : Int), .int .u64 ((p * 4096 + 8 * i : Nat) : Int)]) /\ MemW w' R N C (if sameQ b6 b7 b10 k tagged = true then M else putM M p i (markW b0 b1 b2 b3 b4 b5 b6 b7 b8 b9 b10 b11 k tagged F)) /\ Out N (p * 4100) w w' := by
  have hst : ∀ pb fb W, Tab W -> MemW W R N C M -> W.cell? ⟨pb, 0, none⟩ = some (.pointer (some ⟨R, 0, none⟩)) -> W.cell? ⟨fb, 13, none⟩ = some (.int .u64 ((p * 4096 + 8 * i : Nat) : Int)) -> Calls Tryd.prog 83 #[.agg #[.bool b0, .bool b1, .bool b2, .bool b3, .bool b4, .bool b5, .bool true, .bool (markD b7 k), .bool b8, .bool b9, .bool (markC b10 k tagged), .bool b11, .int .u64 (F.toNat : Int)], .pointer (some ⟨pb, 0, none⟩), .pointer (some ⟨fb, 0, none⟩)] W fun e w' => e = .returned (.tuple #[]) /\ MemW w' R N C (putM M p i (markW b0 b1 b2 b3 b4 b5 b6 b7 b8 b9 b10 b11 k tagged F)) /\ Out N (p * 4100) W w' :=
    fun pb fb W h1 h2 h3 h4 => store_mark b0 b1 b2 b3 b4 b5 true (markD b7 k) b8 b9 (markC b10 k tagged) b11 R N C (p * 4100) pb fb M _ _ _ _ (fun W h => word_any b0 b1 b2 b3 b4 b5 true (markD b7 k) b8 b9 (markC b10 k tagged) b11 F W h) (fun W h => store_w hp hi hC _ R N M W h) W h1 h2 h3 h4
  have hne := ne_mark b0 b1 b2 b3 b4 b5 b6 b7 b8 b9 b10 b11 (markD b7 k) (markC b10 k tagged) (F.toNat : Int)
  have hm := fun W => marked_any b0 b1 b2 b3 b4 b5 b6 b7 b8 b9 b10 b11 tagged (F.toNat : Int) k W
  cases hs : sameQ b6 b7 b10 k tagged with
  | true =>
    rw [show (b6 && (markD b7 k == b7) && (markC b10 k tagged == b10)) = true from hs] at hne
    rw [if_pos rfl]
    exact mark_let b0 b1 b2 b3 b4 b5 b6 b7 b8 b9 b10 b11 b0 b1 b2 b3 b4 b5 true (markD b7 k) b8 b9 (markC b10 k tagged) b11 tagged R N C (p * 4100) M M _ _ k (by omega) hm (fun pb fb W h1 h2 h3 h4 => replaced_no b0 b1 b2 b3 b4 b5 b6 b7 b8 b9 b10 b11 b0 b1 b2 b3 b4 b5 true (markD b7 k) b8 b9 (markC b10 k tagged) b11 R N C (p * 4100) pb fb M _ _ _ (by omega) (fun W a b c d => hst pb fb W a b c d) hne W h1 h2 h3 h4) w hT hM
  | false =>
    rw [show (b6 && (markD b7 k == b7) && (markC b10 k tagged == b10)) = false from hs] at hne
    rw [if_neg (by simp)]
    exact mark_let b0 b1 b2 b3 b4 b5 b6 b7 b8 b9 b10 b11 b0 b1 b2 b3 b4 b5 true (markD b7 k) b8 b9 (markC b10 k tagged) b11 tagged R N C (p * 4100) M _ _ _ k (by omega) hm (fun pb fb W h1 h2 h3 h4 => replaced_yes b0 b1 b2 b3 b4 b5 b6 b7 b8 b9 b10 b11 b0 b1 b2 b3 b4 b5 true (markD b7 k) b8 b9 (markC b10 k tagged) b11 R N C (p * 4100) pb fb M _ _ _ (by omega) (fun W a b c d => hst pb fb W a b c d) hne W h1 h2 h3 h4) w hT hM
end Go.Proofs.YtkajndonefkegaaDoor

namespace Go.Proofs.YtkajndonefkegaaDoor
open Go.RowKit Words FieldMath PteMath

end Go.Proofs.YtkajndonefkegaaDoor
