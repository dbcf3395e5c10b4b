/-
  Texts laid one behind the other: WalkWalk, WalkWalk2.
-/
import Derived.Test.YtkajndonefkegaaDoorWalkMem
import Derived.Test.YtkajndonefkegaaDoorGBase
set_option maxRecDepth 100000
set_option maxHeartbeats 64000000
namespace Go.Proofs.YtkajndonefkegaaDoor
open Go.RowKit Words FieldMath PteMath

def goodQ (x : BitVec 64) (l : Bool) (C : Nat) : Bool := x.getLsbD 0 && rightQ (x.getLsbD 0) (x.getLsbD 1) (x.getLsbD 2) (x.getLsbD 3) (x.getLsbD 4) (x.getLsbD 5) (x.getLsbD 6) (x.getLsbD 7) (x.getLsbD 58) (x.getLsbD 59) (x.getLsbD 60) (x.getLsbD 61) ((getB x 10 44).toNat : Int) && ((x.getLsbD 0 && (x.getLsbD 1 || x.getLsbD 2 || x.getLsbD 3)) == l) && decide ((getB x 10 44).toNat < C)
def stepM (M : Nat -> Nat -> BitVec 64) (C v : Nat) : Nat -> Nat -> Option (BitVec 64 × Nat)
  | 0, t => if goodQ (M t (idx v 0)) true C = true then some (M t (idx v 0), t * 4096 + 8 * idx v 0) else none
  | l + 1, t => if goodQ (M t (idx v ((l + 1 : Nat) : Int))) false C = true then stepM M C v l (getB (M t (idx v ((l + 1 : Nat) : Int))) 10 44).toNat else none
def walkM (M : Nat -> Nat -> BitVec 64) (C root v : Nat) : Option (BitVec 64 × Nat) := if v < 274877906944 /\ root < C then stepM M C v 2 root else none
def walkV : Option (BitVec 64 × Nat) -> Value
  | none => .tuple #[.agg #[.bool false, .bool false, .bool false, .bool false, .bool false, .bool false, .bool false, .bool false, .bool false, .bool false, .bool false, .bool false, .int .u64 0, .int .u64 0], .int .i64 1]
  | some (x, a) => .tuple #[.agg #[.bool (x.getLsbD 0), .bool (x.getLsbD 1), .bool (x.getLsbD 2), .bool (x.getLsbD 3), .bool (x.getLsbD 4), .bool (x.getLsbD 5), .bool (x.getLsbD 6), .bool (x.getLsbD 7), .bool (x.getLsbD 58), .bool (x.getLsbD 59), .bool (x.getLsbD 60), .bool (x.getLsbD 61), .int .u64 ((getB x 10 44).toNat : Int), .int .u64 (a : Int)], .int .i64 0]

theorem infoF : Option.map (fun x => x.size) (Tryd.prog.info? 34) = some 14 := by kernel_rfl
theorem pick_no {α : Type} {b : Bool} {x y z : α} (h : (if b = true then x else y) = z) (hb : b = false) : y = z := by subst hb; exact h
theorem pick_yes {α : Type} {b : Bool} {x y z : α} (h : (if b = true then x else y) = z) (hb : b = true) : x = z := by subst hb; exact h
theorem walkV_0 (M : Nat -> Nat -> BitVec 64) (C v p : Nat) : walkV (stepM M C v 0 p) = if goodQ (M p (idx v 0)) true C = true then .tuple #[.agg #[.bool ((M p (idx v 0)).getLsbD 0), .bool ((M p (idx v 0)).getLsbD 1), .bool ((M p (idx v 0)).getLsbD 2), .bool ((M p (idx v 0)).getLsbD 3), .bool ((M p (idx v 0)).getLsbD 4), .bool ((M p (idx v 0)).getLsbD 5), .bool ((M p (idx v 0)).getLsbD 6), .bool ((M p (idx v 0)).getLsbD 7), .bool ((M p (idx v 0)).getLsbD 58), .bool ((M p (idx v 0)).getLsbD 59), .bool ((M p (idx v 0)).getLsbD 60), .bool ((M p (idx v 0)).getLsbD 61), .int .u64 ((getB (M p (idx v 0)) 10 44).toNat : Int), .int .u64 ((p * 4096 + 8 * idx v 0 : Nat) : Int)], .int .i64 0] else .tuple #[.agg #[.bool false, .bool false, .bool false, .bool false, .bool false, .bool false, .bool false, .bool false, .bool false, .bool false, .bool false, .bool false, .int .u64 0, .int .u64 0], .int .i64 1] := by
  unfold stepM
  split <;> rfl
theorem walkV_s (M : Nat -> Nat -> BitVec 64) (C v l p : Nat) : walkV (stepM M C v (l + 1) p) = if goodQ (M p (idx v ((l + 1 : Nat) : Int))) false C = true then walkV (stepM M C v l (getB (M p (idx v ((l + 1 : Nat) : Int))) 10 44).toNat) else .tuple #[.agg #[.bool false, .bool false, .bool false, .bool false, .bool false, .bool false, .bool false, .bool false, .bool false, .bool false, .bool false, .bool false, .int .u64 0, .int .u64 0], .int .i64 1] := by
  rw [stepM]
  split <;> rfl

theorem walk_let (R N C : Nat) (M : Nat -> Nat -> BitVec 64) (v : Nat) (V : Int) (root : Nat) (RES : Value) (hRES : walkV (stepM M C v 2 root) = RES) (cM : ∀ W, Calls Tryd.prog 29 #[.int .u64 V] W (Quiet (.bool true) W)) (cI : ∀ l W, Calls Tryd.prog 73 #[.int .u64 V, .int .i64 l] W (Quiet (.int .i64 (idx v l : Int)) W)) (cR : ∀ p k W, p < C -> k < 512 -> Tab W -> MemW W R N C M -> Calls Tryd.prog 72 #[.pointer (some ⟨R, 0, none⟩), .int .u64 ((p : Nat) : Int), .int .i64 ((k : Nat) : Int)] W (Makes (.agg #[.bool ((M p k).getLsbD 0), .bool ((M p k).getLsbD 1), .bool ((M p k).getLsbD 2), .bool ((M p k).getLsbD 3), .bool ((M p k).getLsbD 4), .bool ((M p k).getLsbD 5), .bool ((M p k).getLsbD 6), .bool ((M p k).getLsbD 7), .bool ((M p k).getLsbD 58), .bool ((M p k).getLsbD 59), .bool ((M p k).getLsbD 60), .bool ((M p k).getLsbD 61), .int .u64 ((getB (M p k) 10 44).toNat : Int), .int .u64 ((p * 4096 + 8 * k : Nat) : Int)]) W)) (cQ : ∀ (b0 b1 b2 b3 b4 b5 b6 b7 b8 b9 b10 b11 : Bool) (F : BitVec 64) W, Tab W -> Calls Tryd.prog 74 #[.agg #[.bool b0, .bool b1, .bool b2, .bool b3, .bool b4, .bool b5, .bool b6, .bool b7, .bool b8, .bool b9, .bool b10, .bool b11, .int .u64 (F.toNat : Int)]] W (Makes (.bool (rightQ b0 b1 b2 b3 b4 b5 b6 b7 b8 b9 b10 b11 (F.toNat : Int))) W)) (cL : ∀ (b0 b1 b2 b3 b4 b5 b6 b7 b8 b9 b10 b11 : Bool) (F : BitVec 64) W, Calls Tryd.prog 75 #[.agg #[.bool b0, .bool b1, .bool b2, .bool b3, .bool b4, .bool b5, .bool b6, .bool b7, .bool b8, .bool b9, .bool b10, .bool b11, .int .u64 (F.toNat : Int)]] W (Makes (.bool (b0 && (b1 || b2 || b3))) W)) (cX : ∀ F W, W.cell? ⟨R, 0, none⟩ = some (.slice (some ⟨N, 0, none⟩) C C) -> Calls Tryd.prog 71 #[.pointer (some ⟨R, 0, none⟩), .int .u64 F] W (Quiet (.bool (decide (F < (C : Int)))) W)) (hr : root < C) (w : World) (hT : Tab w) (hM : MemW w R N C M) :
    Calls Tryd.prog 41 #[.pointer (some ⟨R, 0, none⟩), .int .u64 (root : Int), .int .u64 V] w (Makes RES w) := by
  obtain ⟨SS, LB', LS, LA', LH⟩ := rules5
  have hx := fun W => cX (root : Int) W
  rw [decide_eq_true (show (root : Int) < (C : Int) by omega)] at hx
  have Cx := hide hx
  have CM := hide cM
  have CI := hide cI
  have CR := hide cR
  have CQ := hide cQ
  have CL := hide cL
  have CX := hide cX
  have HM := hide hM
  have HRES := hide hRES
  have HR := hide hr
  clear hx cM cI cR cQ cL cX hM hRES hr
  have hram := HM.out.ram
  go_enter Tryd.func41, Tryd.ntmps41
  go_wp2
  go_step3
  go_wp2_with (first | (go_at_call 29; (with_reducible refine (CM.out _).mono ?_); rintro e w' ⟨rfl, n1, rfl⟩) | (go_at_call 71; (with_reducible refine (Cx.out _ ?_).mono ?_); (focus (repeat (with_reducible first | assumption | refine c_dr _ ?_ | refine c_d1 ?_ | refine c_al _ ?_ | (refine c_set ?_ ?_; focus (dsimp only; omega)) | (apply c_be; assumption)))); rintro e w' ⟨rfl, n2, rfl⟩))
  go_step3
  go_wp2_with fail
  go_loopw [8, 9] (fun t i wr => ∃ p l : Nat, t = .int .u64 (p : Int) /\ i = .int .i64 (l : Int) /\ l ≤ 2 /\ p < C /\ Hid (walkV (stepM M C v l p) = RES) /\ Own wr w.heap.size 14 /\ Below w.heap.size w wr) (fun _ i _ => (intOf i).toNat)
  case atStart =>
    refine ⟨root, 2, rfl, rfl, by omega, HR.out, HRES, ?_, ?_⟩
    all_goals (first | with_reducible assumption | ((repeat (with_reducible first | assumption | refine c_dr _ ?_ | refine c_d1 ?_ | refine c_al _ ?_ | (refine c_set ?_ ?_; focus (dsimp only; omega)) | (apply c_be; assumption))); done) | ((repeat (first | (with_reducible first | assumption | refine o_dr _ ?_ | refine o_d1 ?_ | refine o_set ?_) | (with_reducible refine o_new ?_ ?_; (focus (simp)); (focus (simp))) | (with_reducible first | refine o_al _ ?_ | (apply o_be; assumption)))); done) | ((repeat (with_reducible first | assumption | exact Below.refl _ _ | refine Below.drew ?_ | refine below_drewN ?_ _ | refine bw_alloc ?_ _ | (refine bw_set ?_ ?_ _; focus (dsimp only; omega)) | (apply bw_behind; assumption))); done) | (simp [go_sem, *]; omega) | (simp (maxDischargeDepth := 4) [go_sem, *]; done))
  case round =>
    obtain ⟨p, l, rfl, rfl, hl, hp, hs, ho, hB⟩ := hrel
    have hs := hs.out
    have hram := c_be hB hram
    cases l with
    | zero => as_aux_lemma =>
      rw [walkV_0] at hs
      rw [show ((0 : Nat) : Int) = 0 from rfl]
      have hidx := idx_lt v (0 : Int)
      have c1 := fun W => CI.out (0 : Int) W
      have c2 := fun W => CR.out p (idx v (0 : Int)) W hp hidx
      obtain ⟨k, hk⟩ : ∃ k, idx v (0 : Int) = k := ⟨_, rfl⟩
      rw [hk] at c1 c2 hs hidx
      obtain ⟨x, hx⟩ : ∃ x, M p k = x := ⟨_, rfl⟩
      rw [hx] at c2 hs
      clear hk hx
      unfold goodQ at hs
      have c3 := fun W => CQ.out (x.getLsbD 0) (x.getLsbD 1) (x.getLsbD 2) (x.getLsbD 3) (x.getLsbD 4) (x.getLsbD 5) (x.getLsbD 6) (x.getLsbD 7) (x.getLsbD 58) (x.getLsbD 59) (x.getLsbD 60) (x.getLsbD 61) (getB x 10 44) W
      have c4 := fun W => CL.out (x.getLsbD 0) (x.getLsbD 1) (x.getLsbD 2) (x.getLsbD 3) (x.getLsbD 4) (x.getLsbD 5) (x.getLsbD 6) (x.getLsbD 7) (x.getLsbD 58) (x.getLsbD 59) (x.getLsbD 60) (x.getLsbD 61) (getB x 10 44) W
      have c5 := fun W => CX.out ((getB x 10 44).toNat : Int) W
      rw [show decide (((getB x 10 44).toNat : Int) < (C : Int)) = decide ((getB x 10 44).toNat < C) by simp] at c5
      obtain ⟨X, hX⟩ : ∃ X, decide ((getB x 10 44).toNat < C) = X := ⟨_, rfl⟩
      rw [hX] at c5 hs
      generalize (x.getLsbD 0) = b0 at *
      generalize (x.getLsbD 1) = b1 at *
      generalize (x.getLsbD 2) = b2 at *
      generalize (x.getLsbD 3) = b3 at *
      generalize (x.getLsbD 4) = b4 at *
      generalize (x.getLsbD 5) = b5 at *
      generalize (x.getLsbD 6) = b6 at *
      generalize (x.getLsbD 7) = b7 at *
      generalize (x.getLsbD 58) = b8 at *
      generalize (x.getLsbD 59) = b9 at *
      generalize (x.getLsbD 60) = b10 at *
      generalize (x.getLsbD 61) = b11 at *
      generalize getB x 10 44 = F at *
      clear x
      obtain ⟨Q, hQ⟩ : ∃ Q, rightQ b0 b1 b2 b3 b4 b5 b6 b7 b8 b9 b10 b11 (F.toNat : Int) = Q := ⟨_, rfl⟩
      rw [hQ] at c3 hs
      obtain ⟨L, hL⟩ : ∃ L, (b0 && (b1 || b2 || b3)) = L := ⟨_, rfl⟩
      rw [hL] at c4 hs
      clear hQ hL
      obtain ⟨A, hA⟩ : ∃ A : Nat, p * 4096 + 8 * k = A := ⟨_, rfl⟩
      rw [hA] at c2 hs
      clear hA hidx
      have D1 := hide c1
      have D2 := hide c2
      have D3 := hide c3
      have D4 := hide c4
      have D5 := hide c5
      have HA := hide HM.out
      have hT1 := hide (hT.behind hB)
      have hM1 := hide (mw_be hB HM.out)
      clear c1 c2 c3 c4 c5
      cases b0 with
      | false =>
        have hs := pick_no hs (by simp)
        subst hs
        go_wp2_with (first | ((refine wpList_store_row rfl 34 _ _ rfl w.heap.size 14 _ rfl rfl rfl ?_ ?_ ?_ ?_); (focus (repeat (first | (with_reducible first | assumption | refine o_dr _ ?_ | refine o_d1 ?_ | refine o_set ?_) | (with_reducible refine o_new ?_ ?_; (focus (simp)); (focus (simp))) | (with_reducible first | refine o_al _ ?_ | (apply o_be; assumption))))); (focus (exact infoF)); (focus (simp [Value.oneCell'])); intro ws hrs hbs _ _ _; have q0 := hrs 0 _ rfl; have q1 := hrs 1 _ rfl; have q2 := hrs 2 _ rfl; have q3 := hrs 3 _ rfl; have q4 := hrs 4 _ rfl; have q5 := hrs 5 _ rfl; have q6 := hrs 6 _ rfl; have q7 := hrs 7 _ rfl; have q8 := hrs 8 _ rfl; have q9 := hrs 9 _ rfl; have q10 := hrs 10 _ rfl; have q11 := hrs 11 _ rfl; have q12 := hrs 12 _ rfl; have q13 := hrs 13 _ rfl; clear hrs) | (go_at_call 73; (with_reducible refine (D1.out _).mono ?_); rintro e w' ⟨rfl, n1, rfl⟩) | (go_at_call 72; (with_reducible refine (D2.out _ ?_ ?_).mono ?_); (refine hT1.out.behind ?_; repeat (with_reducible first | assumption | exact Below.refl _ _ | refine Below.drew ?_ | refine below_drewN ?_ _ | refine bw_alloc ?_ _ | (refine bw_set ?_ ?_ _; focus (dsimp only; omega)) | (apply bw_behind; assumption))); (focus (refine mw_be ?_ hM1.out; repeat (with_reducible first | assumption | exact Below.refl _ _ | refine Below.drew ?_ | refine below_drewN ?_ _ | refine bw_alloc ?_ _ | (refine bw_set ?_ ?_ _; focus (dsimp only; omega)) | (apply bw_behind; assumption)))); rintro e wa ⟨rfl, hba⟩; obtain ⟨hra, hha, ma, hsa⟩ := bl_all hba) | (go_at_call 74; (with_reducible refine (D3.out _ ?_).mono ?_); (refine hT1.out.behind ?_; repeat (with_reducible first | assumption | exact Below.refl _ _ | refine Below.drew ?_ | refine below_drewN ?_ _ | refine bw_alloc ?_ _ | (refine bw_set ?_ ?_ _; focus (dsimp only; omega)) | (apply bw_behind; assumption))); rintro e wb ⟨rfl, hbb⟩; obtain ⟨hrb, hhb, mb, hsb⟩ := bl_all hbb) | (go_at_call 75; (with_reducible refine (D4.out _).mono ?_); rintro e wc ⟨rfl, hbc⟩; obtain ⟨hrc, hhc, mc, hsc⟩ := bl_all hbc) | (go_at_call 71; (with_reducible refine (D5.out _ ?_).mono ?_); (focus (repeat (with_reducible first | assumption | refine c_dr _ ?_ | refine c_d1 ?_ | refine c_al _ ?_ | (refine c_set ?_ ?_; focus (dsimp only; omega)) | (apply c_be; assumption)))); rintro e w' ⟨rfl, n2, rfl⟩))
        refine bodyPost_ret (v := .tuple #[.agg #[.bool false, .bool false, .bool false, .bool false, .bool false, .bool false, .bool false, .bool false, .bool false, .bool false, .bool false, .bool false, .int .u64 0, .int .u64 0], .int .i64 1]) (by simp (maxDischargeDepth := 4) [results, Tryd.results41, go_sem, *]) rfl ?_
        refine ⟨rfl, ?_⟩
        refine Below.trans ?_ hbs
        repeat (with_reducible first | assumption | exact Below.refl _ _ | refine Below.drew ?_ | refine below_drewN ?_ _ | refine bw_alloc ?_ _ | (refine bw_set ?_ ?_ _; focus (dsimp only; omega)) | (apply bw_behind; assumption))
      | true =>
        cases Q with
        | false =>
          have hs := pick_no hs (by simp)
          subst hs
          go_wp2_with (first | ((refine wpList_store_row rfl 34 _ _ rfl w.heap.size 14 _ rfl rfl rfl ?_ ?_ ?_ ?_); (focus (repeat (first | (with_reducible first | assumption | refine o_dr _ ?_ | refine o_d1 ?_ | refine o_set ?_) | (with_reducible refine o_new ?_ ?_; (focus (simp)); (focus (simp))) | (with_reducible first | refine o_al _ ?_ | (apply o_be; assumption))))); (focus (exact infoF)); (focus (simp [Value.oneCell'])); intro ws hrs hbs _ _ _; have q0 := hrs 0 _ rfl; have q1 := hrs 1 _ rfl; have q2 := hrs 2 _ rfl; have q3 := hrs 3 _ rfl; have q4 := hrs 4 _ rfl; have q5 := hrs 5 _ rfl; have q6 := hrs 6 _ rfl; have q7 := hrs 7 _ rfl; have q8 := hrs 8 _ rfl; have q9 := hrs 9 _ rfl; have q10 := hrs 10 _ rfl; have q11 := hrs 11 _ rfl; have q12 := hrs 12 _ rfl; have q13 := hrs 13 _ rfl; clear hrs) | (go_at_call 73; (with_reducible refine (D1.out _).mono ?_); rintro e w' ⟨rfl, n1, rfl⟩) | (go_at_call 72; (with_reducible refine (D2.out _ ?_ ?_).mono ?_); (refine hT1.out.behind ?_; repeat (with_reducible first | assumption | exact Below.refl _ _ | refine Below.drew ?_ | refine below_drewN ?_ _ | refine bw_alloc ?_ _ | (refine bw_set ?_ ?_ _; focus (dsimp only; omega)) | (apply bw_behind; assumption))); (focus (refine mw_be ?_ hM1.out; repeat (with_reducible first | assumption | exact Below.refl _ _ | refine Below.drew ?_ | refine below_drewN ?_ _ | refine bw_alloc ?_ _ | (refine bw_set ?_ ?_ _; focus (dsimp only; omega)) | (apply bw_behind; assumption)))); rintro e wa ⟨rfl, hba⟩; obtain ⟨hra, hha, ma, hsa⟩ := bl_all hba) | (go_at_call 74; (with_reducible refine (D3.out _ ?_).mono ?_); (refine hT1.out.behind ?_; repeat (with_reducible first | assumption | exact Below.refl _ _ | refine Below.drew ?_ | refine below_drewN ?_ _ | refine bw_alloc ?_ _ | (refine bw_set ?_ ?_ _; focus (dsimp only; omega)) | (apply bw_behind; assumption))); rintro e wb ⟨rfl, hbb⟩; obtain ⟨hrb, hhb, mb, hsb⟩ := bl_all hbb) | (go_at_call 75; (with_reducible refine (D4.out _).mono ?_); rintro e wc ⟨rfl, hbc⟩; obtain ⟨hrc, hhc, mc, hsc⟩ := bl_all hbc) | (go_at_call 71; (with_reducible refine (D5.out _ ?_).mono ?_); (focus (repeat (with_reducible first | assumption | refine c_dr _ ?_ | refine c_d1 ?_ | refine c_al _ ?_ | (refine c_set ?_ ?_; focus (dsimp only; omega)) | (apply c_be; assumption)))); rintro e w' ⟨rfl, n2, rfl⟩))
          refine bodyPost_ret (v := .tuple #[.agg #[.bool false, .bool false, .bool false, .bool false, .bool false, .bool false, .bool false, .bool false, .bool false, .bool false, .bool false, .bool false, .int .u64 0, .int .u64 0], .int .i64 1]) (by simp (maxDischargeDepth := 4) [results, Tryd.results41, go_sem, *]) rfl ?_
          refine ⟨rfl, ?_⟩
          refine Below.trans ?_ hbs
          repeat (with_reducible first | assumption | exact Below.refl _ _ | refine Below.drew ?_ | refine below_drewN ?_ _ | refine bw_alloc ?_ _ | (refine bw_set ?_ ?_ _; focus (dsimp only; omega)) | (apply bw_behind; assumption))
        | true =>
          cases L with
          | false =>
            have hs := pick_no hs (by simp)
            subst hs
            go_wp2_with (first | ((refine wpList_store_row rfl 34 _ _ rfl w.heap.size 14 _ rfl rfl rfl ?_ ?_ ?_ ?_); (focus (repeat (first | (with_reducible first | assumption | refine o_dr _ ?_ | refine o_d1 ?_ | refine o_set ?_) | (with_reducible refine o_new ?_ ?_; (focus (simp)); (focus (simp))) | (with_reducible first | refine o_al _ ?_ | (apply o_be; assumption))))); (focus (exact infoF)); (focus (simp [Value.oneCell'])); intro ws hrs hbs _ _ _; have q0 := hrs 0 _ rfl; have q1 := hrs 1 _ rfl; have q2 := hrs 2 _ rfl; have q3 := hrs 3 _ rfl; have q4 := hrs 4 _ rfl; have q5 := hrs 5 _ rfl; have q6 := hrs 6 _ rfl; have q7 := hrs 7 _ rfl; have q8 := hrs 8 _ rfl; have q9 := hrs 9 _ rfl; have q10 := hrs 10 _ rfl; have q11 := hrs 11 _ rfl; have q12 := hrs 12 _ rfl; have q13 := hrs 13 _ rfl; clear hrs) | (go_at_call 73; (with_reducible refine (D1.out _).mono ?_); rintro e w' ⟨rfl, n1, rfl⟩) | (go_at_call 72; (with_reducible refine (D2.out _ ?_ ?_).mono ?_); (refine hT1.out.behind ?_; repeat (with_reducible first | assumption | exact Below.refl _ _ | refine Below.drew ?_ | refine below_drewN ?_ _ | refine bw_alloc ?_ _ | (refine bw_set ?_ ?_ _; focus (dsimp only; omega)) | (apply bw_behind; assumption))); (focus (refine mw_be ?_ hM1.out; repeat (with_reducible first | assumption | exact Below.refl _ _ | refine Below.drew ?_ | refine below_drewN ?_ _ | refine bw_alloc ?_ _ | (refine bw_set ?_ ?_ _; focus (dsimp only; omega)) | (apply bw_behind; assumption)))); rintro e wa ⟨rfl, hba⟩; obtain ⟨hra, hha, ma, hsa⟩ := bl_all hba) | (go_at_call 74; (with_reducible refine (D3.out _ ?_).mono ?_); (refine hT1.out.behind ?_; repeat (with_reducible first | assumption | exact Below.refl _ _ | refine Below.drew ?_ | refine below_drewN ?_ _ | refine bw_alloc ?_ _ | (refine bw_set ?_ ?_ _; focus (dsimp only; omega)) | (apply bw_behind; assumption))); rintro e wb ⟨rfl, hbb⟩; obtain ⟨hrb, hhb, mb, hsb⟩ := bl_all hbb) | (go_at_call 75; (with_reducible refine (D4.out _).mono ?_); rintro e wc ⟨rfl, hbc⟩; obtain ⟨hrc, hhc, mc, hsc⟩ := bl_all hbc) | (go_at_call 71; (with_reducible refine (D5.out _ ?_).mono ?_); (focus (repeat (with_reducible first | assumption | refine c_dr _ ?_ | refine c_d1 ?_ | refine c_al _ ?_ | (refine c_set ?_ ?_; focus (dsimp only; omega)) | (apply c_be; assumption)))); rintro e w' ⟨rfl, n2, rfl⟩))
            refine bodyPost_ret (v := .tuple #[.agg #[.bool false, .bool false, .bool false, .bool false, .bool false, .bool false, .bool false, .bool false, .bool false, .bool false, .bool false, .bool false, .int .u64 0, .int .u64 0], .int .i64 1]) (by simp (maxDischargeDepth := 4) [results, Tryd.results41, go_sem, *]) rfl ?_
            refine ⟨rfl, ?_⟩
            refine Below.trans ?_ hbs
            repeat (with_reducible first | assumption | exact Below.refl _ _ | refine Below.drew ?_ | refine below_drewN ?_ _ | refine bw_alloc ?_ _ | (refine bw_set ?_ ?_ _; focus (dsimp only; omega)) | (apply bw_behind; assumption))
          | true =>
            cases X with
            | false =>
              have hs := pick_no hs (by simp)
              subst hs
              go_wp2_with (first | ((refine wpList_store_row rfl 34 _ _ rfl w.heap.size 14 _ rfl rfl rfl ?_ ?_ ?_ ?_); (focus (repeat (first | (with_reducible first | assumption | refine o_dr _ ?_ | refine o_d1 ?_ | refine o_set ?_) | (with_reducible refine o_new ?_ ?_; (focus (simp)); (focus (simp))) | (with_reducible first | refine o_al _ ?_ | (apply o_be; assumption))))); (focus (exact infoF)); (focus (simp [Value.oneCell'])); intro ws hrs hbs _ _ _; have q0 := hrs 0 _ rfl; have q1 := hrs 1 _ rfl; have q2 := hrs 2 _ rfl; have q3 := hrs 3 _ rfl; have q4 := hrs 4 _ rfl; have q5 := hrs 5 _ rfl; have q6 := hrs 6 _ rfl; have q7 := hrs 7 _ rfl; have q8 := hrs 8 _ rfl; have q9 := hrs 9 _ rfl; have q10 := hrs 10 _ rfl; have q11 := hrs 11 _ rfl; have q12 := hrs 12 _ rfl; have q13 := hrs 13 _ rfl; clear hrs) | (go_at_call 73; (with_reducible refine (D1.out _).mono ?_); rintro e w' ⟨rfl, n1, rfl⟩) | (go_at_call 72; (with_reducible refine (D2.out _ ?_ ?_).mono ?_); (refine hT1.out.behind ?_; repeat (with_reducible first | assumption | exact Below.refl _ _ | refine Below.drew ?_ | refine below_drewN ?_ _ | refine bw_alloc ?_ _ | (refine bw_set ?_ ?_ _; focus (dsimp only; omega)) | (apply bw_behind; assumption))); (focus (refine mw_be ?_ hM1.out; repeat (with_reducible first | assumption | exact Below.refl _ _ | refine Below.drew ?_ | refine below_drewN ?_ _ | refine bw_alloc ?_ _ | (refine bw_set ?_ ?_ _; focus (dsimp only; omega)) | (apply bw_behind; assumption)))); rintro e wa ⟨rfl, hba⟩; obtain ⟨hra, hha, ma, hsa⟩ := bl_all hba) | (go_at_call 74; (with_reducible refine (D3.out _ ?_).mono ?_); (refine hT1.out.behind ?_; repeat (with_reducible first | assumption | exact Below.refl _ _ | refine Below.drew ?_ | refine below_drewN ?_ _ | refine bw_alloc ?_ _ | (refine bw_set ?_ ?_ _; focus (dsimp only; omega)) | (apply bw_behind; assumption))); rintro e wb ⟨rfl, hbb⟩; obtain ⟨hrb, hhb, mb, hsb⟩ := bl_all hbb) | (go_at_call 75; (with_reducible refine (D4.out _).mono ?_); rintro e wc ⟨rfl, hbc⟩; obtain ⟨hrc, hhc, mc, hsc⟩ := bl_all hbc) | (go_at_call 71; (with_reducible refine (D5.out _ ?_).mono ?_); (focus (repeat (with_reducible first | assumption | refine c_dr _ ?_ | refine c_d1 ?_ | refine c_al _ ?_ | (refine c_set ?_ ?_; focus (dsimp only; omega)) | (apply c_be; assumption)))); rintro e w' ⟨rfl, n2, rfl⟩))
              refine bodyPost_ret (v := .tuple #[.agg #[.bool false, .bool false, .bool false, .bool false, .bool false, .bool false, .bool false, .bool false, .bool false, .bool false, .bool false, .bool false, .int .u64 0, .int .u64 0], .int .i64 1]) (by simp (maxDischargeDepth := 4) [results, Tryd.results41, go_sem, *]) rfl ?_
              refine ⟨rfl, ?_⟩
              refine Below.trans ?_ hbs
              repeat (with_reducible first | assumption | exact Below.refl _ _ | refine Below.drew ?_ | refine below_drewN ?_ _ | refine bw_alloc ?_ _ | (refine bw_set ?_ ?_ _; focus (dsimp only; omega)) | (apply bw_behind; assumption))
            | true =>
              have hs := pick_yes hs (by simp)
              subst hs
              go_wp2_with (first | ((refine wpList_store_row rfl 34 _ _ rfl w.heap.size 14 _ rfl rfl rfl ?_ ?_ ?_ ?_); (focus (repeat (first | (with_reducible first | assumption | refine o_dr _ ?_ | refine o_d1 ?_ | refine o_set ?_) | (with_reducible refine o_new ?_ ?_; (focus (simp)); (focus (simp))) | (with_reducible first | refine o_al _ ?_ | (apply o_be; assumption))))); (focus (exact infoF)); (focus (simp [Value.oneCell'])); intro ws hrs hbs _ _ _; have q0 := hrs 0 _ rfl; have q1 := hrs 1 _ rfl; have q2 := hrs 2 _ rfl; have q3 := hrs 3 _ rfl; have q4 := hrs 4 _ rfl; have q5 := hrs 5 _ rfl; have q6 := hrs 6 _ rfl; have q7 := hrs 7 _ rfl; have q8 := hrs 8 _ rfl; have q9 := hrs 9 _ rfl; have q10 := hrs 10 _ rfl; have q11 := hrs 11 _ rfl; have q12 := hrs 12 _ rfl; have q13 := hrs 13 _ rfl; clear hrs) | (go_at_call 73; (with_reducible refine (D1.out _).mono ?_); rintro e w' ⟨rfl, n1, rfl⟩) | (go_at_call 72; (with_reducible refine (D2.out _ ?_ ?_).mono ?_); (refine hT1.out.behind ?_; repeat (with_reducible first | assumption | exact Below.refl _ _ | refine Below.drew ?_ | refine below_drewN ?_ _ | refine bw_alloc ?_ _ | (refine bw_set ?_ ?_ _; focus (dsimp only; omega)) | (apply bw_behind; assumption))); (focus (refine mw_be ?_ hM1.out; repeat (with_reducible first | assumption | exact Below.refl _ _ | refine Below.drew ?_ | refine below_drewN ?_ _ | refine bw_alloc ?_ _ | (refine bw_set ?_ ?_ _; focus (dsimp only; omega)) | (apply bw_behind; assumption)))); rintro e wa ⟨rfl, hba⟩; obtain ⟨hra, hha, ma, hsa⟩ := bl_all hba) | (go_at_call 74; (with_reducible refine (D3.out _ ?_).mono ?_); (refine hT1.out.behind ?_; repeat (with_reducible first | assumption | exact Below.refl _ _ | refine Below.drew ?_ | refine below_drewN ?_ _ | refine bw_alloc ?_ _ | (refine bw_set ?_ ?_ _; focus (dsimp only; omega)) | (apply bw_behind; assumption))); rintro e wb ⟨rfl, hbb⟩; obtain ⟨hrb, hhb, mb, hsb⟩ := bl_all hbb) | (go_at_call 75; (with_reducible refine (D4.out _).mono ?_); rintro e wc ⟨rfl, hbc⟩; obtain ⟨hrc, hhc, mc, hsc⟩ := bl_all hbc) | (go_at_call 71; (with_reducible refine (D5.out _ ?_).mono ?_); (focus (repeat (with_reducible first | assumption | refine c_dr _ ?_ | refine c_d1 ?_ | refine c_al _ ?_ | (refine c_set ?_ ?_; focus (dsimp only; omega)) | (apply c_be; assumption)))); rintro e w' ⟨rfl, n2, rfl⟩))
              refine bodyPost_ret (v := .tuple #[.agg #[.bool true, .bool b1, .bool b2, .bool b3, .bool b4, .bool b5, .bool b6, .bool b7, .bool b8, .bool b9, .bool b10, .bool b11, .int .u64 (F.toNat : Int), .int .u64 (A : Int)], .int .i64 0]) (by simp (maxDischargeDepth := 4) [results, Tryd.results41, go_sem, *]) rfl ?_
              refine ⟨rfl, ?_⟩
              refine Below.trans ?_ hbs
              repeat (with_reducible first | assumption | exact Below.refl _ _ | refine Below.drew ?_ | refine below_drewN ?_ _ | refine bw_alloc ?_ _ | (refine bw_set ?_ ?_ _; focus (dsimp only; omega)) | (apply bw_behind; assumption))
    | succ l => as_aux_lemma =>
      rw [walkV_s] at hs
      obtain ⟨J, hJ⟩ : ∃ J : Int, ((l + 1 : Nat) : Int) = J := ⟨_, rfl⟩
      rw [hJ] at hs ⊢
      have j1 : (J == 0) = false := by simp; omega
      have j2 : IntKind.i64.wrap (J - 1) = (l : Int) := by rw [IntKind.wrap_i64]; omega
      have j3 : RowKit.wrap64 (J - 1) = (l : Int) := by unfold RowKit.wrap64; omega
      have HJ := hide hJ
      clear hJ
      have hidx := idx_lt v (J : Int)
      have c1 := fun W => CI.out (J : Int) W
      have c2 := fun W => CR.out p (idx v (J : Int)) W hp hidx
      obtain ⟨k, hk⟩ : ∃ k, idx v (J : Int) = k := ⟨_, rfl⟩
      rw [hk] at c1 c2 hs hidx
      obtain ⟨x, hx⟩ : ∃ x, M p k = x := ⟨_, rfl⟩
      rw [hx] at c2 hs
      clear hk hx
      unfold goodQ at hs
      have c3 := fun W => CQ.out (x.getLsbD 0) (x.getLsbD 1) (x.getLsbD 2) (x.getLsbD 3) (x.getLsbD 4) (x.getLsbD 5) (x.getLsbD 6) (x.getLsbD 7) (x.getLsbD 58) (x.getLsbD 59) (x.getLsbD 60) (x.getLsbD 61) (getB x 10 44) W
      have c4 := fun W => CL.out (x.getLsbD 0) (x.getLsbD 1) (x.getLsbD 2) (x.getLsbD 3) (x.getLsbD 4) (x.getLsbD 5) (x.getLsbD 6) (x.getLsbD 7) (x.getLsbD 58) (x.getLsbD 59) (x.getLsbD 60) (x.getLsbD 61) (getB x 10 44) W
      have c5 := fun W => CX.out ((getB x 10 44).toNat : Int) W
      rw [show decide (((getB x 10 44).toNat : Int) < (C : Int)) = decide ((getB x 10 44).toNat < C) by simp] at c5
      obtain ⟨X, hX⟩ : ∃ X, decide ((getB x 10 44).toNat < C) = X := ⟨_, rfl⟩
      rw [hX] at c5 hs
      generalize (x.getLsbD 0) = b0 at *
      generalize (x.getLsbD 1) = b1 at *
      generalize (x.getLsbD 2) = b2 at *
      generalize (x.getLsbD 3) = b3 at *
      generalize (x.getLsbD 4) = b4 at *
      generalize (x.getLsbD 5) = b5 at *
      generalize (x.getLsbD 6) = b6 at *
      generalize (x.getLsbD 7) = b7 at *
      generalize (x.getLsbD 58) = b8 at *
      generalize (x.getLsbD 59) = b9 at *
      generalize (x.getLsbD 60) = b10 at *
      generalize (x.getLsbD 61) = b11 at *
      generalize getB x 10 44 = F at *
      clear x
      obtain ⟨Q, hQ⟩ : ∃ Q, rightQ b0 b1 b2 b3 b4 b5 b6 b7 b8 b9 b10 b11 (F.toNat : Int) = Q := ⟨_, rfl⟩
      rw [hQ] at c3 hs
      obtain ⟨L, hL⟩ : ∃ L, (b0 && (b1 || b2 || b3)) = L := ⟨_, rfl⟩
      rw [hL] at c4 hs
      clear hQ hL
      obtain ⟨A, hA⟩ : ∃ A : Nat, p * 4096 + 8 * k = A := ⟨_, rfl⟩
      rw [hA] at c2
      clear hA hidx
      have D1 := hide c1
      have D2 := hide c2
      have D3 := hide c3
      have D4 := hide c4
      have D5 := hide c5
      have HA := hide HM.out
      have hT1 := hide (hT.behind hB)
      have hM1 := hide (mw_be hB HM.out)
      clear c1 c2 c3 c4 c5
      cases b0 with
      | false =>
        have hs := pick_no hs (by simp)
        subst hs
        go_wp2_with (first | ((refine wpList_store_row rfl 34 _ _ rfl w.heap.size 14 _ rfl rfl rfl ?_ ?_ ?_ ?_); (focus (repeat (first | (with_reducible first | assumption | refine o_dr _ ?_ | refine o_d1 ?_ | refine o_set ?_) | (with_reducible refine o_new ?_ ?_; (focus (simp)); (focus (simp))) | (with_reducible first | refine o_al _ ?_ | (apply o_be; assumption))))); (focus (exact infoF)); (focus (simp [Value.oneCell'])); intro ws hrs hbs _ _ _; have q0 := hrs 0 _ rfl; have q1 := hrs 1 _ rfl; have q2 := hrs 2 _ rfl; have q3 := hrs 3 _ rfl; have q4 := hrs 4 _ rfl; have q5 := hrs 5 _ rfl; have q6 := hrs 6 _ rfl; have q7 := hrs 7 _ rfl; have q8 := hrs 8 _ rfl; have q9 := hrs 9 _ rfl; have q10 := hrs 10 _ rfl; have q11 := hrs 11 _ rfl; have q12 := hrs 12 _ rfl; have q13 := hrs 13 _ rfl; clear hrs) | (go_at_call 73; (with_reducible refine (D1.out _).mono ?_); rintro e w' ⟨rfl, n1, rfl⟩) | (go_at_call 72; (with_reducible refine (D2.out _ ?_ ?_).mono ?_); (refine hT1.out.behind ?_; repeat (with_reducible first | assumption | exact Below.refl _ _ | refine Below.drew ?_ | refine below_drewN ?_ _ | refine bw_alloc ?_ _ | (refine bw_set ?_ ?_ _; focus (dsimp only; omega)) | (apply bw_behind; assumption))); (focus (refine mw_be ?_ hM1.out; repeat (with_reducible first | assumption | exact Below.refl _ _ | refine Below.drew ?_ | refine below_drewN ?_ _ | refine bw_alloc ?_ _ | (refine bw_set ?_ ?_ _; focus (dsimp only; omega)) | (apply bw_behind; assumption)))); rintro e wa ⟨rfl, hba⟩; obtain ⟨hra, hha, ma, hsa⟩ := bl_all hba) | (go_at_call 74; (with_reducible refine (D3.out _ ?_).mono ?_); (refine hT1.out.behind ?_; repeat (with_reducible first | assumption | exact Below.refl _ _ | refine Below.drew ?_ | refine below_drewN ?_ _ | refine bw_alloc ?_ _ | (refine bw_set ?_ ?_ _; focus (dsimp only; omega)) | (apply bw_behind; assumption))); rintro e wb ⟨rfl, hbb⟩; obtain ⟨hrb, hhb, mb, hsb⟩ := bl_all hbb) | (go_at_call 75; (with_reducible refine (D4.out _).mono ?_); rintro e wc ⟨rfl, hbc⟩; obtain ⟨hrc, hhc, mc, hsc⟩ := bl_all hbc) | (go_at_call 71; (with_reducible refine (D5.out _ ?_).mono ?_); (focus (repeat (with_reducible first | assumption | refine c_dr _ ?_ | refine c_d1 ?_ | refine c_al _ ?_ | (refine c_set ?_ ?_; focus (dsimp only; omega)) | (apply c_be; assumption)))); rintro e w' ⟨rfl, n2, rfl⟩))
        refine bodyPost_ret (v := .tuple #[.agg #[.bool false, .bool false, .bool false, .bool false, .bool false, .bool false, .bool false, .bool false, .bool false, .bool false, .bool false, .bool false, .int .u64 0, .int .u64 0], .int .i64 1]) (by simp (maxDischargeDepth := 4) [results, Tryd.results41, go_sem, *]) rfl ?_
        refine ⟨rfl, ?_⟩
        refine Below.trans ?_ hbs
        repeat (with_reducible first | assumption | exact Below.refl _ _ | refine Below.drew ?_ | refine below_drewN ?_ _ | refine bw_alloc ?_ _ | (refine bw_set ?_ ?_ _; focus (dsimp only; omega)) | (apply bw_behind; assumption))
      | true =>
        cases Q with
        | false =>
          have hs := pick_no hs (by simp)
          subst hs
          go_wp2_with (first | ((refine wpList_store_row rfl 34 _ _ rfl w.heap.size 14 _ rfl rfl rfl ?_ ?_ ?_ ?_); (focus (repeat (first | (with_reducible first | assumption | refine o_dr _ ?_ | refine o_d1 ?_ | refine o_set ?_) | (with_reducible refine o_new ?_ ?_; (focus (simp)); (focus (simp))) | (with_reducible first | refine o_al _ ?_ | (apply o_be; assumption))))); (focus (exact infoF)); (focus (simp [Value.oneCell'])); intro ws hrs hbs _ _ _; have q0 := hrs 0 _ rfl; have q1 := hrs 1 _ rfl; have q2 := hrs 2 _ rfl; have q3 := hrs 3 _ rfl; have q4 := hrs 4 _ rfl; have q5 := hrs 5 _ rfl; have q6 := hrs 6 _ rfl; have q7 := hrs 7 _ rfl; have q8 := hrs 8 _ rfl; have q9 := hrs 9 _ rfl; have q10 := hrs 10 _ rfl; have q11 := hrs 11 _ rfl; have q12 := hrs 12 _ rfl; have q13 := hrs 13 _ rfl; clear hrs) | (go_at_call 73; (with_reducible refine (D1.out _).mono ?_); rintro e w' ⟨rfl, n1, rfl⟩) | (go_at_call 72; (with_reducible refine (D2.out _ ?_ ?_).mono ?_); (refine hT1.out.behind ?_; repeat (with_reducible first | assumption | exact Below.refl _ _ | refine Below.drew ?_ | refine below_drewN ?_ _ | refine bw_alloc ?_ _ | (refine bw_set ?_ ?_ _; focus (dsimp only; omega)) | (apply bw_behind; assumption))); (focus (refine mw_be ?_ hM1.out; repeat (with_reducible first | assumption | exact Below.refl _ _ | refine Below.drew ?_ | refine below_drewN ?_ _ | refine bw_alloc ?_ _ | (refine bw_set ?_ ?_ _; focus (dsimp only; omega)) | (apply bw_behind; assumption)))); rintro e wa ⟨rfl, hba⟩; obtain ⟨hra, hha, ma, hsa⟩ := bl_all hba) | (go_at_call 74; (with_reducible refine (D3.out _ ?_).mono ?_); (refine hT1.out.behind ?_; repeat (with_reducible first | assumption | exact Below.refl _ _ | refine Below.drew ?_ | refine below_drewN ?_ _ | refine bw_alloc ?_ _ | (refine bw_set ?_ ?_ _; focus (dsimp only; omega)) | (apply bw_behind; assumption))); rintro e wb ⟨rfl, hbb⟩; obtain ⟨hrb, hhb, mb, hsb⟩ := bl_all hbb) | (go_at_call 75; (with_reducible refine (D4.out _).mono ?_); rintro e wc ⟨rfl, hbc⟩; obtain ⟨hrc, hhc, mc, hsc⟩ := bl_all hbc) | (go_at_call 71; (with_reducible refine (D5.out _ ?_).mono ?_); (focus (repeat (with_reducible first | assumption | refine c_dr _ ?_ | refine c_d1 ?_ | refine c_al _ ?_ | (refine c_set ?_ ?_; focus (dsimp only; omega)) | (apply c_be; assumption)))); rintro e w' ⟨rfl, n2, rfl⟩))
          refine bodyPost_ret (v := .tuple #[.agg #[.bool false, .bool false, .bool false, .bool false, .bool false, .bool false, .bool false, .bool false, .bool false, .bool false, .bool false, .bool false, .int .u64 0, .int .u64 0], .int .i64 1]) (by simp (maxDischargeDepth := 4) [results, Tryd.results41, go_sem, *]) rfl ?_
          refine ⟨rfl, ?_⟩
          refine Below.trans ?_ hbs
          repeat (with_reducible first | assumption | exact Below.refl _ _ | refine Below.drew ?_ | refine below_drewN ?_ _ | refine bw_alloc ?_ _ | (refine bw_set ?_ ?_ _; focus (dsimp only; omega)) | (apply bw_behind; assumption))
        | true =>
          cases L with
          | true =>
            have hs := pick_no hs (by simp)
            subst hs
            go_wp2_with (first | ((refine wpList_store_row rfl 34 _ _ rfl w.heap.size 14 _ rfl rfl rfl ?_ ?_ ?_ ?_); (focus (repeat (first | (with_reducible first | assumption | refine o_dr _ ?_ | refine o_d1 ?_ | refine o_set ?_) | (with_reducible refine o_new ?_ ?_; (focus (simp)); (focus (simp))) | (with_reducible first | refine o_al _ ?_ | (apply o_be; assumption))))); (focus (exact infoF)); (focus (simp [Value.oneCell'])); intro ws hrs hbs _ _ _; have q0 := hrs 0 _ rfl; have q1 := hrs 1 _ rfl; have q2 := hrs 2 _ rfl; have q3 := hrs 3 _ rfl; have q4 := hrs 4 _ rfl; have q5 := hrs 5 _ rfl; have q6 := hrs 6 _ rfl; have q7 := hrs 7 _ rfl; have q8 := hrs 8 _ rfl; have q9 := hrs 9 _ rfl; have q10 := hrs 10 _ rfl; have q11 := hrs 11 _ rfl; have q12 := hrs 12 _ rfl; have q13 := hrs 13 _ rfl; clear hrs) | (go_at_call 73; (with_reducible refine (D1.out _).mono ?_); rintro e w' ⟨rfl, n1, rfl⟩) | (go_at_call 72; (with_reducible refine (D2.out _ ?_ ?_).mono ?_); (refine hT1.out.behind ?_; repeat (with_reducible first | assumption | exact Below.refl _ _ | refine Below.drew ?_ | refine below_drewN ?_ _ | refine bw_alloc ?_ _ | (refine bw_set ?_ ?_ _; focus (dsimp only; omega)) | (apply bw_behind; assumption))); (focus (refine mw_be ?_ hM1.out; repeat (with_reducible first | assumption | exact Below.refl _ _ | refine Below.drew ?_ | refine below_drewN ?_ _ | refine bw_alloc ?_ _ | (refine bw_set ?_ ?_ _; focus (dsimp only; omega)) | (apply bw_behind; assumption)))); rintro e wa ⟨rfl, hba⟩; obtain ⟨hra, hha, ma, hsa⟩ := bl_all hba) | (go_at_call 74; (with_reducible refine (D3.out _ ?_).mono ?_); (refine hT1.out.behind ?_; repeat (with_reducible first | assumption | exact Below.refl _ _ | refine Below.drew ?_ | refine below_drewN ?_ _ | refine bw_alloc ?_ _ | (refine bw_set ?_ ?_ _; focus (dsimp only; omega)) | (apply bw_behind; assumption))); rintro e wb ⟨rfl, hbb⟩; obtain ⟨hrb, hhb, mb, hsb⟩ := bl_all hbb) | (go_at_call 75; (with_reducible refine (D4.out _).mono ?_); rintro e wc ⟨rfl, hbc⟩; obtain ⟨hrc, hhc, mc, hsc⟩ := bl_all hbc) | (go_at_call 71; (with_reducible refine (D5.out _ ?_).mono ?_); (focus (repeat (with_reducible first | assumption | refine c_dr _ ?_ | refine c_d1 ?_ | refine c_al _ ?_ | (refine c_set ?_ ?_; focus (dsimp only; omega)) | (apply c_be; assumption)))); rintro e w' ⟨rfl, n2, rfl⟩))
            refine bodyPost_ret (v := .tuple #[.agg #[.bool false, .bool false, .bool false, .bool false, .bool false, .bool false, .bool false, .bool false, .bool false, .bool false, .bool false, .bool false, .int .u64 0, .int .u64 0], .int .i64 1]) (by simp (maxDischargeDepth := 4) [results, Tryd.results41, go_sem, *]) rfl ?_
            refine ⟨rfl, ?_⟩
            refine Below.trans ?_ hbs
            repeat (with_reducible first | assumption | exact Below.refl _ _ | refine Below.drew ?_ | refine below_drewN ?_ _ | refine bw_alloc ?_ _ | (refine bw_set ?_ ?_ _; focus (dsimp only; omega)) | (apply bw_behind; assumption))
          | false =>
            cases X with
            | false =>
              have hs := pick_no hs (by simp)
              subst hs
              go_wp2_with (first | ((refine wpList_store_row rfl 34 _ _ rfl w.heap.size 14 _ rfl rfl rfl ?_ ?_ ?_ ?_); (focus (repeat (first | (with_reducible first | assumption | refine o_dr _ ?_ | refine o_d1 ?_ | refine o_set ?_) | (with_reducible refine o_new ?_ ?_; (focus (simp)); (focus (simp))) | (with_reducible first | refine o_al _ ?_ | (apply o_be; assumption))))); (focus (exact infoF)); (focus (simp [Value.oneCell'])); intro ws hrs hbs _ _ _; have q0 := hrs 0 _ rfl; have q1 := hrs 1 _ rfl; have q2 := hrs 2 _ rfl; have q3 := hrs 3 _ rfl; have q4 := hrs 4 _ rfl; have q5 := hrs 5 _ rfl; have q6 := hrs 6 _ rfl; have q7 := hrs 7 _ rfl; have q8 := hrs 8 _ rfl; have q9 := hrs 9 _ rfl; have q10 := hrs 10 _ rfl; have q11 := hrs 11 _ rfl; have q12 := hrs 12 _ rfl; have q13 := hrs 13 _ rfl; clear hrs) | (go_at_call 73; (with_reducible refine (D1.out _).mono ?_); rintro e w' ⟨rfl, n1, rfl⟩) | (go_at_call 72; (with_reducible refine (D2.out _ ?_ ?_).mono ?_); (refine hT1.out.behind ?_; repeat (with_reducible first | assumption | exact Below.refl _ _ | refine Below.drew ?_ | refine below_drewN ?_ _ | refine bw_alloc ?_ _ | (refine bw_set ?_ ?_ _; focus (dsimp only; omega)) | (apply bw_behind; assumption))); (focus (refine mw_be ?_ hM1.out; repeat (with_reducible first | assumption | exact Below.refl _ _ | refine Below.drew ?_ | refine below_drewN ?_ _ | refine bw_alloc ?_ _ | (refine bw_set ?_ ?_ _; focus (dsimp only; omega)) | (apply bw_behind; assumption)))); rintro e wa ⟨rfl, hba⟩; obtain ⟨hra, hha, ma, hsa⟩ := bl_all hba) | (go_at_call 74; (with_reducible refine (D3.out _ ?_).mono ?_); (refine hT1.out.behind ?_; repeat (with_reducible first | assumption | exact Below.refl _ _ | refine Below.drew ?_ | refine below_drewN ?_ _ | refine bw_alloc ?_ _ | (refine bw_set ?_ ?_ _; focus (dsimp only; omega)) | (apply bw_behind; assumption))); rintro e wb ⟨rfl, hbb⟩; obtain ⟨hrb, hhb, mb, hsb⟩ := bl_all hbb) | (go_at_call 75; (with_reducible refine (D4.out _).mono ?_); rintro e wc ⟨rfl, hbc⟩; obtain ⟨hrc, hhc, mc, hsc⟩ := bl_all hbc) | (go_at_call 71; (with_reducible refine (D5.out _ ?_).mono ?_); (focus (repeat (with_reducible first | assumption | refine c_dr _ ?_ | refine c_d1 ?_ | refine c_al _ ?_ | (refine c_set ?_ ?_; focus (dsimp only; omega)) | (apply c_be; assumption)))); rintro e w' ⟨rfl, n2, rfl⟩))
              refine bodyPost_ret (v := .tuple #[.agg #[.bool false, .bool false, .bool false, .bool false, .bool false, .bool false, .bool false, .bool false, .bool false, .bool false, .bool false, .bool false, .int .u64 0, .int .u64 0], .int .i64 1]) (by simp (maxDischargeDepth := 4) [results, Tryd.results41, go_sem, *]) rfl ?_
              refine ⟨rfl, ?_⟩
              refine Below.trans ?_ hbs
              repeat (with_reducible first | assumption | exact Below.refl _ _ | refine Below.drew ?_ | refine below_drewN ?_ _ | refine bw_alloc ?_ _ | (refine bw_set ?_ ?_ _; focus (dsimp only; omega)) | (apply bw_behind; assumption))
            | true =>
              have hs := pick_yes hs (by simp)
              have hs2 := hide hs
              have hp2 : F.toNat < C := of_decide_eq_true hX
              clear hs
              go_wp2_with (first | ((refine wpList_store_row rfl 34 _ _ rfl w.heap.size 14 _ rfl rfl rfl ?_ ?_ ?_ ?_); (focus (repeat (first | (with_reducible first | assumption | refine o_dr _ ?_ | refine o_d1 ?_ | refine o_set ?_) | (with_reducible refine o_new ?_ ?_; (focus (simp)); (focus (simp))) | (with_reducible first | refine o_al _ ?_ | (apply o_be; assumption))))); (focus (exact infoF)); (focus (simp [Value.oneCell'])); intro ws hrs hbs _ _ _; have q0 := hrs 0 _ rfl; have q1 := hrs 1 _ rfl; have q2 := hrs 2 _ rfl; have q3 := hrs 3 _ rfl; have q4 := hrs 4 _ rfl; have q5 := hrs 5 _ rfl; have q6 := hrs 6 _ rfl; have q7 := hrs 7 _ rfl; have q8 := hrs 8 _ rfl; have q9 := hrs 9 _ rfl; have q10 := hrs 10 _ rfl; have q11 := hrs 11 _ rfl; have q12 := hrs 12 _ rfl; have q13 := hrs 13 _ rfl; clear hrs) | (go_at_call 73; (with_reducible refine (D1.out _).mono ?_); rintro e w' ⟨rfl, n1, rfl⟩) | (go_at_call 72; (with_reducible refine (D2.out _ ?_ ?_).mono ?_); (refine hT1.out.behind ?_; repeat (with_reducible first | assumption | exact Below.refl _ _ | refine Below.drew ?_ | refine below_drewN ?_ _ | refine bw_alloc ?_ _ | (refine bw_set ?_ ?_ _; focus (dsimp only; omega)) | (apply bw_behind; assumption))); (focus (refine mw_be ?_ hM1.out; repeat (with_reducible first | assumption | exact Below.refl _ _ | refine Below.drew ?_ | refine below_drewN ?_ _ | refine bw_alloc ?_ _ | (refine bw_set ?_ ?_ _; focus (dsimp only; omega)) | (apply bw_behind; assumption)))); rintro e wa ⟨rfl, hba⟩; obtain ⟨hra, hha, ma, hsa⟩ := bl_all hba) | (go_at_call 74; (with_reducible refine (D3.out _ ?_).mono ?_); (refine hT1.out.behind ?_; repeat (with_reducible first | assumption | exact Below.refl _ _ | refine Below.drew ?_ | refine below_drewN ?_ _ | refine bw_alloc ?_ _ | (refine bw_set ?_ ?_ _; focus (dsimp only; omega)) | (apply bw_behind; assumption))); rintro e wb ⟨rfl, hbb⟩; obtain ⟨hrb, hhb, mb, hsb⟩ := bl_all hbb) | (go_at_call 75; (with_reducible refine (D4.out _).mono ?_); rintro e wc ⟨rfl, hbc⟩; obtain ⟨hrc, hhc, mc, hsc⟩ := bl_all hbc) | (go_at_call 71; (with_reducible refine (D5.out _ ?_).mono ?_); (focus (repeat (with_reducible first | assumption | refine c_dr _ ?_ | refine c_d1 ?_ | refine c_al _ ?_ | (refine c_set ?_ ?_; focus (dsimp only; omega)) | (apply c_be; assumption)))); rintro e w' ⟨rfl, n2, rfl⟩))
              go_roundw
              case rel =>
                refine ⟨F.toNat, l, rfl, by first | rfl | go_num | (simp [*]), by omega, hp2, hs2, ?_, ?_⟩
                all_goals (first | with_reducible assumption | ((repeat (with_reducible first | assumption | refine c_dr _ ?_ | refine c_d1 ?_ | refine c_al _ ?_ | (refine c_set ?_ ?_; focus (dsimp only; omega)) | (apply c_be; assumption))); done) | ((repeat (first | (with_reducible first | assumption | refine o_dr _ ?_ | refine o_d1 ?_ | refine o_set ?_) | (with_reducible refine o_new ?_ ?_; (focus (simp)); (focus (simp))) | (with_reducible first | refine o_al _ ?_ | (apply o_be; assumption)))); done) | ((repeat (with_reducible first | assumption | exact Below.refl _ _ | refine Below.drew ?_ | refine below_drewN ?_ _ | refine bw_alloc ?_ _ | (refine bw_set ?_ ?_ _; focus (dsimp only; omega)) | (apply bw_behind; assumption))); done) | (simp [go_sem, *]; omega) | (simp (maxDischargeDepth := 4) [go_sem, *]; done))
              case measure =>
                have := HJ.out
                simp [intOf]; omega
end Go.Proofs.YtkajndonefkegaaDoor

namespace Go.Proofs.YtkajndonefkegaaDoor
open Go.RowKit Words FieldMath PteMath

theorem walk_may (R : Nat) (V T : Int) (cM : ∀ W, Calls Tryd.prog 29 #[.int .u64 V] W (Quiet (.bool false) W)) (w : World) : Calls Tryd.prog 41 #[.pointer (some ⟨R, 0, none⟩), .int .u64 T, .int .u64 V] w (Makes (.tuple #[.agg #[.bool false, .bool false, .bool false, .bool false, .bool false, .bool false, .bool false, .bool false, .bool false, .bool false, .bool false, .bool false, .int .u64 0, .int .u64 0], .int .i64 1]) w) := by
  obtain ⟨SS, LB', LS, LA', LH⟩ := rules5
  have CM := hide cM
  clear cM
  go_enter Tryd.func41, Tryd.ntmps41
  go_wp2
  go_step3
  go_wp2_with (first | (go_at_call 29; (with_reducible refine (CM.out _).mono ?_); rintro e w' ⟨rfl, n1, rfl⟩))
  refine bodyPost_ret (v := .tuple #[.agg #[.bool false, .bool false, .bool false, .bool false, .bool false, .bool false, .bool false, .bool false, .bool false, .bool false, .bool false, .bool false, .int .u64 0, .int .u64 0], .int .i64 1]) (by simp (maxDischargeDepth := 4) [results, Tryd.results41, go_sem, *]) rfl ?_
  refine ⟨rfl, ?_⟩
  repeat (with_reducible first | assumption | exact Below.refl _ _ | refine Below.drew ?_ | refine below_drewN ?_ _ | refine bw_alloc ?_ _ | (refine bw_set ?_ ?_ _; focus (dsimp only; omega)) | (apply bw_behind; assumption))

theorem walk_root (R N C : Nat) (V T : Int) (cM : ∀ W, Calls Tryd.prog 29 #[.int .u64 V] W (Quiet (.bool true) W)) (cX : ∀ W, W.cell? ⟨R, 0, none⟩ = some (.slice (some ⟨N, 0, none⟩) C C) -> Calls Tryd.prog 71 #[.pointer (some ⟨R, 0, none⟩), .int .u64 T] W (Quiet (.bool false) W)) (w : World) (hc : w.cell? ⟨R, 0, none⟩ = some (.slice (some ⟨N, 0, none⟩) C C)) : Calls Tryd.prog 41 #[.pointer (some ⟨R, 0, none⟩), .int .u64 T, .int .u64 V] w (Makes (.tuple #[.agg #[.bool false, .bool false, .bool false, .bool false, .bool false, .bool false, .bool false, .bool false, .bool false, .bool false, .bool false, .bool false, .int .u64 0, .int .u64 0], .int .i64 1]) w) := by
  obtain ⟨SS, LB', LS, LA', LH⟩ := rules5
  have CM := hide cM
  have CX := hide cX
  clear cM cX
  go_enter Tryd.func41, Tryd.ntmps41
  go_wp2
  go_step3
  go_wp2_with (first | (go_at_call 29; (with_reducible refine (CM.out _).mono ?_); rintro e w' ⟨rfl, n1, rfl⟩) | (go_at_call 71; (with_reducible refine (CX.out _ ?_).mono ?_); (focus (repeat (with_reducible first | assumption | refine c_dr _ ?_ | refine c_d1 ?_ | refine c_al _ ?_ | (refine c_set ?_ ?_; focus (dsimp only; omega)) | (apply c_be; assumption)))); rintro e w' ⟨rfl, n2, rfl⟩))
  refine bodyPost_ret (v := .tuple #[.agg #[.bool false, .bool false, .bool false, .bool false, .bool false, .bool false, .bool false, .bool false, .bool false, .bool false, .bool false, .bool false, .int .u64 0, .int .u64 0], .int .i64 1]) (by simp (maxDischargeDepth := 4) [results, Tryd.results41, go_sem, *]) rfl ?_
  refine ⟨rfl, ?_⟩
  repeat (with_reducible first | assumption | exact Below.refl _ _ | refine Below.drew ?_ | refine below_drewN ?_ _ | refine bw_alloc ?_ _ | (refine bw_set ?_ ?_ _; focus (dsimp only; omega)) | (apply bw_behind; assumption))

theorem walk_any (R N C : Nat) (hC : C ≤ 64) (M : Nat -> Nat -> BitVec 64) (root v : BitVec 64) (w : World) (hT : Tab w) (hM : MemW w R N C M) : Calls Tryd.prog 41 #[.pointer (some ⟨R, 0, none⟩), .int .u64 (root.toNat : Int), .int .u64 (v.toNat : Int)] w (Makes (walkV (walkM M C root.toNat v.toNat)) w) := by
  unfold walkM
  by_cases hv : v.toNat < 274877906944
  · have cM := fun W => may_any v W
    rw [decide_eq_true (show (v.toNat : Int) < 274877906944 by omega)] at cM
    by_cases hr : root.toNat < C
    · rw [if_pos ⟨hv, hr⟩]
      exact walk_let R N C M v.toNat _ root.toNat _ rfl cM (fun l W => index_any v l W) (fun p k W hp hk h1 h2 => read_any hp hk hC R N M W h1 h2) (fun b0 b1 b2 b3 b4 b5 b6 b7 b8 b9 b10 b11 F W h => right_any b0 b1 b2 b3 b4 b5 b6 b7 b8 b9 b10 b11 F W h) (fun b0 b1 b2 b3 b4 b5 b6 b7 b8 b9 b10 b11 F W => leaf_any b0 b1 b2 b3 b4 b5 b6 b7 b8 b9 b10 b11 F W) (fun F W h => exists_any R N C F hC W h) hr w hT hM
    · rw [if_neg (fun h => hr h.2)]
      have cX := fun W h => exists_any R N C (root.toNat : Int) hC W h
      rw [decide_eq_false (show ¬ ((root.toNat : Int) < (C : Int)) by omega)] at cX
      exact walk_root R N C _ _ cM cX w hM.ram
  · rw [if_neg (fun h => hv h.1)]
    have cM := fun W => may_any v W
    rw [decide_eq_false (show ¬ ((v.toNat : Int) < 274877906944) by omega)] at cM
    exact walk_may R _ _ cM w
end Go.Proofs.YtkajndonefkegaaDoor
