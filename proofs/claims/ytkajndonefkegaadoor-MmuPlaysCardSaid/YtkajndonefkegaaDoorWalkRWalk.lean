/-
  What the document's Walk answers: the entry of level 0 that three indices lead to, or nothing.
-/
import Derived.Test.YtkajndonefkegaaDoorWalkLaid
import Derived.Test.YtkajndonefkegaaDoorGWw
import Derived.Test.YtkajndonefkegaaDoorGWm
import Derived.Test.YtkajndonefkegaaDoorPteRef
set_option maxRecDepth 100000
set_option maxHeartbeats 64000000
namespace Go.Proofs.YtkajndonefkegaaDoor
open Go.RowKit Words FieldMath PteMath

def rwalkV : Option (BitVec 64 × Nat) -> Value
  | none => .tuple #[.agg #[.bool false, .bool false, .bool false, .bool false, .bool false, .bool false, .bool false, .bool false, .bool false, .bool false, .bool false, .bool false, .int .u64 0], .int .u64 0, .int .i64 1]
  | some (x, a) => .tuple #[.agg #[.bool (x.getLsbD 0), .bool (x.getLsbD 1), .bool (x.getLsbD 2), .bool (x.getLsbD 3), .bool (x.getLsbD 4), .bool (x.getLsbD 5), .bool (x.getLsbD 6), .bool (x.getLsbD 7), .bool (x.getLsbD 58), .bool (x.getLsbD 59), .bool (x.getLsbD 60), .bool (x.getLsbD 61), .int .u64 ((getB x 10 44).toNat : Int)], .int .u64 (a : Int), .int .i64 0]
theorem rwalkV_0 (M : Nat -> Nat -> BitVec 64) (C v p : Nat) : rwalkV (stepM M C v 0 p) = if goodQ (M p (idx v 0)) true C = true then .tuple #[.agg #[.bool ((M p (idx v 0)).getLsbD 0), .bool ((M p (idx v 0)).getLsbD 1), .bool ((M p (idx v 0)).getLsbD 2), .bool ((M p (idx v 0)).getLsbD 3), .bool ((M p (idx v 0)).getLsbD 4), .bool ((M p (idx v 0)).getLsbD 5), .bool ((M p (idx v 0)).getLsbD 6), .bool ((M p (idx v 0)).getLsbD 7), .bool ((M p (idx v 0)).getLsbD 58), .bool ((M p (idx v 0)).getLsbD 59), .bool ((M p (idx v 0)).getLsbD 60), .bool ((M p (idx v 0)).getLsbD 61), .int .u64 ((getB (M p (idx v 0)) 10 44).toNat : Int)], .int .u64 ((p * 4096 + 8 * idx v 0 : Nat) : Int), .int .i64 0] else .tuple #[.agg #[.bool false, .bool false, .bool false, .bool false, .bool false, .bool false, .bool false, .bool false, .bool false, .bool false, .bool false, .bool false, .int .u64 0], .int .u64 0, .int .i64 1] := by
  unfold stepM
  split <;> rfl
theorem rwalkV_s (M : Nat -> Nat -> BitVec 64) (C v l p : Nat) : rwalkV (stepM M C v (l + 1) p) = if goodQ (M p (idx v ((l + 1 : Nat) : Int))) false C = true then rwalkV (stepM M C v l (getB (M p (idx v ((l + 1 : Nat) : Int))) 10 44).toNat) else .tuple #[.agg #[.bool false, .bool false, .bool false, .bool false, .bool false, .bool false, .bool false, .bool false, .bool false, .bool false, .bool false, .bool false, .int .u64 0], .int .u64 0, .int .i64 1] := by
  rw [stepM]
  split <;> rfl

theorem rwalk_let (sa : Option Addr) (na ca : Nat) (sb : Option Addr) (nb cb : Nat) (LA LB : List Value) (M : Nat -> Nat -> BitVec 64) (v : Nat) (V : Int) (root : Nat) (RES : Value) (hRES : rwalkV (stepM M 8 v 2 root) = RES) (hV : V < 274877906944) (cI : ∀ l W, Calls Tryd.prog 68 #[.int .u64 V, .int .i64 l] W (Quiet (.int .i64 (idx v l : Int)) W)) (cD : ∀ p k W, p < 8 -> k < 512 -> Sl W sa na ca LA -> Sl W sb nb cb LB -> Calls Tryd.prog 24 #[.agg #[.int .i64 8, .slice sa na ca, .slice sb nb cb, .slice none 0 0], .int .u64 ((p * 4096 + 8 * k : Nat) : Int), .int .i64 8] W (Makes (.tuple #[.int .u64 ((M p k).toNat : Int), .int .i64 0]) W)) (cO : ∀ (x : BitVec 64) W, Calls Tryd.prog 69 #[.int .u64 (x.toNat : Int)] W (Makes (.agg #[.bool (x.getLsbD 0), .bool (x.getLsbD 1), .bool (x.getLsbD 2), .bool (x.getLsbD 3), .bool (x.getLsbD 4), .bool (x.getLsbD 5), .bool (x.getLsbD 6), .bool (x.getLsbD 7), .bool (x.getLsbD 58), .bool (x.getLsbD 59), .bool (x.getLsbD 60), .bool (x.getLsbD 61), .int .u64 ((getB x 10 44).toNat : Int)]) W)) (cQ : ∀ (b0 b1 b2 b3 b4 b5 b6 b7 b8 b9 b10 b11 : Bool) (F : BitVec 64) W, Calls Tryd.prog 70 #[.agg #[.bool b0, .bool b1, .bool b2, .bool b3, .bool b4, .bool b5, .bool b6, .bool b7, .bool b8, .bool b9, .bool b10, .bool b11, .int .u64 (F.toNat : Int)]] W (Makes (.bool (rightQ b0 b1 b2 b3 b4 b5 b6 b7 b8 b9 b10 b11 (F.toNat : Int))) W)) (cL : ∀ (b0 b1 b2 b3 b4 b5 b6 b7 b8 b9 b10 b11 : Bool) (F : BitVec 64) W, Calls Tryd.prog 67 #[.agg #[.bool b0, .bool b1, .bool b2, .bool b3, .bool b4, .bool b5, .bool b6, .bool b7, .bool b8, .bool b9, .bool b10, .bool b11, .int .u64 (F.toNat : Int)]] W (Makes (.bool (b0 && (b1 || b2 || b3))) W)) (hr : root < 8) (w : World) (hSA : Sl w sa na ca LA) (hSB : Sl w sb nb cb LB) :
    Calls Tryd.prog 39 #[.agg #[.int .i64 8, .slice sa na ca, .slice sb nb cb, .slice none 0 0], .int .u64 (root : Int), .int .u64 V] w (Makes RES w) := by
  obtain ⟨SS, LB', LS, LA', LH⟩ := rules5
  have CI := hide cI
  have CD := hide cD
  have CO := hide cO
  have CQ := hide cQ
  have CL := hide cL
  have HA := hide hSA
  have HB := hide hSB
  have HRES := hide hRES
  have HR := hide hr
  have hV2 : ¬ (274877906944 ≤ V) := by omega
  clear cI cD cO cQ cL hSA hSB hRES hr hV
  go_enter Tryd.func39, Tryd.ntmps39
  go_wp2
  clear hV2
  go_loopw [9, 10] (fun t i wr => ∃ p l : Nat, t = .int .u64 (p : Int) /\ i = .int .i64 (l : Int) /\ l ≤ 2 /\ p < 8 /\ Hid (rwalkV (stepM M 8 v l p) = RES) /\ wr.cell? ⟨w.heap.size, 0, none⟩ = some (.int .i64 8) /\ wr.cell? ⟨w.heap.size, 1, none⟩ = some (.slice sa na ca) /\ wr.cell? ⟨w.heap.size, 2, none⟩ = some (.slice sb nb cb) /\ wr.cell? ⟨w.heap.size, 3, none⟩ = some (.slice none 0 0) /\ Own wr (w.heap.size + 1) 13 /\ Below w.heap.size w wr) (fun _ i _ => (intOf i).toNat)
  case atStart =>
    refine ⟨root, 2, rfl, rfl, by omega, HR.out, HRES, ?_, ?_, ?_, ?_, ?_, ?_⟩
    all_goals (first | with_reducible assumption | ((repeat (with_reducible first | assumption | refine c_dr _ ?_ | refine c_d1 ?_ | refine c_al _ ?_ | (refine c_set ?_ ?_; focus (dsimp only; omega)) | (apply c_be; assumption))); done) | ((repeat (first | (with_reducible first | assumption | refine o_dr _ ?_ | refine o_d1 ?_ | refine o_set ?_) | (with_reducible refine o_new ?_ ?_; (focus (simp)); (focus (simp))) | (with_reducible first | refine o_al _ ?_ | (apply o_be; assumption)))); done) | ((repeat (with_reducible first | assumption | exact Below.refl _ _ | refine Below.drew ?_ | refine below_drewN ?_ _ | refine bw_alloc ?_ _ | (refine bw_set ?_ ?_ _; focus (dsimp only; omega)) | (apply bw_behind; assumption))); done) | (simp [go_sem, *]; omega) | (simp (maxDischargeDepth := 4) [go_sem, *]; done))
  case round =>
    obtain ⟨p, l, rfl, rfl, hl, hp, hs, q0, q1, q2, q3, ho, hB⟩ := hrel
    have hs := hs.out
    have tl : ltB w.heap.size wr.heap.size = true := decide_eq_true (World.block_lt_of_cell? wr _ q0)
    cases l with
    | zero => as_aux_lemma =>
      rw [rwalkV_0] at hs
      rw [show ((0 : Nat) : Int) = 0 from rfl]
      have hidx := idx_lt v (0 : Int)
      have c1 := fun W => CI.out (0 : Int) W
      have c2 := fun W x y => CD.out p (idx v (0 : Int)) W hp hidx x y
      have hk3 : IntKind.u64.wrap (idx v (0 : Int) : Int) = (idx v (0 : Int) : Int) := by rw [IntKind.wrap_u64]; omega
      obtain ⟨k, hk⟩ : ∃ k, idx v (0 : Int) = k := ⟨_, rfl⟩
      rw [hk] at c1 c2 hs hidx hk3
      obtain ⟨x, hx⟩ : ∃ x, M p k = x := ⟨_, rfl⟩
      rw [hx] at c2 hs
      clear hk hx
      unfold goodQ at hs
      have p1 : IntKind.u64.wrap ((p : Int) * 4096) = ((p * 4096 : Nat) : Int) := by rw [IntKind.wrap_u64]; omega
      have p2 : IntKind.u64.wrap (8 * (k : Int)) = ((8 * k : Nat) : Int) := by rw [IntKind.wrap_u64]; omega
      have p3 : IntKind.u64.wrap (((p * 4096 : Nat) : Int) + ((8 * k : Nat) : Int)) = ((p * 4096 + 8 * k : Nat) : Int) := by rw [IntKind.wrap_u64]; omega
      have p4 : ¬ ((8 : Int) ≤ (p : Int)) := by omega
      have c3 := fun W => CO.out x W
      have c4 := fun W => CQ.out (x.getLsbD 0) (x.getLsbD 1) (x.getLsbD 2) (x.getLsbD 3) (x.getLsbD 4) (x.getLsbD 5) (x.getLsbD 6) (x.getLsbD 7) (x.getLsbD 58) (x.getLsbD 59) (x.getLsbD 60) (x.getLsbD 61) (getB x 10 44) W
      have c5 := fun W => CL.out (x.getLsbD 0) (x.getLsbD 1) (x.getLsbD 2) (x.getLsbD 3) (x.getLsbD 4) (x.getLsbD 5) (x.getLsbD 6) (x.getLsbD 7) (x.getLsbD 58) (x.getLsbD 59) (x.getLsbD 60) (x.getLsbD 61) (getB x 10 44) W
      obtain ⟨X, hX⟩ : ∃ X, decide ((getB x 10 44).toNat < 8) = X := ⟨_, rfl⟩
      rw [hX] at hs
      generalize (x.getLsbD 0) = b0 at *
      generalize (x.getLsbD 1) = b1 at *
      generalize (x.getLsbD 2) = b2 at *
      generalize (x.getLsbD 3) = b3 at *
      generalize (x.getLsbD 4) = b4 at *
      generalize (x.getLsbD 5) = b5 at *
      generalize (x.getLsbD 6) = b6 at *
      generalize (x.getLsbD 7) = b7 at *
      generalize (x.getLsbD 58) = b8 at *
      generalize (x.getLsbD 59) = b9 at *
      generalize (x.getLsbD 60) = b10 at *
      generalize (x.getLsbD 61) = b11 at *
      generalize getB x 10 44 = F at *
      generalize (x.toNat : Int) = XI at *
      clear x
      obtain ⟨Q, hQ⟩ : ∃ Q, rightQ b0 b1 b2 b3 b4 b5 b6 b7 b8 b9 b10 b11 (F.toNat : Int) = Q := ⟨_, rfl⟩
      rw [hQ] at c4 hs
      obtain ⟨L, hL⟩ : ∃ L, (b0 && (b1 || b2 || b3)) = L := ⟨_, rfl⟩
      rw [hL] at c5 hs
      clear hQ hL
      obtain ⟨A, hA⟩ : ∃ A : Nat, p * 4096 + 8 * k = A := ⟨_, rfl⟩
      rw [hA] at p3 c2 hs
      clear hA hidx
      generalize ((p * 4096 : Nat) : Int) = P4 at *
      generalize ((8 * k : Nat) : Int) = K8 at *
      have D1 := hide c1
      have D2 := hide c2
      have D3 := hide c3
      have D4 := hide c4
      have D5 := hide c5
      have sA := sl_be hB HA.out
      have sB := sl_be hB HB.out
      have SA := hide sA
      have SB := hide sB
      clear c1 c2 c3 c4 c5 sA sB
      cases b0 with
      | false =>
        have hs := pick_no hs (by simp)
        subst hs
        go_wp2_with (first | ((refine wpList_store_row rfl 66 _ _ rfl (w.heap.size + 1) 13 _ rfl rfl rfl ?_ ?_ ?_ ?_); (focus (repeat (first | (with_reducible first | assumption | refine o_dr _ ?_ | refine o_d1 ?_ | refine o_set ?_) | (with_reducible refine o_new ?_ ?_; (focus (simp)); (focus (simp))) | (with_reducible first | refine o_al _ ?_ | (apply o_be; assumption))))); (focus (exact infoR)); (focus (simp [Value.oneCell'])); intro ws hrs hbs _ _ _; have q0 := hrs 0 _ rfl; have q1 := hrs 1 _ rfl; have q2 := hrs 2 _ rfl; have q3 := hrs 3 _ rfl; have q4 := hrs 4 _ rfl; have q5 := hrs 5 _ rfl; have q6 := hrs 6 _ rfl; have q7 := hrs 7 _ rfl; have q8 := hrs 8 _ rfl; have q9 := hrs 9 _ rfl; have q10 := hrs 10 _ rfl; have q11 := hrs 11 _ rfl; have q12 := hrs 12 _ rfl; clear hrs) | (go_at_call 68; (with_reducible refine (D1.out _).mono ?_); rintro e w' ⟨rfl, n1, rfl⟩) | (go_at_call 24; (with_reducible refine (D2.out _ (by have hsl := SA.out; repeat (with_reducible first | assumption | (apply sl_be; assumption) | refine sl_dr _ ?_ | refine sl_d1 ?_)) (by have hsl := SB.out; repeat (with_reducible first | assumption | (apply sl_be; assumption) | refine sl_dr _ ?_ | refine sl_d1 ?_))).mono ?_); rintro e wd ⟨rfl, hbd⟩; obtain ⟨hrd, hhd, md, hsd⟩ := bl_all hbd) | (go_at_call 69; (with_reducible refine (D3.out _).mono ?_); rintro e wa ⟨rfl, hba⟩; obtain ⟨hra, hha, ma, hsa⟩ := bl_all hba) | (go_at_call 70; (with_reducible refine (D4.out _).mono ?_); rintro e wb ⟨rfl, hbb⟩; obtain ⟨hrb, hhb, mb, hsb⟩ := bl_all hbb) | (go_at_call 67; (with_reducible refine (D5.out _).mono ?_); rintro e wc ⟨rfl, hbc⟩; obtain ⟨hrc, hhc, mc, hsc⟩ := bl_all hbc))
        refine bodyPost_ret (v := .tuple #[.agg #[.bool false, .bool false, .bool false, .bool false, .bool false, .bool false, .bool false, .bool false, .bool false, .bool false, .bool false, .bool false, .int .u64 0], .int .u64 0, .int .i64 1]) (by simp (maxDischargeDepth := 4) [results, Tryd.results39, go_sem, *]) rfl ?_
        refine ⟨rfl, ?_⟩
        refine Below.trans ?_ (hbs.mono (by omega))
        repeat (with_reducible first | assumption | exact Below.refl _ _ | refine Below.drew ?_ | refine below_drewN ?_ _ | refine bw_alloc ?_ _ | (refine bw_set ?_ ?_ _; focus (dsimp only; omega)) | (apply bw_behind; assumption))
      | true =>
        cases Q with
        | false =>
          have hs := pick_no hs (by simp)
          subst hs
          go_wp2_with (first | ((refine wpList_store_row rfl 66 _ _ rfl (w.heap.size + 1) 13 _ rfl rfl rfl ?_ ?_ ?_ ?_); (focus (repeat (first | (with_reducible first | assumption | refine o_dr _ ?_ | refine o_d1 ?_ | refine o_set ?_) | (with_reducible refine o_new ?_ ?_; (focus (simp)); (focus (simp))) | (with_reducible first | refine o_al _ ?_ | (apply o_be; assumption))))); (focus (exact infoR)); (focus (simp [Value.oneCell'])); intro ws hrs hbs _ _ _; have q0 := hrs 0 _ rfl; have q1 := hrs 1 _ rfl; have q2 := hrs 2 _ rfl; have q3 := hrs 3 _ rfl; have q4 := hrs 4 _ rfl; have q5 := hrs 5 _ rfl; have q6 := hrs 6 _ rfl; have q7 := hrs 7 _ rfl; have q8 := hrs 8 _ rfl; have q9 := hrs 9 _ rfl; have q10 := hrs 10 _ rfl; have q11 := hrs 11 _ rfl; have q12 := hrs 12 _ rfl; clear hrs) | (go_at_call 68; (with_reducible refine (D1.out _).mono ?_); rintro e w' ⟨rfl, n1, rfl⟩) | (go_at_call 24; (with_reducible refine (D2.out _ (by have hsl := SA.out; repeat (with_reducible first | assumption | (apply sl_be; assumption) | refine sl_dr _ ?_ | refine sl_d1 ?_)) (by have hsl := SB.out; repeat (with_reducible first | assumption | (apply sl_be; assumption) | refine sl_dr _ ?_ | refine sl_d1 ?_))).mono ?_); rintro e wd ⟨rfl, hbd⟩; obtain ⟨hrd, hhd, md, hsd⟩ := bl_all hbd) | (go_at_call 69; (with_reducible refine (D3.out _).mono ?_); rintro e wa ⟨rfl, hba⟩; obtain ⟨hra, hha, ma, hsa⟩ := bl_all hba) | (go_at_call 70; (with_reducible refine (D4.out _).mono ?_); rintro e wb ⟨rfl, hbb⟩; obtain ⟨hrb, hhb, mb, hsb⟩ := bl_all hbb) | (go_at_call 67; (with_reducible refine (D5.out _).mono ?_); rintro e wc ⟨rfl, hbc⟩; obtain ⟨hrc, hhc, mc, hsc⟩ := bl_all hbc))
          refine bodyPost_ret (v := .tuple #[.agg #[.bool false, .bool false, .bool false, .bool false, .bool false, .bool false, .bool false, .bool false, .bool false, .bool false, .bool false, .bool false, .int .u64 0], .int .u64 0, .int .i64 1]) (by simp (maxDischargeDepth := 4) [results, Tryd.results39, go_sem, *]) rfl ?_
          refine ⟨rfl, ?_⟩
          refine Below.trans ?_ (hbs.mono (by omega))
          repeat (with_reducible first | assumption | exact Below.refl _ _ | refine Below.drew ?_ | refine below_drewN ?_ _ | refine bw_alloc ?_ _ | (refine bw_set ?_ ?_ _; focus (dsimp only; omega)) | (apply bw_behind; assumption))
        | true =>
          cases L with
          | false =>
            have hs := pick_no hs (by simp)
            subst hs
            go_wp2_with (first | ((refine wpList_store_row rfl 66 _ _ rfl (w.heap.size + 1) 13 _ rfl rfl rfl ?_ ?_ ?_ ?_); (focus (repeat (first | (with_reducible first | assumption | refine o_dr _ ?_ | refine o_d1 ?_ | refine o_set ?_) | (with_reducible refine o_new ?_ ?_; (focus (simp)); (focus (simp))) | (with_reducible first | refine o_al _ ?_ | (apply o_be; assumption))))); (focus (exact infoR)); (focus (simp [Value.oneCell'])); intro ws hrs hbs _ _ _; have q0 := hrs 0 _ rfl; have q1 := hrs 1 _ rfl; have q2 := hrs 2 _ rfl; have q3 := hrs 3 _ rfl; have q4 := hrs 4 _ rfl; have q5 := hrs 5 _ rfl; have q6 := hrs 6 _ rfl; have q7 := hrs 7 _ rfl; have q8 := hrs 8 _ rfl; have q9 := hrs 9 _ rfl; have q10 := hrs 10 _ rfl; have q11 := hrs 11 _ rfl; have q12 := hrs 12 _ rfl; clear hrs) | (go_at_call 68; (with_reducible refine (D1.out _).mono ?_); rintro e w' ⟨rfl, n1, rfl⟩) | (go_at_call 24; (with_reducible refine (D2.out _ (by have hsl := SA.out; repeat (with_reducible first | assumption | (apply sl_be; assumption) | refine sl_dr _ ?_ | refine sl_d1 ?_)) (by have hsl := SB.out; repeat (with_reducible first | assumption | (apply sl_be; assumption) | refine sl_dr _ ?_ | refine sl_d1 ?_))).mono ?_); rintro e wd ⟨rfl, hbd⟩; obtain ⟨hrd, hhd, md, hsd⟩ := bl_all hbd) | (go_at_call 69; (with_reducible refine (D3.out _).mono ?_); rintro e wa ⟨rfl, hba⟩; obtain ⟨hra, hha, ma, hsa⟩ := bl_all hba) | (go_at_call 70; (with_reducible refine (D4.out _).mono ?_); rintro e wb ⟨rfl, hbb⟩; obtain ⟨hrb, hhb, mb, hsb⟩ := bl_all hbb) | (go_at_call 67; (with_reducible refine (D5.out _).mono ?_); rintro e wc ⟨rfl, hbc⟩; obtain ⟨hrc, hhc, mc, hsc⟩ := bl_all hbc))
            refine bodyPost_ret (v := .tuple #[.agg #[.bool false, .bool false, .bool false, .bool false, .bool false, .bool false, .bool false, .bool false, .bool false, .bool false, .bool false, .bool false, .int .u64 0], .int .u64 0, .int .i64 1]) (by simp (maxDischargeDepth := 4) [results, Tryd.results39, go_sem, *]) rfl ?_
            refine ⟨rfl, ?_⟩
            refine Below.trans ?_ (hbs.mono (by omega))
            repeat (with_reducible first | assumption | exact Below.refl _ _ | refine Below.drew ?_ | refine below_drewN ?_ _ | refine bw_alloc ?_ _ | (refine bw_set ?_ ?_ _; focus (dsimp only; omega)) | (apply bw_behind; assumption))
          | true =>
            cases X with
            | false =>
              have hxn : (8 : Int) ≤ (F.toNat : Int) := by have := of_decide_eq_false hX; omega
              have hs := pick_no hs (by simp)
              subst hs
              go_wp2_with (first | ((refine wpList_store_row rfl 66 _ _ rfl (w.heap.size + 1) 13 _ rfl rfl rfl ?_ ?_ ?_ ?_); (focus (repeat (first | (with_reducible first | assumption | refine o_dr _ ?_ | refine o_d1 ?_ | refine o_set ?_) | (with_reducible refine o_new ?_ ?_; (focus (simp)); (focus (simp))) | (with_reducible first | refine o_al _ ?_ | (apply o_be; assumption))))); (focus (exact infoR)); (focus (simp [Value.oneCell'])); intro ws hrs hbs _ _ _; have q0 := hrs 0 _ rfl; have q1 := hrs 1 _ rfl; have q2 := hrs 2 _ rfl; have q3 := hrs 3 _ rfl; have q4 := hrs 4 _ rfl; have q5 := hrs 5 _ rfl; have q6 := hrs 6 _ rfl; have q7 := hrs 7 _ rfl; have q8 := hrs 8 _ rfl; have q9 := hrs 9 _ rfl; have q10 := hrs 10 _ rfl; have q11 := hrs 11 _ rfl; have q12 := hrs 12 _ rfl; clear hrs) | (go_at_call 68; (with_reducible refine (D1.out _).mono ?_); rintro e w' ⟨rfl, n1, rfl⟩) | (go_at_call 24; (with_reducible refine (D2.out _ (by have hsl := SA.out; repeat (with_reducible first | assumption | (apply sl_be; assumption) | refine sl_dr _ ?_ | refine sl_d1 ?_)) (by have hsl := SB.out; repeat (with_reducible first | assumption | (apply sl_be; assumption) | refine sl_dr _ ?_ | refine sl_d1 ?_))).mono ?_); rintro e wd ⟨rfl, hbd⟩; obtain ⟨hrd, hhd, md, hsd⟩ := bl_all hbd) | (go_at_call 69; (with_reducible refine (D3.out _).mono ?_); rintro e wa ⟨rfl, hba⟩; obtain ⟨hra, hha, ma, hsa⟩ := bl_all hba) | (go_at_call 70; (with_reducible refine (D4.out _).mono ?_); rintro e wb ⟨rfl, hbb⟩; obtain ⟨hrb, hhb, mb, hsb⟩ := bl_all hbb) | (go_at_call 67; (with_reducible refine (D5.out _).mono ?_); rintro e wc ⟨rfl, hbc⟩; obtain ⟨hrc, hhc, mc, hsc⟩ := bl_all hbc))
              refine bodyPost_ret (v := .tuple #[.agg #[.bool false, .bool false, .bool false, .bool false, .bool false, .bool false, .bool false, .bool false, .bool false, .bool false, .bool false, .bool false, .int .u64 0], .int .u64 0, .int .i64 1]) (by simp (maxDischargeDepth := 4) [results, Tryd.results39, go_sem, *]) rfl ?_
              refine ⟨rfl, ?_⟩
              refine Below.trans ?_ (hbs.mono (by omega))
              repeat (with_reducible first | assumption | exact Below.refl _ _ | refine Below.drew ?_ | refine below_drewN ?_ _ | refine bw_alloc ?_ _ | (refine bw_set ?_ ?_ _; focus (dsimp only; omega)) | (apply bw_behind; assumption))
            | true =>
              have hxy : ¬ ((8 : Int) ≤ (F.toNat : Int)) := by have := of_decide_eq_true hX; omega
              have hs := pick_yes hs (by simp)
              subst hs
              go_wp2_with (first | ((refine wpList_store_row rfl 66 _ _ rfl (w.heap.size + 1) 13 _ rfl rfl rfl ?_ ?_ ?_ ?_); (focus (repeat (first | (with_reducible first | assumption | refine o_dr _ ?_ | refine o_d1 ?_ | refine o_set ?_) | (with_reducible refine o_new ?_ ?_; (focus (simp)); (focus (simp))) | (with_reducible first | refine o_al _ ?_ | (apply o_be; assumption))))); (focus (exact infoR)); (focus (simp [Value.oneCell'])); intro ws hrs hbs _ _ _; have q0 := hrs 0 _ rfl; have q1 := hrs 1 _ rfl; have q2 := hrs 2 _ rfl; have q3 := hrs 3 _ rfl; have q4 := hrs 4 _ rfl; have q5 := hrs 5 _ rfl; have q6 := hrs 6 _ rfl; have q7 := hrs 7 _ rfl; have q8 := hrs 8 _ rfl; have q9 := hrs 9 _ rfl; have q10 := hrs 10 _ rfl; have q11 := hrs 11 _ rfl; have q12 := hrs 12 _ rfl; clear hrs) | (go_at_call 68; (with_reducible refine (D1.out _).mono ?_); rintro e w' ⟨rfl, n1, rfl⟩) | (go_at_call 24; (with_reducible refine (D2.out _ (by have hsl := SA.out; repeat (with_reducible first | assumption | (apply sl_be; assumption) | refine sl_dr _ ?_ | refine sl_d1 ?_)) (by have hsl := SB.out; repeat (with_reducible first | assumption | (apply sl_be; assumption) | refine sl_dr _ ?_ | refine sl_d1 ?_))).mono ?_); rintro e wd ⟨rfl, hbd⟩; obtain ⟨hrd, hhd, md, hsd⟩ := bl_all hbd) | (go_at_call 69; (with_reducible refine (D3.out _).mono ?_); rintro e wa ⟨rfl, hba⟩; obtain ⟨hra, hha, ma, hsa⟩ := bl_all hba) | (go_at_call 70; (with_reducible refine (D4.out _).mono ?_); rintro e wb ⟨rfl, hbb⟩; obtain ⟨hrb, hhb, mb, hsb⟩ := bl_all hbb) | (go_at_call 67; (with_reducible refine (D5.out _).mono ?_); rintro e wc ⟨rfl, hbc⟩; obtain ⟨hrc, hhc, mc, hsc⟩ := bl_all hbc))
              refine bodyPost_ret (v := .tuple #[.agg #[.bool true, .bool b1, .bool b2, .bool b3, .bool b4, .bool b5, .bool b6, .bool b7, .bool b8, .bool b9, .bool b10, .bool b11, .int .u64 (F.toNat : Int)], .int .u64 (A : Int), .int .i64 0]) (by simp (maxDischargeDepth := 4) [results, Tryd.results39, go_sem, *]) rfl ?_
              refine ⟨rfl, ?_⟩
              refine Below.trans ?_ (hbs.mono (by omega))
              repeat (with_reducible first | assumption | exact Below.refl _ _ | refine Below.drew ?_ | refine below_drewN ?_ _ | refine bw_alloc ?_ _ | (refine bw_set ?_ ?_ _; focus (dsimp only; omega)) | (apply bw_behind; assumption))
    | succ l => as_aux_lemma =>
      rw [rwalkV_s] at hs
      obtain ⟨J, hJ⟩ : ∃ J : Int, ((l + 1 : Nat) : Int) = J := ⟨_, rfl⟩
      rw [hJ] at hs ⊢
      have j0 : (0 : Int) ≤ J := by omega
      have j1 : (J == 0) = false := by simp; omega
      have j2 : IntKind.i64.wrap (J - 1) = (l : Int) := by rw [IntKind.wrap_i64]; omega
      have j3 : RowKit.wrap64 (J - 1) = (l : Int) := by unfold RowKit.wrap64; omega
      have HJ := hide hJ
      clear hJ
      have hidx := idx_lt v (J : Int)
      have c1 := fun W => CI.out (J : Int) W
      have c2 := fun W x y => CD.out p (idx v (J : Int)) W hp hidx x y
      have hk3 : IntKind.u64.wrap (idx v (J : Int) : Int) = (idx v (J : Int) : Int) := by rw [IntKind.wrap_u64]; omega
      obtain ⟨k, hk⟩ : ∃ k, idx v (J : Int) = k := ⟨_, rfl⟩
      rw [hk] at c1 c2 hs hidx hk3
      obtain ⟨x, hx⟩ : ∃ x, M p k = x := ⟨_, rfl⟩
      rw [hx] at c2 hs
      clear hk hx
      unfold goodQ at hs
      have p1 : IntKind.u64.wrap ((p : Int) * 4096) = ((p * 4096 : Nat) : Int) := by rw [IntKind.wrap_u64]; omega
      have p2 : IntKind.u64.wrap (8 * (k : Int)) = ((8 * k : Nat) : Int) := by rw [IntKind.wrap_u64]; omega
      have p3 : IntKind.u64.wrap (((p * 4096 : Nat) : Int) + ((8 * k : Nat) : Int)) = ((p * 4096 + 8 * k : Nat) : Int) := by rw [IntKind.wrap_u64]; omega
      have p4 : ¬ ((8 : Int) ≤ (p : Int)) := by omega
      have c3 := fun W => CO.out x W
      have c4 := fun W => CQ.out (x.getLsbD 0) (x.getLsbD 1) (x.getLsbD 2) (x.getLsbD 3) (x.getLsbD 4) (x.getLsbD 5) (x.getLsbD 6) (x.getLsbD 7) (x.getLsbD 58) (x.getLsbD 59) (x.getLsbD 60) (x.getLsbD 61) (getB x 10 44) W
      have c5 := fun W => CL.out (x.getLsbD 0) (x.getLsbD 1) (x.getLsbD 2) (x.getLsbD 3) (x.getLsbD 4) (x.getLsbD 5) (x.getLsbD 6) (x.getLsbD 7) (x.getLsbD 58) (x.getLsbD 59) (x.getLsbD 60) (x.getLsbD 61) (getB x 10 44) W
      obtain ⟨X, hX⟩ : ∃ X, decide ((getB x 10 44).toNat < 8) = X := ⟨_, rfl⟩
      rw [hX] at hs
      generalize (x.getLsbD 0) = b0 at *
      generalize (x.getLsbD 1) = b1 at *
      generalize (x.getLsbD 2) = b2 at *
      generalize (x.getLsbD 3) = b3 at *
      generalize (x.getLsbD 4) = b4 at *
      generalize (x.getLsbD 5) = b5 at *
      generalize (x.getLsbD 6) = b6 at *
      generalize (x.getLsbD 7) = b7 at *
      generalize (x.getLsbD 58) = b8 at *
      generalize (x.getLsbD 59) = b9 at *
      generalize (x.getLsbD 60) = b10 at *
      generalize (x.getLsbD 61) = b11 at *
      generalize getB x 10 44 = F at *
      generalize (x.toNat : Int) = XI at *
      clear x
      obtain ⟨Q, hQ⟩ : ∃ Q, rightQ b0 b1 b2 b3 b4 b5 b6 b7 b8 b9 b10 b11 (F.toNat : Int) = Q := ⟨_, rfl⟩
      rw [hQ] at c4 hs
      obtain ⟨L, hL⟩ : ∃ L, (b0 && (b1 || b2 || b3)) = L := ⟨_, rfl⟩
      rw [hL] at c5 hs
      clear hQ hL
      obtain ⟨A, hA⟩ : ∃ A : Nat, p * 4096 + 8 * k = A := ⟨_, rfl⟩
      rw [hA] at p3 c2
      clear hA hidx
      generalize ((p * 4096 : Nat) : Int) = P4 at *
      generalize ((8 * k : Nat) : Int) = K8 at *
      have D1 := hide c1
      have D2 := hide c2
      have D3 := hide c3
      have D4 := hide c4
      have D5 := hide c5
      have sA := sl_be hB HA.out
      have sB := sl_be hB HB.out
      have SA := hide sA
      have SB := hide sB
      clear c1 c2 c3 c4 c5 sA sB
      cases b0 with
      | false =>
        have hs := pick_no hs (by simp)
        subst hs
        go_wp2_with (first | ((refine wpList_store_row rfl 66 _ _ rfl (w.heap.size + 1) 13 _ rfl rfl rfl ?_ ?_ ?_ ?_); (focus (repeat (first | (with_reducible first | assumption | refine o_dr _ ?_ | refine o_d1 ?_ | refine o_set ?_) | (with_reducible refine o_new ?_ ?_; (focus (simp)); (focus (simp))) | (with_reducible first | refine o_al _ ?_ | (apply o_be; assumption))))); (focus (exact infoR)); (focus (simp [Value.oneCell'])); intro ws hrs hbs _ _ _; have q0 := hrs 0 _ rfl; have q1 := hrs 1 _ rfl; have q2 := hrs 2 _ rfl; have q3 := hrs 3 _ rfl; have q4 := hrs 4 _ rfl; have q5 := hrs 5 _ rfl; have q6 := hrs 6 _ rfl; have q7 := hrs 7 _ rfl; have q8 := hrs 8 _ rfl; have q9 := hrs 9 _ rfl; have q10 := hrs 10 _ rfl; have q11 := hrs 11 _ rfl; have q12 := hrs 12 _ rfl; clear hrs) | (go_at_call 68; (with_reducible refine (D1.out _).mono ?_); rintro e w' ⟨rfl, n1, rfl⟩) | (go_at_call 24; (with_reducible refine (D2.out _ (by have hsl := SA.out; repeat (with_reducible first | assumption | (apply sl_be; assumption) | refine sl_dr _ ?_ | refine sl_d1 ?_)) (by have hsl := SB.out; repeat (with_reducible first | assumption | (apply sl_be; assumption) | refine sl_dr _ ?_ | refine sl_d1 ?_))).mono ?_); rintro e wd ⟨rfl, hbd⟩; obtain ⟨hrd, hhd, md, hsd⟩ := bl_all hbd) | (go_at_call 69; (with_reducible refine (D3.out _).mono ?_); rintro e wa ⟨rfl, hba⟩; obtain ⟨hra, hha, ma, hsa⟩ := bl_all hba) | (go_at_call 70; (with_reducible refine (D4.out _).mono ?_); rintro e wb ⟨rfl, hbb⟩; obtain ⟨hrb, hhb, mb, hsb⟩ := bl_all hbb) | (go_at_call 67; (with_reducible refine (D5.out _).mono ?_); rintro e wc ⟨rfl, hbc⟩; obtain ⟨hrc, hhc, mc, hsc⟩ := bl_all hbc))
        refine bodyPost_ret (v := .tuple #[.agg #[.bool false, .bool false, .bool false, .bool false, .bool false, .bool false, .bool false, .bool false, .bool false, .bool false, .bool false, .bool false, .int .u64 0], .int .u64 0, .int .i64 1]) (by simp (maxDischargeDepth := 4) [results, Tryd.results39, go_sem, *]) rfl ?_
        refine ⟨rfl, ?_⟩
        refine Below.trans ?_ (hbs.mono (by omega))
        repeat (with_reducible first | assumption | exact Below.refl _ _ | refine Below.drew ?_ | refine below_drewN ?_ _ | refine bw_alloc ?_ _ | (refine bw_set ?_ ?_ _; focus (dsimp only; omega)) | (apply bw_behind; assumption))
      | true =>
        cases Q with
        | false =>
          have hs := pick_no hs (by simp)
          subst hs
          go_wp2_with (first | ((refine wpList_store_row rfl 66 _ _ rfl (w.heap.size + 1) 13 _ rfl rfl rfl ?_ ?_ ?_ ?_); (focus (repeat (first | (with_reducible first | assumption | refine o_dr _ ?_ | refine o_d1 ?_ | refine o_set ?_) | (with_reducible refine o_new ?_ ?_; (focus (simp)); (focus (simp))) | (with_reducible first | refine o_al _ ?_ | (apply o_be; assumption))))); (focus (exact infoR)); (focus (simp [Value.oneCell'])); intro ws hrs hbs _ _ _; have q0 := hrs 0 _ rfl; have q1 := hrs 1 _ rfl; have q2 := hrs 2 _ rfl; have q3 := hrs 3 _ rfl; have q4 := hrs 4 _ rfl; have q5 := hrs 5 _ rfl; have q6 := hrs 6 _ rfl; have q7 := hrs 7 _ rfl; have q8 := hrs 8 _ rfl; have q9 := hrs 9 _ rfl; have q10 := hrs 10 _ rfl; have q11 := hrs 11 _ rfl; have q12 := hrs 12 _ rfl; clear hrs) | (go_at_call 68; (with_reducible refine (D1.out _).mono ?_); rintro e w' ⟨rfl, n1, rfl⟩) | (go_at_call 24; (with_reducible refine (D2.out _ (by have hsl := SA.out; repeat (with_reducible first | assumption | (apply sl_be; assumption) | refine sl_dr _ ?_ | refine sl_d1 ?_)) (by have hsl := SB.out; repeat (with_reducible first | assumption | (apply sl_be; assumption) | refine sl_dr _ ?_ | refine sl_d1 ?_))).mono ?_); rintro e wd ⟨rfl, hbd⟩; obtain ⟨hrd, hhd, md, hsd⟩ := bl_all hbd) | (go_at_call 69; (with_reducible refine (D3.out _).mono ?_); rintro e wa ⟨rfl, hba⟩; obtain ⟨hra, hha, ma, hsa⟩ := bl_all hba) | (go_at_call 70; (with_reducible refine (D4.out _).mono ?_); rintro e wb ⟨rfl, hbb⟩; obtain ⟨hrb, hhb, mb, hsb⟩ := bl_all hbb) | (go_at_call 67; (with_reducible refine (D5.out _).mono ?_); rintro e wc ⟨rfl, hbc⟩; obtain ⟨hrc, hhc, mc, hsc⟩ := bl_all hbc))
          refine bodyPost_ret (v := .tuple #[.agg #[.bool false, .bool false, .bool false, .bool false, .bool false, .bool false, .bool false, .bool false, .bool false, .bool false, .bool false, .bool false, .int .u64 0], .int .u64 0, .int .i64 1]) (by simp (maxDischargeDepth := 4) [results, Tryd.results39, go_sem, *]) rfl ?_
          refine ⟨rfl, ?_⟩
          refine Below.trans ?_ (hbs.mono (by omega))
          repeat (with_reducible first | assumption | exact Below.refl _ _ | refine Below.drew ?_ | refine below_drewN ?_ _ | refine bw_alloc ?_ _ | (refine bw_set ?_ ?_ _; focus (dsimp only; omega)) | (apply bw_behind; assumption))
        | true =>
          cases L with
          | true =>
            have hs := pick_no hs (by simp)
            subst hs
            go_wp2_with (first | ((refine wpList_store_row rfl 66 _ _ rfl (w.heap.size + 1) 13 _ rfl rfl rfl ?_ ?_ ?_ ?_); (focus (repeat (first | (with_reducible first | assumption | refine o_dr _ ?_ | refine o_d1 ?_ | refine o_set ?_) | (with_reducible refine o_new ?_ ?_; (focus (simp)); (focus (simp))) | (with_reducible first | refine o_al _ ?_ | (apply o_be; assumption))))); (focus (exact infoR)); (focus (simp [Value.oneCell'])); intro ws hrs hbs _ _ _; have q0 := hrs 0 _ rfl; have q1 := hrs 1 _ rfl; have q2 := hrs 2 _ rfl; have q3 := hrs 3 _ rfl; have q4 := hrs 4 _ rfl; have q5 := hrs 5 _ rfl; have q6 := hrs 6 _ rfl; have q7 := hrs 7 _ rfl; have q8 := hrs 8 _ rfl; have q9 := hrs 9 _ rfl; have q10 := hrs 10 _ rfl; have q11 := hrs 11 _ rfl; have q12 := hrs 12 _ rfl; clear hrs) | (go_at_call 68; (with_reducible refine (D1.out _).mono ?_); rintro e w' ⟨rfl, n1, rfl⟩) | (go_at_call 24; (with_reducible refine (D2.out _ (by have hsl := SA.out; repeat (with_reducible first | assumption | (apply sl_be; assumption) | refine sl_dr _ ?_ | refine sl_d1 ?_)) (by have hsl := SB.out; repeat (with_reducible first | assumption | (apply sl_be; assumption) | refine sl_dr _ ?_ | refine sl_d1 ?_))).mono ?_); rintro e wd ⟨rfl, hbd⟩; obtain ⟨hrd, hhd, md, hsd⟩ := bl_all hbd) | (go_at_call 69; (with_reducible refine (D3.out _).mono ?_); rintro e wa ⟨rfl, hba⟩; obtain ⟨hra, hha, ma, hsa⟩ := bl_all hba) | (go_at_call 70; (with_reducible refine (D4.out _).mono ?_); rintro e wb ⟨rfl, hbb⟩; obtain ⟨hrb, hhb, mb, hsb⟩ := bl_all hbb) | (go_at_call 67; (with_reducible refine (D5.out _).mono ?_); rintro e wc ⟨rfl, hbc⟩; obtain ⟨hrc, hhc, mc, hsc⟩ := bl_all hbc))
            refine bodyPost_ret (v := .tuple #[.agg #[.bool false, .bool false, .bool false, .bool false, .bool false, .bool false, .bool false, .bool false, .bool false, .bool false, .bool false, .bool false, .int .u64 0], .int .u64 0, .int .i64 1]) (by simp (maxDischargeDepth := 4) [results, Tryd.results39, go_sem, *]) rfl ?_
            refine ⟨rfl, ?_⟩
            refine Below.trans ?_ (hbs.mono (by omega))
            repeat (with_reducible first | assumption | exact Below.refl _ _ | refine Below.drew ?_ | refine below_drewN ?_ _ | refine bw_alloc ?_ _ | (refine bw_set ?_ ?_ _; focus (dsimp only; omega)) | (apply bw_behind; assumption))
          | false =>
            cases X with
            | false =>
              have hxn : (8 : Int) ≤ (F.toNat : Int) := by have := of_decide_eq_false hX; omega
              have hs := pick_no hs (by simp)
              subst hs
              go_wp2_with (first | ((refine wpList_store_row rfl 66 _ _ rfl (w.heap.size + 1) 13 _ rfl rfl rfl ?_ ?_ ?_ ?_); (focus (repeat (first | (with_reducible first | assumption | refine o_dr _ ?_ | refine o_d1 ?_ | refine o_set ?_) | (with_reducible refine o_new ?_ ?_; (focus (simp)); (focus (simp))) | (with_reducible first | refine o_al _ ?_ | (apply o_be; assumption))))); (focus (exact infoR)); (focus (simp [Value.oneCell'])); intro ws hrs hbs _ _ _; have q0 := hrs 0 _ rfl; have q1 := hrs 1 _ rfl; have q2 := hrs 2 _ rfl; have q3 := hrs 3 _ rfl; have q4 := hrs 4 _ rfl; have q5 := hrs 5 _ rfl; have q6 := hrs 6 _ rfl; have q7 := hrs 7 _ rfl; have q8 := hrs 8 _ rfl; have q9 := hrs 9 _ rfl; have q10 := hrs 10 _ rfl; have q11 := hrs 11 _ rfl; have q12 := hrs 12 _ rfl; clear hrs) | (go_at_call 68; (with_reducible refine (D1.out _).mono ?_); rintro e w' ⟨rfl, n1, rfl⟩) | (go_at_call 24; (with_reducible refine (D2.out _ (by have hsl := SA.out; repeat (with_reducible first | assumption | (apply sl_be; assumption) | refine sl_dr _ ?_ | refine sl_d1 ?_)) (by have hsl := SB.out; repeat (with_reducible first | assumption | (apply sl_be; assumption) | refine sl_dr _ ?_ | refine sl_d1 ?_))).mono ?_); rintro e wd ⟨rfl, hbd⟩; obtain ⟨hrd, hhd, md, hsd⟩ := bl_all hbd) | (go_at_call 69; (with_reducible refine (D3.out _).mono ?_); rintro e wa ⟨rfl, hba⟩; obtain ⟨hra, hha, ma, hsa⟩ := bl_all hba) | (go_at_call 70; (with_reducible refine (D4.out _).mono ?_); rintro e wb ⟨rfl, hbb⟩; obtain ⟨hrb, hhb, mb, hsb⟩ := bl_all hbb) | (go_at_call 67; (with_reducible refine (D5.out _).mono ?_); rintro e wc ⟨rfl, hbc⟩; obtain ⟨hrc, hhc, mc, hsc⟩ := bl_all hbc))
              refine bodyPost_ret (v := .tuple #[.agg #[.bool false, .bool false, .bool false, .bool false, .bool false, .bool false, .bool false, .bool false, .bool false, .bool false, .bool false, .bool false, .int .u64 0], .int .u64 0, .int .i64 1]) (by simp (maxDischargeDepth := 4) [results, Tryd.results39, go_sem, *]) rfl ?_
              refine ⟨rfl, ?_⟩
              refine Below.trans ?_ (hbs.mono (by omega))
              repeat (with_reducible first | assumption | exact Below.refl _ _ | refine Below.drew ?_ | refine below_drewN ?_ _ | refine bw_alloc ?_ _ | (refine bw_set ?_ ?_ _; focus (dsimp only; omega)) | (apply bw_behind; assumption))
            | true =>
              have hxy : ¬ ((8 : Int) ≤ (F.toNat : Int)) := by have := of_decide_eq_true hX; omega
              have hs := pick_yes hs (by simp)
              have hs2 := hide hs
              have hp2 : F.toNat < 8 := of_decide_eq_true hX
              clear hs
              go_wp2_with (first | ((refine wpList_store_row rfl 66 _ _ rfl (w.heap.size + 1) 13 _ rfl rfl rfl ?_ ?_ ?_ ?_); (focus (repeat (first | (with_reducible first | assumption | refine o_dr _ ?_ | refine o_d1 ?_ | refine o_set ?_) | (with_reducible refine o_new ?_ ?_; (focus (simp)); (focus (simp))) | (with_reducible first | refine o_al _ ?_ | (apply o_be; assumption))))); (focus (exact infoR)); (focus (simp [Value.oneCell'])); intro ws hrs hbs _ _ _; have q0 := hrs 0 _ rfl; have q1 := hrs 1 _ rfl; have q2 := hrs 2 _ rfl; have q3 := hrs 3 _ rfl; have q4 := hrs 4 _ rfl; have q5 := hrs 5 _ rfl; have q6 := hrs 6 _ rfl; have q7 := hrs 7 _ rfl; have q8 := hrs 8 _ rfl; have q9 := hrs 9 _ rfl; have q10 := hrs 10 _ rfl; have q11 := hrs 11 _ rfl; have q12 := hrs 12 _ rfl; clear hrs) | (go_at_call 68; (with_reducible refine (D1.out _).mono ?_); rintro e w' ⟨rfl, n1, rfl⟩) | (go_at_call 24; (with_reducible refine (D2.out _ (by have hsl := SA.out; repeat (with_reducible first | assumption | (apply sl_be; assumption) | refine sl_dr _ ?_ | refine sl_d1 ?_)) (by have hsl := SB.out; repeat (with_reducible first | assumption | (apply sl_be; assumption) | refine sl_dr _ ?_ | refine sl_d1 ?_))).mono ?_); rintro e wd ⟨rfl, hbd⟩; obtain ⟨hrd, hhd, md, hsd⟩ := bl_all hbd) | (go_at_call 69; (with_reducible refine (D3.out _).mono ?_); rintro e wa ⟨rfl, hba⟩; obtain ⟨hra, hha, ma, hsa⟩ := bl_all hba) | (go_at_call 70; (with_reducible refine (D4.out _).mono ?_); rintro e wb ⟨rfl, hbb⟩; obtain ⟨hrb, hhb, mb, hsb⟩ := bl_all hbb) | (go_at_call 67; (with_reducible refine (D5.out _).mono ?_); rintro e wc ⟨rfl, hbc⟩; obtain ⟨hrc, hhc, mc, hsc⟩ := bl_all hbc))
              go_roundw
              case rel =>
                refine ⟨F.toNat, l, rfl, by first | rfl | go_num | (simp [*]), by omega, hp2, hs2, ?_, ?_, ?_, ?_, ?_, ?_⟩
                all_goals (first | with_reducible assumption | ((repeat (with_reducible first | assumption | refine c_dr _ ?_ | refine c_d1 ?_ | refine c_al _ ?_ | (refine c_set ?_ ?_; focus (dsimp only; omega)) | (apply c_be; assumption))); done) | ((repeat (first | (with_reducible first | assumption | refine o_dr _ ?_ | refine o_d1 ?_ | refine o_set ?_) | (with_reducible refine o_new ?_ ?_; (focus (simp)); (focus (simp))) | (with_reducible first | refine o_al _ ?_ | (apply o_be; assumption)))); done) | ((repeat (with_reducible first | assumption | exact Below.refl _ _ | refine Below.drew ?_ | refine below_drewN ?_ _ | refine bw_alloc ?_ _ | (refine bw_set ?_ ?_ _; focus (dsimp only; omega)) | (apply bw_behind; assumption))); done) | (simp [go_sem, *]; omega) | (simp (maxDischargeDepth := 4) [go_sem, *]; done))
              case measure =>
                have := HJ.out
                simp [intOf]; omega

theorem rwalk_far (sa : Option Addr) (na ca : Nat) (sb : Option Addr) (nb cb : Nat) (V T : Int) (_hV : 274877906944 ≤ V) (w : World) : Calls Tryd.prog 39 #[.agg #[.int .i64 8, .slice sa na ca, .slice sb nb cb, .slice none 0 0], .int .u64 T, .int .u64 V] w (Makes (.tuple #[.agg #[.bool false, .bool false, .bool false, .bool false, .bool false, .bool false, .bool false, .bool false, .bool false, .bool false, .bool false, .bool false, .int .u64 0], .int .u64 0, .int .i64 1]) w) := by
  obtain ⟨SS, LB', LS, LA', LH⟩ := rules5
  go_enter Tryd.func39, Tryd.ntmps39
  go_wp2
  refine bodyPost_ret (v := .tuple #[.agg #[.bool false, .bool false, .bool false, .bool false, .bool false, .bool false, .bool false, .bool false, .bool false, .bool false, .bool false, .bool false, .int .u64 0], .int .u64 0, .int .i64 1]) (by simp (maxDischargeDepth := 4) [results, Tryd.results39, go_sem, *]) rfl ?_
  refine ⟨rfl, ?_⟩
  repeat (with_reducible first | assumption | exact Below.refl _ _ | refine Below.drew ?_ | refine below_drewN ?_ _ | refine bw_alloc ?_ _ | (refine bw_set ?_ ?_ _; focus (dsimp only; omega)) | (apply bw_behind; assumption))
theorem rwalk_root (sa : Option Addr) (na ca : Nat) (sb : Option Addr) (nb cb : Nat) (V T : Int) (_hV : ¬ (274877906944 ≤ V)) (_hT : 8 ≤ T) (w : World) : Calls Tryd.prog 39 #[.agg #[.int .i64 8, .slice sa na ca, .slice sb nb cb, .slice none 0 0], .int .u64 T, .int .u64 V] w (Makes (.tuple #[.agg #[.bool false, .bool false, .bool false, .bool false, .bool false, .bool false, .bool false, .bool false, .bool false, .bool false, .bool false, .bool false, .int .u64 0], .int .u64 0, .int .i64 1]) w) := by
  obtain ⟨SS, LB', LS, LA', LH⟩ := rules5
  go_enter Tryd.func39, Tryd.ntmps39
  go_wp2
  refine wp_loop_rounds 1 ?_
  rw [rounds_succ]
  go_wp2
  refine bodyPost_ret (v := .tuple #[.agg #[.bool false, .bool false, .bool false, .bool false, .bool false, .bool false, .bool false, .bool false, .bool false, .bool false, .bool false, .bool false, .int .u64 0], .int .u64 0, .int .i64 1]) (by simp (maxDischargeDepth := 4) [results, Tryd.results39, go_sem, *]) rfl ?_
  refine ⟨rfl, ?_⟩
  repeat (with_reducible first | assumption | exact Below.refl _ _ | refine Below.drew ?_ | refine below_drewN ?_ _ | refine bw_alloc ?_ _ | (refine bw_set ?_ ?_ _; focus (dsimp only; omega)) | (apply bw_behind; assumption))
end Go.Proofs.YtkajndonefkegaaDoor
