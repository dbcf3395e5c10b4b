/-
  What bounds.Encode, Decode and Near answer.
-/
import Derived.Test.YtnepnckiciapfaaDoorTab03
namespace Go.Proofs.YtnepnckiciapfaaDoor
open Go.RowKit Words FieldMath BoundsMath

theorem eq_span (D U B T : Int) : ∀ W, (binOp .eql 24 (.agg #[.int .u64 D, .int .u64 U]) (.agg #[.int .u64 B, .int .u64 T])).run Tryd.prog W = .ok (.bool (decide (D = B ∧ U = T))) W := by
  intro W
  by_cases h1 : D = B <;> by_cases h2 : U = T <;> simp [go_sem, h1, h2]

set_option maxHeartbeats 2000000 in
theorem encode_any (b t e : Nat) (hb : b ≤ t) (ht : t ≤ 281474976710656) (hk : Kept b t e) (w : World) (hT : Tab w) :
    Calls Tryd.prog 7 #[.agg #[.int .u64 (b : Int), .int .u64 (t : Int)]] w
      (Makes (.tuple #[.agg #[.int .u64 ((dn b (e - 1) / 2 ^ (e - 1) % 16384 : Nat) : Int), .int .u64 ((up t (e - 1) / 2 ^ (e - 1) % 4096 : Nat) : Int), .int .u64 (e : Int)], .bool (decide (dn b (e - 1) = b ∧ up t (e - 1) = t))]) w) := by
  have he := hk.le
  have C1 := hide (fun W => extended_any b t e hb ht hk W)
  have C2 := hide (fun W => exponent_any e (by omega) W)
  have hd48 := dn_le b (e - 1)
  have hu48 := up_top (x := e - 1) ht (by omega)
  have hq1 : dn b (e - 1) / 2 ^ (e - 1) ≤ dn b (e - 1) := Nat.div_le_self _ _
  have hq2 : up t (e - 1) / 2 ^ (e - 1) ≤ up t (e - 1) := Nat.div_le_self _ _
  have C3 : Hid (∀ W, Tab W → Calls Tryd.prog 17 #[.int .u64 ((dn b (e - 1) / 2 ^ (e - 1) : Nat) : Int), .int .i64 0] W (Quiet (.int .u64 ((dn b (e - 1) / 2 ^ (e - 1) % 16384 : Nat) : Int)) W)) := hide (fun W h => lowest_any _ 0 (by omega) (by omega) W h)
  have C4 : Hid (∀ W, Tab W → Calls Tryd.prog 17 #[.int .u64 ((up t (e - 1) / 2 ^ (e - 1) : Nat) : Int), .int .i64 1] W (Quiet (.int .u64 ((up t (e - 1) / 2 ^ (e - 1) % 4096 : Nat) : Int)) W)) := hide (fun W h => lowest_any _ 1 (by omega) (by omega) W h)
  have hx : 0 ≤ ((e - 1 : Nat) : Int) := by omega
  have hx2 : ((e - 1 : Nat) : Int) ≤ 64 := by omega
  have g1 : ((dn b (e - 1) : Nat) : Int) / 2 ^ ((e - 1 : Nat) : Int).toNat = ((dn b (e - 1) / 2 ^ (e - 1) : Nat) : Int) := by simp
  have g2 : ((up t (e - 1) : Nat) : Int) / 2 ^ ((e - 1 : Nat) : Int).toNat = ((up t (e - 1) / 2 ^ (e - 1) : Nat) : Int) := by simp
  have g3 : decide (((dn b (e - 1) : Nat) : Int) = (b : Int) ∧ ((up t (e - 1) : Nat) : Int) = (t : Int)) = decide (dn b (e - 1) = b ∧ up t (e - 1) = t) := decide_eq_decide.mpr (by omega)
  generalize decide (dn b (e - 1) = b ∧ up t (e - 1) = t) = O at *
  generalize ((dn b (e - 1) / 2 ^ (e - 1) % 16384 : Nat) : Int) = FB at *
  generalize ((up t (e - 1) / 2 ^ (e - 1) % 4096 : Nat) : Int) = FT at *
  generalize ((dn b (e - 1) / 2 ^ (e - 1) : Nat) : Int) = QB at *
  generalize ((up t (e - 1) / 2 ^ (e - 1) : Nat) : Int) = QT at *
  generalize ((dn b (e - 1) : Nat) : Int) = D at *
  generalize ((up t (e - 1) : Nat) : Int) = U at *
  generalize ((e - 1 : Nat) : Int) = X at *
  generalize (e : Int) = E at *
  generalize (b : Int) = B at *
  generalize (t : Int) = T at *
  clear hb ht hk he hd48 hu48 hq1 hq2
  have SS := cell_same
  have LB := ltB_add
  have LS := ltB_self
  have LA := alloc_reads
  have LH := alloc_holds
  have EQ := eq_span D U B T
  rw [g3] at EQ
  go_enter Tryd.func7, Tryd.ntmps7
  go_wp2_with (first | (go_at_call 15; (with_reducible refine (C1.out _).mono ?_); rintro e w1 ⟨rfl, hb1⟩; have hr1 := below_reads hb1; have hh1 := below_holds hb1; obtain ⟨m1, hs1⟩ := below_grew hb1) | (go_at_call 16; (with_reducible refine (C2.out _).mono ?_); rintro e w' ⟨rfl, n1, rfl⟩))
  go_region_held3 (fun w' => w'.cell? ⟨w.heap.size + 1 + 1 + m1, 0, none⟩ = some (.int .u64 D) ∧ w'.cell? ⟨w.heap.size + 1 + 1 + m1, 1, none⟩ = some (.int .u64 U) ∧ Below w.heap.size w w')
    (first | assumption | (refine ⟨?_, ?_, ?_⟩ <;> first | ((repeat (first | with_reducible assumption | with_reducible exact Below.refl _ _ | with_reducible refine Below.drew ?_ | with_reducible refine below_drewN ?_ _ | with_reducible refine bw_alloc ?_ _ | (with_reducible refine bw_set ?_ ?_ _; focus (dsimp only; omega)) | (with_reducible apply bw_behind; with_reducible assumption))); done) | (simp [go_sem, *]; done)))
    ((go_at_call 17; (with_reducible first | refine (C3.out _ ?_).mono ?_ | refine (C4.out _ ?_).mono ?_); (refine hT.behind ?_; repeat (first | with_reducible assumption | with_reducible exact Below.refl _ _ | with_reducible refine Below.drew ?_ | with_reducible refine below_drewN ?_ _ | with_reducible refine bw_alloc ?_ _ | (with_reducible refine bw_set ?_ ?_ _; focus (dsimp only; omega)) | (with_reducible apply bw_behind; with_reducible assumption))); rintro e w' ⟨rfl, n1, rfl⟩))
  all_goals
    go_wp2
    go_region
    go_wp2
    refine bodyPost_ret (v := .tuple #[.agg #[.int .u64 FB, .int .u64 FT, .int .u64 E], .bool O]) (by simp (maxDischargeDepth := 4) [results, Tryd.results7, go_sem, *]) rfl ?_
    refine ⟨rfl, ?_⟩
    repeat (first | with_reducible assumption | with_reducible exact Below.refl _ _ | with_reducible refine Below.drew ?_ | with_reducible refine below_drewN ?_ _ | with_reducible refine bw_alloc ?_ _ | (with_reducible refine bw_set ?_ ?_ _; focus (dsimp only; omega)) | (with_reducible apply bw_behind; with_reducible assumption))

set_option maxHeartbeats 400000 in
theorem encode_not (b t : BitVec 64) (h : ¬ (b.toNat ≤ t.toNat ∧ t.toNat ≤ 281474976710656)) (w : World) :
    Calls Tryd.prog 7 #[.agg #[.int .u64 (b.toNat : Int), .int .u64 (t.toNat : Int)]] w
      (Makes (.tuple #[.agg #[.int .u64 0, .int .u64 0, .int .u64 0], .bool false]) w) := by
  have C1 := hide (fun W => extended_not b t h W)
  generalize (b.toNat : Int) = B at *
  generalize (t.toNat : Int) = T at *
  clear h
  have SS := cell_same
  have LB := ltB_add
  have LS := ltB_self
  have LA := alloc_reads
  have LH := alloc_holds
  go_enter Tryd.func7, Tryd.ntmps7
  go_wp2_with (first | (go_at_call 15; (with_reducible refine (C1.out _).mono ?_); rintro e w1 ⟨rfl, hb1⟩; have hr1 := below_reads hb1; have hh1 := below_holds hb1; obtain ⟨m1, hs1⟩ := below_grew hb1))
  refine bodyPost_ret (v := .tuple #[.agg #[.int .u64 0, .int .u64 0, .int .u64 0], .bool false]) (by simp (maxDischargeDepth := 4) [results, Tryd.results7, go_sem, *]) rfl ?_
  refine ⟨rfl, ?_⟩
  repeat (first | with_reducible assumption | with_reducible exact Below.refl _ _ | with_reducible refine Below.drew ?_ | with_reducible refine below_drewN ?_ _ | with_reducible refine bw_alloc ?_ _ | (with_reducible refine bw_set ?_ ?_ _; focus (dsimp only; omega)) | (with_reducible apply bw_behind; with_reducible assumption))

end Go.Proofs.YtnepnckiciapfaaDoor
