/-
  AlgebraNarrows holds: for every c and l the law returns true and turns nothing that was there, where the table of places holds what the program's text lays.
-/
import Derived.Test.YtbncoiejbclpjaaDoorTabLaid03
import Derived.Test.YtbncoiejbclpjaaDoorAlgLaw
import Derived.Deep.DeepCutAuto
import Derived.Deep.Slices
namespace Go.Proofs.YtbncoiejbclpjaaDoor.AlgebraNarrows
open Go.RowKit Words FieldMath BoundsMath

/-- A step: its kind, its number, whether just that, and a capability. -/
structure Act6 where
  k : Int
  n : BitVec 64
  x : Bool
  r : Bool
  f : BitVec 64
  g : BitVec 64
/-- The cells of a slice of steps. -/
def ActsAt (w : World) (ad : Addr) (l : List Act6) : Prop :=
  ∀ k (h : k < l.length), w.cell? (ad.add (k * 6)) = some (.int .i64 l[k].k) ∧ w.cell? (ad.add (k * 6 + 1)) = some (.int .u64 (l[k].n.toNat : Int)) ∧ w.cell? (ad.add (k * 6 + 2)) = some (.bool l[k].x) ∧
    w.cell? (ad.add (k * 6 + 3)) = some (.bool l[k].r) ∧ w.cell? (ad.add (k * 6 + 4)) = some (.int .u64 (l[k].f.toNat : Int)) ∧ w.cell? (ad.add (k * 6 + 5)) = some (.int .u64 (l[k].g.toNat : Int))
theorem kinds (k : Int) : k = 0 ∨ k = 1 ∨ k = 2 ∨ k = 3 ∨ k = 4 ∨ k = 5 ∨ k = 6 ∨ k = 7 ∨ k = 8 ∨ ((k == 0) = false ∧ (k == 1) = false ∧ (k == 2) = false ∧ (k == 3) = false ∧ (k == 4) = false ∧ (k == 5) = false ∧ (k == 6) = false ∧ (k == 7) = false ∧ (k == 8) = false) := by
  simp only [beq_eq_false_iff_ne]
  omega

/-! What comes of each step. -/
def Steps (f : FuncId) (args : Array Value) (r : Bool) (n b : Nat) : Prop := ∃ (Q : Bool) (M A : Nat), (∀ W, Tab W → Calls Tryd.prog f args W (Makes (.agg #[.bool (Q), .int .u64 ((M : Nat) : Int), .int .u64 ((A : Nat) : Int)]) W)) ∧ Good Q M A r n b ∧ A < 18446744073709551616
theorem step_0 {q : Bool} {m a : Nat} {r : Bool} {f g : Nat} (h : Good q m a r f g) (N : BitVec 64) : Steps 12 #[.agg #[.bool (q), .int .u64 ((m : Nat) : Int), .int .u64 ((a : Nat) : Int)], .int .u64 (N.toNat : Int)] r f g :=
  ⟨_, _, _, fun W hW => address_any q m a N.toNat h.1 W hW, h.addr _, toNat_lt N⟩
theorem step_1 {q : Bool} {m a : Nat} {r : Bool} {f g : Nat} (h : Good q m a r f g) (N : BitVec 64) : Steps 14 #[.agg #[.bool (q), .int .u64 ((m : Nat) : Int), .int .u64 ((a : Nat) : Int)], .int .u64 (N.toNat : Int)] r f g :=
  ⟨_, _, _, fun W hW => move_any q m a N.toNat h.1 W hW, h.addr _, Nat.mod_lt _ (by omega)⟩
theorem step_2 {q : Bool} {m a : Nat} {r : Bool} {f g : Nat} (h : Good q m a r f g) (ha : a < 18446744073709551616) (N : BitVec 64) (x : Bool) : Steps 15 #[.agg #[.bool (q), .int .u64 ((m : Nat) : Int), .int .u64 ((a : Nat) : Int)], .int .u64 (N.toNat : Int), .bool x] r f g := by
  rcases bound_any q x m a N.toNat h.1 ha (toNat_lt N) with ⟨e, D, U, M, hb, c⟩ | ⟨_, c⟩
  · exact ⟨_, _, _, c, h.bnd x hb, ha⟩
  · exact ⟨_, _, _, c, h.clear, ha⟩
theorem step_3 {q : Bool} {m a : Nat} {r : Bool} {f g : Nat} (h : Good q m a r f g) (ha : a < 18446744073709551616) (N : BitVec 64) : Steps 17 #[.agg #[.bool (q), .int .u64 ((m : Nat) : Int), .int .u64 ((a : Nat) : Int)], .int .u64 (N.toNat : Int)] r f g :=
  ⟨_, _, _, fun W hW => and_any q m a N.toNat h.1 (toNat_lt N) W hW, h.and _, ha⟩
theorem step_4 {q : Bool} {m a : Nat} {r : Bool} {f g : Nat} (h : Good q m a r f g) (ha : a < 18446744073709551616) (s : Bool) (n b : BitVec 64) : Steps 20 #[.agg #[.bool (q), .int .u64 ((m : Nat) : Int), .int .u64 ((a : Nat) : Int)], .agg #[.bool s, .int .u64 (n.toNat : Int), .int .u64 (b.toNat : Int)]] r f g :=
  ⟨_, _, _, fun W hW => seal_any q s m a n.toNat b.toNat h.1 (toNat_lt n) (toNat_lt b) W hW, h.sealedAs _ _ _, ha⟩
theorem step_5 {q : Bool} {m a : Nat} {r : Bool} {f g : Nat} (h : Good q m a r f g) (ha : a < 18446744073709551616) : Steps 24 #[.agg #[.bool (q), .int .u64 ((m : Nat) : Int), .int .u64 ((a : Nat) : Int)]] r f g :=
  ⟨_, _, _, fun W hW => enter_any q m a h.1 W hW, h.enter, ha⟩
theorem step_6 {q : Bool} {m a : Nat} {r : Bool} {f g : Nat} (h : Good q m a r f g) (ha : a < 18446744073709551616) : Steps 26 #[.agg #[.bool (q), .int .u64 ((m : Nat) : Int), .int .u64 ((a : Nat) : Int)]] r f g :=
  ⟨_, _, _, fun W hW => opened_any q m a h.1 W hW, h.opened, ha⟩
theorem step_7 {q : Bool} {m a : Nat} {r : Bool} {f g : Nat} (h : Good q m a r f g) (ha : a < 18446744073709551616) : Steps 10 #[.agg #[.bool (q), .int .u64 ((m : Nat) : Int), .int .u64 ((a : Nat) : Int)]] r f g :=
  ⟨_, _, _, fun W hW => clear_any q (m : Int) (a : Int) W hW, h.clear, ha⟩
theorem step_8 {q : Bool} {m a : Nat} {r : Bool} {f g : Nat} (h : Good q m a r f g) (s : Bool) (n b : BitVec 64) :
    ∃ Q : Bool, (∀ W, Tab W → Calls Tryd.prog 28 #[.agg #[.bool (q), .int .u64 ((m : Nat) : Int), .int .u64 ((a : Nat) : Int)], .agg #[.bool s, .int .u64 (n.toNat : Int), .int .u64 (b.toNat : Int)]] W (Makes (.agg #[.bool (Q), .int .u64 ((m : Nat) : Int), .int .u64 ((a : Nat) : Int)]) W)) ∧ (Q = true → Good true m a s n.toNat b.toNat) ∧ Good false m a r f g :=
  ⟨_, fun W hW => build_any q s m a n.toNat b.toNat h.1 (toNat_lt n) W hW, fun hq => by
    have := h.build s n.toNat b.toNat hq
    rw [hq] at this
    exact this, h.clear⟩
theorem asked_right {m a : Nat} {f g : Nat} {r : Bool} (h : Good true m a r f g) : ∀ W, Tab W → Calls Tryd.prog 30 #[.agg #[.bool (true), .int .u64 ((m : Nat) : Int), .int .u64 ((a : Nat) : Int)]] W (Makes (.bool true) W) := fun W hW => by
  have := right_any true m a h.1 W hW
  rw [(h.2 rfl).1] at this
  exact this
theorem asked_within {m a : Nat} {f g : Nat} {r : Bool} (h : Good true m a r f g) (hf : f < 18446744073709551616) : ∀ W, Tab W → Calls Tryd.prog 31 #[.agg #[.bool (true), .int .u64 ((m : Nat) : Int), .int .u64 ((a : Nat) : Int)], .agg #[.bool (r), .int .u64 ((f : Nat) : Int), .int .u64 ((g : Nat) : Int)]] W (Makes (.bool true) W) := fun W hW => by
  have := cwithin_any true r m a f g h.1 hf W hW
  rw [(h.2 rfl).2.1] at this
  exact this

set_option maxRecDepth 100000 in
set_option maxHeartbeats 40000000 in
theorem walkAt (q : Bool) (m a : Nat) (hm : m < 18446744073709551616) (ha : a < 18446744073709551616) (hgood : (q && !rightB m a) = false) (ad : Addr) (l : List Act6) (len cap n : Nat) (w : World) (hT : Tab w)
    (hn : (len ≤ 60 ∧ len = n) ∨ (60 < len ∧ n = 60)) (hl : l.length = n) (hcap : len ≤ cap) (hmax : cap ≤ 9223372036854775807) (hc : ActsAt w ad l) :
    Calls Tryd.prog 5 #[.agg #[.bool q, .int .u64 ((m : Nat) : Int), .int .u64 ((a : Nat) : Int)], .slice (some ad) len cap] w fun e w' => e = .returned (.bool true) ∧ Below w.heap.size w w' := by
  have HC := hide hc
  clear hc
  have CO := hide one_any
  have h1 : ∀ W, Tab W → Calls Tryd.prog 30 #[.agg #[.bool q, .int .u64 ((m : Nat) : Int), .int .u64 ((a : Nat) : Int)]] W (Makes (.bool (rightB m a)) W) := fun W hW => right_any q m a hm W hW
  have hbeg := Good.begin hm hgood
  have SS := cell_same
  have LB' := ltB_add
  have LS := ltB_self
  have LA' := alloc_reads
  have LH := alloc_holds
  go_enter Tryd.func5, Tryd.ntmps5
  go_upto_if 11 with fail
  go_cut [1] (fun s1 wx => s1 = .slice (some ad) n cap ∧ wx = w.alloc (.cells #[.bool q, .int .u64 ((m : Nat) : Int), .int .u64 ((a : Nat) : Int)] 24))
  case first =>
    rcases hn with ⟨h60, rfl⟩ | ⟨h60, rfl⟩
    · have h60b : decide ((60 : Int) < (len : Int)) = false := by simp; omega
      go_wp2_with fail
      go_meet
      exact ⟨rfl, rfl⟩
    · have h60b : decide ((60 : Int) < (len : Int)) = true := by simp; omega
      go_wp2_with fail
      go_meet
      exact ⟨rfl, rfl⟩
  case rest =>
    obtain ⟨rfl, rfl⟩ := hcut
    have hnc : n ≤ cap := by omega
    clear hn
    go_upto_region 3 with fail
    go_cut [20] (fun s20 wx => s20 = .bool false ∧ wx.cell? ⟨w.heap.size, 0, none⟩ = some (.bool q) ∧ wx.cell? ⟨w.heap.size, 1, none⟩ = some (.int .u64 ((m : Nat) : Int)) ∧ wx.cell? ⟨w.heap.size, 2, none⟩ = some (.int .u64 ((a : Nat) : Int)) ∧ Tab wx ∧ Below w.heap.size w wx)
    case first =>
      cases q with
      | false =>
        go_wp2_with fail
        go_meet
        refine ⟨rfl, ?_, ?_, ?_, ?_, ?_⟩
        all_goals (first | with_reducible assumption | ((repeat (first | with_reducible assumption | with_reducible refine c_dr _ ?_ | with_reducible refine c_d1 ?_ | with_reducible refine c_al _ ?_ | (with_reducible refine c_set ?_ ?_; focus (dsimp only; omega)) | (with_reducible apply c_be; with_reducible assumption))); done) | ((repeat (first | with_reducible assumption | with_reducible refine o_dr _ ?_ | with_reducible refine o_d1 ?_ | with_reducible refine o_set ?_ | (with_reducible refine o_new ?_ ?_; (focus (simp)); (focus (simp))) | with_reducible refine o_al _ ?_ | (with_reducible apply o_be; with_reducible assumption))); done) | ((repeat (first | with_reducible assumption | with_reducible exact Below.refl _ _ | with_reducible refine Below.drew ?_ | with_reducible refine below_drewN ?_ _ | with_reducible refine bw_alloc ?_ _ | (with_reducible refine bw_set ?_ ?_ _; focus (dsimp only; omega)) | (with_reducible apply bw_behind; with_reducible assumption))); done) | (refine hT.behind ?_; (repeat (first | with_reducible assumption | with_reducible exact Below.refl _ _ | with_reducible refine Below.drew ?_ | with_reducible refine below_drewN ?_ _ | with_reducible refine bw_alloc ?_ _ | (with_reducible refine bw_set ?_ ?_ _; focus (dsimp only; omega)) | (with_reducible apply bw_behind; with_reducible assumption))); done) | (simp [go_sem, *]; omega) | (simp (maxDischargeDepth := 4) [go_sem, *]; done))
      | true =>
        have hr : rightB m a = true := by simpa using hgood
        rw [hr] at h1
        have C1 := hide h1
        clear h1
        go_wp2_with (first | (go_at_call 30; (first | ((with_reducible refine (C1.out _ ?_).mono ?_); (refine hT.behind ?_; repeat (first | with_reducible assumption | with_reducible exact Below.refl _ _ | with_reducible refine Below.drew ?_ | with_reducible refine below_drewN ?_ _ | with_reducible refine bw_alloc ?_ _ | (with_reducible refine bw_set ?_ ?_ _; focus (dsimp only; omega)) | (with_reducible apply bw_behind; with_reducible assumption))))); rintro e wa ⟨rfl, hba⟩; have hra := below_reads hba; have hha := below_holds hba; obtain ⟨ma, hsa⟩ := below_grew hba))
        go_meet
        refine ⟨rfl, ?_, ?_, ?_, ?_, ?_⟩
        all_goals (first | with_reducible assumption | ((repeat (first | with_reducible assumption | with_reducible refine c_dr _ ?_ | with_reducible refine c_d1 ?_ | with_reducible refine c_al _ ?_ | (with_reducible refine c_set ?_ ?_; focus (dsimp only; omega)) | (with_reducible apply c_be; with_reducible assumption))); done) | ((repeat (first | with_reducible assumption | with_reducible refine o_dr _ ?_ | with_reducible refine o_d1 ?_ | with_reducible refine o_set ?_ | (with_reducible refine o_new ?_ ?_; (focus (simp)); (focus (simp))) | with_reducible refine o_al _ ?_ | (with_reducible apply o_be; with_reducible assumption))); done) | ((repeat (first | with_reducible assumption | with_reducible exact Below.refl _ _ | with_reducible refine Below.drew ?_ | with_reducible refine below_drewN ?_ _ | with_reducible refine bw_alloc ?_ _ | (with_reducible refine bw_set ?_ ?_ _; focus (dsimp only; omega)) | (with_reducible apply bw_behind; with_reducible assumption))); done) | (refine hT.behind ?_; (repeat (first | with_reducible assumption | with_reducible exact Below.refl _ _ | with_reducible refine Below.drew ?_ | with_reducible refine below_drewN ?_ _ | with_reducible refine bw_alloc ?_ _ | (with_reducible refine bw_set ?_ ?_ _; focus (dsimp only; omega)) | (with_reducible apply bw_behind; with_reducible assumption))); done) | (simp [go_sem, *]; omega) | (simp (maxDischargeDepth := 4) [go_sem, *]; done))
    case rest =>
      obtain ⟨rfl, c0, c1, c2, hT0, hB0⟩ := hcut
      have hlt := World.block_lt_of_cell? wc _ c0
      obtain ⟨j, hj⟩ : ∃ j, wc.heap.size = w.heap.size + 1 + j := ⟨wc.heap.size - (w.heap.size + 1), by dsimp only at hlt; omega⟩
      clear hlt h1
      go_wp2_with fail
      go_loopw [7] (fun i wr => ∃ (k : Nat) (q : Bool) (m a : Nat) (r : Bool) (f g : Nat), k ≤ n ∧ i = .int .i64 (k : Int) ∧ Good q m a r f g ∧ a < 18446744073709551616 ∧ f < 18446744073709551616 ∧ wr.cell? ⟨w.heap.size + 1 + j, 0, none⟩ = some (.bool r) ∧ wr.cell? ⟨w.heap.size + 1 + j, 1, none⟩ = some (.int .u64 ((f : Nat) : Int)) ∧ wr.cell? ⟨w.heap.size + 1 + j, 2, none⟩ = some (.int .u64 ((g : Nat) : Int)) ∧ wr.cell? ⟨w.heap.size + 1 + j + 1, 0, none⟩ = some (.bool q) ∧ wr.cell? ⟨w.heap.size + 1 + j + 1, 1, none⟩ = some (.int .u64 ((m : Nat) : Int)) ∧ wr.cell? ⟨w.heap.size + 1 + j + 1, 2, none⟩ = some (.int .u64 ((a : Nat) : Int)) ∧ Own wr (w.heap.size + 1 + j) 3 ∧ Own wr (w.heap.size + 1 + j + 1) 3 ∧ Tab wr ∧ Below w.heap.size w wr) (fun i _ => n - (intOf i).toNat)
      case atStart =>
        refine ⟨0, q, m, a, q, m, a, by omega, rfl, hbeg, ha, hm, ?_, ?_, ?_, ?_, ?_, ?_, ?_, ?_, ?_, ?_⟩
        all_goals (first | (first | with_reducible assumption | ((repeat (first | with_reducible assumption | with_reducible refine c_dr _ ?_ | with_reducible refine c_d1 ?_ | with_reducible refine c_al _ ?_ | (with_reducible refine c_set ?_ ?_; focus (dsimp only; omega)) | (with_reducible apply c_be; with_reducible assumption))); done) | ((repeat (first | with_reducible assumption | with_reducible refine o_dr _ ?_ | with_reducible refine o_d1 ?_ | with_reducible refine o_set ?_ | (with_reducible refine o_new ?_ ?_; (focus (simp)); (focus (simp))) | with_reducible refine o_al _ ?_ | (with_reducible apply o_be; with_reducible assumption))); done) | ((repeat (first | with_reducible assumption | with_reducible exact Below.refl _ _ | with_reducible refine Below.drew ?_ | with_reducible refine below_drewN ?_ _ | with_reducible refine bw_alloc ?_ _ | (with_reducible refine bw_set ?_ ?_ _; focus (dsimp only; omega)) | (with_reducible apply bw_behind; with_reducible assumption))); done) | (refine hT.behind ?_; (repeat (first | with_reducible assumption | with_reducible exact Below.refl _ _ | with_reducible refine Below.drew ?_ | with_reducible refine below_drewN ?_ _ | with_reducible refine bw_alloc ?_ _ | (with_reducible refine bw_set ?_ ?_ _; focus (dsimp only; omega)) | (with_reducible apply bw_behind; with_reducible assumption))); done) | (simp [go_sem, *]; omega) | (simp (maxDischargeDepth := 4) [go_sem, *]; done)) | (simp [go_sem, hj]; done) | (rw [← hj]; (first | with_reducible assumption | ((repeat (first | with_reducible assumption | with_reducible refine c_dr _ ?_ | with_reducible refine c_d1 ?_ | with_reducible refine c_al _ ?_ | (with_reducible refine c_set ?_ ?_; focus (dsimp only; omega)) | (with_reducible apply c_be; with_reducible assumption))); done) | ((repeat (first | with_reducible assumption | with_reducible refine o_dr _ ?_ | with_reducible refine o_d1 ?_ | with_reducible refine o_set ?_ | (with_reducible refine o_new ?_ ?_; (focus (simp)); (focus (simp))) | with_reducible refine o_al _ ?_ | (with_reducible apply o_be; with_reducible assumption))); done) | ((repeat (first | with_reducible assumption | with_reducible exact Below.refl _ _ | with_reducible refine Below.drew ?_ | with_reducible refine below_drewN ?_ _ | with_reducible refine bw_alloc ?_ _ | (with_reducible refine bw_set ?_ ?_ _; focus (dsimp only; omega)) | (with_reducible apply bw_behind; with_reducible assumption))); done) | (refine hT.behind ?_; (repeat (first | with_reducible assumption | with_reducible exact Below.refl _ _ | with_reducible refine Below.drew ?_ | with_reducible refine below_drewN ?_ _ | with_reducible refine bw_alloc ?_ _ | (with_reducible refine bw_set ?_ ?_ _; focus (dsimp only; omega)) | (with_reducible apply bw_behind; with_reducible assumption))); done) | (simp [go_sem, *]; omega) | (simp (maxDischargeDepth := 4) [go_sem, *]; done))))
      case round =>
        obtain ⟨k, q, m, a, r, f, g, hk, rfl, hG, ha, hf, d0, d1, d2, e0, e1, e2, hO5, hO6, hT2, hB2⟩ := hrel
        by_cases hlt : k < n
        · have hkl : k < l.length := by omega
          obtain ⟨a0, a1, a2, a3, a4, a5⟩ := HC.out k hkl
          have hspot : ad.spot = none := by
            have := World.cell?_spot (HC.out 0 (by omega)).1
            simpa [Addr.add] using this
          obtain ⟨b, off, spot⟩ := ad
          simp only at hspot
          subst hspot
          have ea : ∀ j, (⟨b, off, none⟩ : Addr).add j = ⟨b, off + j, none⟩ := fun j => by unfold Addr.add; split <;> simp_all
          rw [ea] at a0 a1 a2 a3 a4 a5
          rw [← Nat.add_assoc] at a1 a2 a3 a4 a5
          generalize l[k].k = K at *
          generalize l[k].n = N at *
          generalize l[k].x = X at *
          generalize l[k].r = R at *
          generalize l[k].f = F0 at *
          generalize l[k].g = G at *
          have b0 := c_be hB2 a0
          have b1 := c_be hB2 a1
          have b2 := c_be hB2 a2
          have b3 := c_be hB2 a3
          have b4 := c_be hB2 a4
          have b5 := c_be hB2 a5
          have hx : (k : Int) < (n : Int) := by omega
          have hx0 : (0 : Int) ≤ (k : Int) := by omega
          have hlt2 := World.block_lt_of_cell? _ _ e0
          obtain ⟨z, hz⟩ : ∃ z, wr.heap.size = w.heap.size + 1 + j + 1 + 1 + z := ⟨wr.heap.size - (w.heap.size + 1 + j + 1 + 1), by dsimp only at hlt2; omega⟩
          have f50 := hO5.free 0 (by omega)
          have f51 := hO5.free 1 (by omega)
          have f52 := hO5.free 2 (by omega)
          have f60 := hO6.free 0 (by omega)
          have f61 := hO6.free 1 (by omega)
          have f62 := hO6.free 2 (by omega)
          clear ea a0 a1 a2 a3 a4 a5 hlt2
          rcases kinds K with rfl | rfl | rfl | rfl | rfl | rfl | rfl | rfl | rfl | ⟨t0, t1, t2, t3, t4, t5, t6, t7, t8⟩
          · -- kind 0
            obtain ⟨Q, M, A, hC, hG2, hA⟩ := step_0 hG N
            have CX := hide hC
            clear hC
            cases Q with
            | false =>
              go_wp2_with (first | (go_at_call 12; (first | ((with_reducible refine (CX.out _ ?_).mono ?_); (refine hT.behind ?_; repeat (first | with_reducible assumption | with_reducible exact Below.refl _ _ | with_reducible refine Below.drew ?_ | with_reducible refine below_drewN ?_ _ | with_reducible refine bw_alloc ?_ _ | (with_reducible refine bw_set ?_ ?_ _; focus (dsimp only; omega)) | (with_reducible apply bw_behind; with_reducible assumption))))); rintro e wx ⟨rfl, hbx⟩; have hrx := below_reads hbx; have hhx := below_holds hbx; obtain ⟨mx, hsx⟩ := below_grew hbx))
              go_round
              case rel =>
                refine ⟨k + 1, false, M, A, r, f, g, by omega, by go_num, hG2, hA, hf, ?_, ?_, ?_, ?_, ?_, ?_, ?_, ?_, ?_, ?_⟩
                all_goals (first | with_reducible assumption | ((repeat (first | with_reducible assumption | with_reducible refine c_dr _ ?_ | with_reducible refine c_d1 ?_ | with_reducible refine c_al _ ?_ | (with_reducible refine c_set ?_ ?_; focus (dsimp only; omega)) | (with_reducible apply c_be; with_reducible assumption))); done) | ((repeat (first | with_reducible assumption | with_reducible refine o_dr _ ?_ | with_reducible refine o_d1 ?_ | with_reducible refine o_set ?_ | (with_reducible refine o_new ?_ ?_; (focus (simp)); (focus (simp))) | with_reducible refine o_al _ ?_ | (with_reducible apply o_be; with_reducible assumption))); done) | ((repeat (first | with_reducible assumption | with_reducible exact Below.refl _ _ | with_reducible refine Below.drew ?_ | with_reducible refine below_drewN ?_ _ | with_reducible refine bw_alloc ?_ _ | (with_reducible refine bw_set ?_ ?_ _; focus (dsimp only; omega)) | (with_reducible apply bw_behind; with_reducible assumption))); done) | (refine hT.behind ?_; (repeat (first | with_reducible assumption | with_reducible exact Below.refl _ _ | with_reducible refine Below.drew ?_ | with_reducible refine below_drewN ?_ _ | with_reducible refine bw_alloc ?_ _ | (with_reducible refine bw_set ?_ ?_ _; focus (dsimp only; omega)) | (with_reducible apply bw_behind; with_reducible assumption))); done) | (simp [go_sem, *]; omega) | (simp (maxDischargeDepth := 4) [go_sem, *]; done))
              case measure => simp [intOf]; omega
            | true =>
              have hr := (hG2.2 rfl).2.2
              subst hr
              have CR := hide (asked_right hG2)
              have CW := hide (asked_within hG2 hf)
              go_wp2_with (first | (go_at_call 12; (first | ((with_reducible refine (CX.out _ ?_).mono ?_); (refine hT.behind ?_; repeat (first | with_reducible assumption | with_reducible exact Below.refl _ _ | with_reducible refine Below.drew ?_ | with_reducible refine below_drewN ?_ _ | with_reducible refine bw_alloc ?_ _ | (with_reducible refine bw_set ?_ ?_ _; focus (dsimp only; omega)) | (with_reducible apply bw_behind; with_reducible assumption))))); rintro e wx ⟨rfl, hbx⟩; have hrx := below_reads hbx; have hhx := below_holds hbx; obtain ⟨mx, hsx⟩ := below_grew hbx) | (go_at_call 30; (first | ((with_reducible refine (CR.out _ ?_).mono ?_); (refine hT.behind ?_; repeat (first | with_reducible assumption | with_reducible exact Below.refl _ _ | with_reducible refine Below.drew ?_ | with_reducible refine below_drewN ?_ _ | with_reducible refine bw_alloc ?_ _ | (with_reducible refine bw_set ?_ ?_ _; focus (dsimp only; omega)) | (with_reducible apply bw_behind; with_reducible assumption))))); rintro e wy ⟨rfl, hby⟩; have hry := below_reads hby; have hhy := below_holds hby; obtain ⟨my, hsy⟩ := below_grew hby) | (go_at_call 31; (first | ((with_reducible refine (CW.out _ ?_).mono ?_); (refine hT.behind ?_; repeat (first | with_reducible assumption | with_reducible exact Below.refl _ _ | with_reducible refine Below.drew ?_ | with_reducible refine below_drewN ?_ _ | with_reducible refine bw_alloc ?_ _ | (with_reducible refine bw_set ?_ ?_ _; focus (dsimp only; omega)) | (with_reducible apply bw_behind; with_reducible assumption))))); rintro e wz ⟨rfl, hbz⟩; have hrz := below_reads hbz; have hhz := below_holds hbz; obtain ⟨mz, hsz⟩ := below_grew hbz))
              go_round
              case rel =>
                refine ⟨k + 1, true, M, A, true, f, g, by omega, by go_num, hG2, hA, hf, ?_, ?_, ?_, ?_, ?_, ?_, ?_, ?_, ?_, ?_⟩
                all_goals (first | with_reducible assumption | ((repeat (first | with_reducible assumption | with_reducible refine c_dr _ ?_ | with_reducible refine c_d1 ?_ | with_reducible refine c_al _ ?_ | (with_reducible refine c_set ?_ ?_; focus (dsimp only; omega)) | (with_reducible apply c_be; with_reducible assumption))); done) | ((repeat (first | with_reducible assumption | with_reducible refine o_dr _ ?_ | with_reducible refine o_d1 ?_ | with_reducible refine o_set ?_ | (with_reducible refine o_new ?_ ?_; (focus (simp)); (focus (simp))) | with_reducible refine o_al _ ?_ | (with_reducible apply o_be; with_reducible assumption))); done) | ((repeat (first | with_reducible assumption | with_reducible exact Below.refl _ _ | with_reducible refine Below.drew ?_ | with_reducible refine below_drewN ?_ _ | with_reducible refine bw_alloc ?_ _ | (with_reducible refine bw_set ?_ ?_ _; focus (dsimp only; omega)) | (with_reducible apply bw_behind; with_reducible assumption))); done) | (refine hT.behind ?_; (repeat (first | with_reducible assumption | with_reducible exact Below.refl _ _ | with_reducible refine Below.drew ?_ | with_reducible refine below_drewN ?_ _ | with_reducible refine bw_alloc ?_ _ | (with_reducible refine bw_set ?_ ?_ _; focus (dsimp only; omega)) | (with_reducible apply bw_behind; with_reducible assumption))); done) | (simp [go_sem, *]; omega) | (simp (maxDischargeDepth := 4) [go_sem, *]; done))
              case measure => simp [intOf]; omega
          · -- kind 1
            obtain ⟨Q, M, A, hC, hG2, hA⟩ := step_1 hG N
            have CX := hide hC
            clear hC
            cases Q with
            | false =>
              go_wp2_with (first | (go_at_call 14; (first | ((with_reducible refine (CX.out _ ?_).mono ?_); (refine hT.behind ?_; repeat (first | with_reducible assumption | with_reducible exact Below.refl _ _ | with_reducible refine Below.drew ?_ | with_reducible refine below_drewN ?_ _ | with_reducible refine bw_alloc ?_ _ | (with_reducible refine bw_set ?_ ?_ _; focus (dsimp only; omega)) | (with_reducible apply bw_behind; with_reducible assumption))))); rintro e wx ⟨rfl, hbx⟩; have hrx := below_reads hbx; have hhx := below_holds hbx; obtain ⟨mx, hsx⟩ := below_grew hbx))
              go_round
              case rel =>
                refine ⟨k + 1, false, M, A, r, f, g, by omega, by go_num, hG2, hA, hf, ?_, ?_, ?_, ?_, ?_, ?_, ?_, ?_, ?_, ?_⟩
                all_goals (first | with_reducible assumption | ((repeat (first | with_reducible assumption | with_reducible refine c_dr _ ?_ | with_reducible refine c_d1 ?_ | with_reducible refine c_al _ ?_ | (with_reducible refine c_set ?_ ?_; focus (dsimp only; omega)) | (with_reducible apply c_be; with_reducible assumption))); done) | ((repeat (first | with_reducible assumption | with_reducible refine o_dr _ ?_ | with_reducible refine o_d1 ?_ | with_reducible refine o_set ?_ | (with_reducible refine o_new ?_ ?_; (focus (simp)); (focus (simp))) | with_reducible refine o_al _ ?_ | (with_reducible apply o_be; with_reducible assumption))); done) | ((repeat (first | with_reducible assumption | with_reducible exact Below.refl _ _ | with_reducible refine Below.drew ?_ | with_reducible refine below_drewN ?_ _ | with_reducible refine bw_alloc ?_ _ | (with_reducible refine bw_set ?_ ?_ _; focus (dsimp only; omega)) | (with_reducible apply bw_behind; with_reducible assumption))); done) | (refine hT.behind ?_; (repeat (first | with_reducible assumption | with_reducible exact Below.refl _ _ | with_reducible refine Below.drew ?_ | with_reducible refine below_drewN ?_ _ | with_reducible refine bw_alloc ?_ _ | (with_reducible refine bw_set ?_ ?_ _; focus (dsimp only; omega)) | (with_reducible apply bw_behind; with_reducible assumption))); done) | (simp [go_sem, *]; omega) | (simp (maxDischargeDepth := 4) [go_sem, *]; done))
              case measure => simp [intOf]; omega
            | true =>
              have hr := (hG2.2 rfl).2.2
              subst hr
              have CR := hide (asked_right hG2)
              have CW := hide (asked_within hG2 hf)
              go_wp2_with (first | (go_at_call 14; (first | ((with_reducible refine (CX.out _ ?_).mono ?_); (refine hT.behind ?_; repeat (first | with_reducible assumption | with_reducible exact Below.refl _ _ | with_reducible refine Below.drew ?_ | with_reducible refine below_drewN ?_ _ | with_reducible refine bw_alloc ?_ _ | (with_reducible refine bw_set ?_ ?_ _; focus (dsimp only; omega)) | (with_reducible apply bw_behind; with_reducible assumption))))); rintro e wx ⟨rfl, hbx⟩; have hrx := below_reads hbx; have hhx := below_holds hbx; obtain ⟨mx, hsx⟩ := below_grew hbx) | (go_at_call 30; (first | ((with_reducible refine (CR.out _ ?_).mono ?_); (refine hT.behind ?_; repeat (first | with_reducible assumption | with_reducible exact Below.refl _ _ | with_reducible refine Below.drew ?_ | with_reducible refine below_drewN ?_ _ | with_reducible refine bw_alloc ?_ _ | (with_reducible refine bw_set ?_ ?_ _; focus (dsimp only; omega)) | (with_reducible apply bw_behind; with_reducible assumption))))); rintro e wy ⟨rfl, hby⟩; have hry := below_reads hby; have hhy := below_holds hby; obtain ⟨my, hsy⟩ := below_grew hby) | (go_at_call 31; (first | ((with_reducible refine (CW.out _ ?_).mono ?_); (refine hT.behind ?_; repeat (first | with_reducible assumption | with_reducible exact Below.refl _ _ | with_reducible refine Below.drew ?_ | with_reducible refine below_drewN ?_ _ | with_reducible refine bw_alloc ?_ _ | (with_reducible refine bw_set ?_ ?_ _; focus (dsimp only; omega)) | (with_reducible apply bw_behind; with_reducible assumption))))); rintro e wz ⟨rfl, hbz⟩; have hrz := below_reads hbz; have hhz := below_holds hbz; obtain ⟨mz, hsz⟩ := below_grew hbz))
              go_round
              case rel =>
                refine ⟨k + 1, true, M, A, true, f, g, by omega, by go_num, hG2, hA, hf, ?_, ?_, ?_, ?_, ?_, ?_, ?_, ?_, ?_, ?_⟩
                all_goals (first | with_reducible assumption | ((repeat (first | with_reducible assumption | with_reducible refine c_dr _ ?_ | with_reducible refine c_d1 ?_ | with_reducible refine c_al _ ?_ | (with_reducible refine c_set ?_ ?_; focus (dsimp only; omega)) | (with_reducible apply c_be; with_reducible assumption))); done) | ((repeat (first | with_reducible assumption | with_reducible refine o_dr _ ?_ | with_reducible refine o_d1 ?_ | with_reducible refine o_set ?_ | (with_reducible refine o_new ?_ ?_; (focus (simp)); (focus (simp))) | with_reducible refine o_al _ ?_ | (with_reducible apply o_be; with_reducible assumption))); done) | ((repeat (first | with_reducible assumption | with_reducible exact Below.refl _ _ | with_reducible refine Below.drew ?_ | with_reducible refine below_drewN ?_ _ | with_reducible refine bw_alloc ?_ _ | (with_reducible refine bw_set ?_ ?_ _; focus (dsimp only; omega)) | (with_reducible apply bw_behind; with_reducible assumption))); done) | (refine hT.behind ?_; (repeat (first | with_reducible assumption | with_reducible exact Below.refl _ _ | with_reducible refine Below.drew ?_ | with_reducible refine below_drewN ?_ _ | with_reducible refine bw_alloc ?_ _ | (with_reducible refine bw_set ?_ ?_ _; focus (dsimp only; omega)) | (with_reducible apply bw_behind; with_reducible assumption))); done) | (simp [go_sem, *]; omega) | (simp (maxDischargeDepth := 4) [go_sem, *]; done))
              case measure => simp [intOf]; omega
          · -- kind 2
            obtain ⟨Q, M, A, hC, hG2, hA⟩ := step_2 hG ha N X
            have CX := hide hC
            clear hC
            cases Q with
            | false =>
              go_wp2_with (first | (go_at_call 15; (first | ((with_reducible refine (CX.out _ ?_).mono ?_); (refine hT.behind ?_; repeat (first | with_reducible assumption | with_reducible exact Below.refl _ _ | with_reducible refine Below.drew ?_ | with_reducible refine below_drewN ?_ _ | with_reducible refine bw_alloc ?_ _ | (with_reducible refine bw_set ?_ ?_ _; focus (dsimp only; omega)) | (with_reducible apply bw_behind; with_reducible assumption))))); rintro e wx ⟨rfl, hbx⟩; have hrx := below_reads hbx; have hhx := below_holds hbx; obtain ⟨mx, hsx⟩ := below_grew hbx))
              go_round
              case rel =>
                refine ⟨k + 1, false, M, A, r, f, g, by omega, by go_num, hG2, hA, hf, ?_, ?_, ?_, ?_, ?_, ?_, ?_, ?_, ?_, ?_⟩
                all_goals (first | with_reducible assumption | ((repeat (first | with_reducible assumption | with_reducible refine c_dr _ ?_ | with_reducible refine c_d1 ?_ | with_reducible refine c_al _ ?_ | (with_reducible refine c_set ?_ ?_; focus (dsimp only; omega)) | (with_reducible apply c_be; with_reducible assumption))); done) | ((repeat (first | with_reducible assumption | with_reducible refine o_dr _ ?_ | with_reducible refine o_d1 ?_ | with_reducible refine o_set ?_ | (with_reducible refine o_new ?_ ?_; (focus (simp)); (focus (simp))) | with_reducible refine o_al _ ?_ | (with_reducible apply o_be; with_reducible assumption))); done) | ((repeat (first | with_reducible assumption | with_reducible exact Below.refl _ _ | with_reducible refine Below.drew ?_ | with_reducible refine below_drewN ?_ _ | with_reducible refine bw_alloc ?_ _ | (with_reducible refine bw_set ?_ ?_ _; focus (dsimp only; omega)) | (with_reducible apply bw_behind; with_reducible assumption))); done) | (refine hT.behind ?_; (repeat (first | with_reducible assumption | with_reducible exact Below.refl _ _ | with_reducible refine Below.drew ?_ | with_reducible refine below_drewN ?_ _ | with_reducible refine bw_alloc ?_ _ | (with_reducible refine bw_set ?_ ?_ _; focus (dsimp only; omega)) | (with_reducible apply bw_behind; with_reducible assumption))); done) | (simp [go_sem, *]; omega) | (simp (maxDischargeDepth := 4) [go_sem, *]; done))
              case measure => simp [intOf]; omega
            | true =>
              have hr := (hG2.2 rfl).2.2
              subst hr
              have CR := hide (asked_right hG2)
              have CW := hide (asked_within hG2 hf)
              go_wp2_with (first | (go_at_call 15; (first | ((with_reducible refine (CX.out _ ?_).mono ?_); (refine hT.behind ?_; repeat (first | with_reducible assumption | with_reducible exact Below.refl _ _ | with_reducible refine Below.drew ?_ | with_reducible refine below_drewN ?_ _ | with_reducible refine bw_alloc ?_ _ | (with_reducible refine bw_set ?_ ?_ _; focus (dsimp only; omega)) | (with_reducible apply bw_behind; with_reducible assumption))))); rintro e wx ⟨rfl, hbx⟩; have hrx := below_reads hbx; have hhx := below_holds hbx; obtain ⟨mx, hsx⟩ := below_grew hbx) | (go_at_call 30; (first | ((with_reducible refine (CR.out _ ?_).mono ?_); (refine hT.behind ?_; repeat (first | with_reducible assumption | with_reducible exact Below.refl _ _ | with_reducible refine Below.drew ?_ | with_reducible refine below_drewN ?_ _ | with_reducible refine bw_alloc ?_ _ | (with_reducible refine bw_set ?_ ?_ _; focus (dsimp only; omega)) | (with_reducible apply bw_behind; with_reducible assumption))))); rintro e wy ⟨rfl, hby⟩; have hry := below_reads hby; have hhy := below_holds hby; obtain ⟨my, hsy⟩ := below_grew hby) | (go_at_call 31; (first | ((with_reducible refine (CW.out _ ?_).mono ?_); (refine hT.behind ?_; repeat (first | with_reducible assumption | with_reducible exact Below.refl _ _ | with_reducible refine Below.drew ?_ | with_reducible refine below_drewN ?_ _ | with_reducible refine bw_alloc ?_ _ | (with_reducible refine bw_set ?_ ?_ _; focus (dsimp only; omega)) | (with_reducible apply bw_behind; with_reducible assumption))))); rintro e wz ⟨rfl, hbz⟩; have hrz := below_reads hbz; have hhz := below_holds hbz; obtain ⟨mz, hsz⟩ := below_grew hbz))
              go_round
              case rel =>
                refine ⟨k + 1, true, M, A, true, f, g, by omega, by go_num, hG2, hA, hf, ?_, ?_, ?_, ?_, ?_, ?_, ?_, ?_, ?_, ?_⟩
                all_goals (first | with_reducible assumption | ((repeat (first | with_reducible assumption | with_reducible refine c_dr _ ?_ | with_reducible refine c_d1 ?_ | with_reducible refine c_al _ ?_ | (with_reducible refine c_set ?_ ?_; focus (dsimp only; omega)) | (with_reducible apply c_be; with_reducible assumption))); done) | ((repeat (first | with_reducible assumption | with_reducible refine o_dr _ ?_ | with_reducible refine o_d1 ?_ | with_reducible refine o_set ?_ | (with_reducible refine o_new ?_ ?_; (focus (simp)); (focus (simp))) | with_reducible refine o_al _ ?_ | (with_reducible apply o_be; with_reducible assumption))); done) | ((repeat (first | with_reducible assumption | with_reducible exact Below.refl _ _ | with_reducible refine Below.drew ?_ | with_reducible refine below_drewN ?_ _ | with_reducible refine bw_alloc ?_ _ | (with_reducible refine bw_set ?_ ?_ _; focus (dsimp only; omega)) | (with_reducible apply bw_behind; with_reducible assumption))); done) | (refine hT.behind ?_; (repeat (first | with_reducible assumption | with_reducible exact Below.refl _ _ | with_reducible refine Below.drew ?_ | with_reducible refine below_drewN ?_ _ | with_reducible refine bw_alloc ?_ _ | (with_reducible refine bw_set ?_ ?_ _; focus (dsimp only; omega)) | (with_reducible apply bw_behind; with_reducible assumption))); done) | (simp [go_sem, *]; omega) | (simp (maxDischargeDepth := 4) [go_sem, *]; done))
              case measure => simp [intOf]; omega
          · -- kind 3
            obtain ⟨Q, M, A, hC, hG2, hA⟩ := step_3 hG ha N
            have CX := hide hC
            clear hC
            cases Q with
            | false =>
              go_wp2_with (first | (go_at_call 17; (first | ((with_reducible refine (CX.out _ ?_).mono ?_); (refine hT.behind ?_; repeat (first | with_reducible assumption | with_reducible exact Below.refl _ _ | with_reducible refine Below.drew ?_ | with_reducible refine below_drewN ?_ _ | with_reducible refine bw_alloc ?_ _ | (with_reducible refine bw_set ?_ ?_ _; focus (dsimp only; omega)) | (with_reducible apply bw_behind; with_reducible assumption))))); rintro e wx ⟨rfl, hbx⟩; have hrx := below_reads hbx; have hhx := below_holds hbx; obtain ⟨mx, hsx⟩ := below_grew hbx))
              go_round
              case rel =>
                refine ⟨k + 1, false, M, A, r, f, g, by omega, by go_num, hG2, hA, hf, ?_, ?_, ?_, ?_, ?_, ?_, ?_, ?_, ?_, ?_⟩
                all_goals (first | with_reducible assumption | ((repeat (first | with_reducible assumption | with_reducible refine c_dr _ ?_ | with_reducible refine c_d1 ?_ | with_reducible refine c_al _ ?_ | (with_reducible refine c_set ?_ ?_; focus (dsimp only; omega)) | (with_reducible apply c_be; with_reducible assumption))); done) | ((repeat (first | with_reducible assumption | with_reducible refine o_dr _ ?_ | with_reducible refine o_d1 ?_ | with_reducible refine o_set ?_ | (with_reducible refine o_new ?_ ?_; (focus (simp)); (focus (simp))) | with_reducible refine o_al _ ?_ | (with_reducible apply o_be; with_reducible assumption))); done) | ((repeat (first | with_reducible assumption | with_reducible exact Below.refl _ _ | with_reducible refine Below.drew ?_ | with_reducible refine below_drewN ?_ _ | with_reducible refine bw_alloc ?_ _ | (with_reducible refine bw_set ?_ ?_ _; focus (dsimp only; omega)) | (with_reducible apply bw_behind; with_reducible assumption))); done) | (refine hT.behind ?_; (repeat (first | with_reducible assumption | with_reducible exact Below.refl _ _ | with_reducible refine Below.drew ?_ | with_reducible refine below_drewN ?_ _ | with_reducible refine bw_alloc ?_ _ | (with_reducible refine bw_set ?_ ?_ _; focus (dsimp only; omega)) | (with_reducible apply bw_behind; with_reducible assumption))); done) | (simp [go_sem, *]; omega) | (simp (maxDischargeDepth := 4) [go_sem, *]; done))
              case measure => simp [intOf]; omega
            | true =>
              have hr := (hG2.2 rfl).2.2
              subst hr
              have CR := hide (asked_right hG2)
              have CW := hide (asked_within hG2 hf)
              go_wp2_with (first | (go_at_call 17; (first | ((with_reducible refine (CX.out _ ?_).mono ?_); (refine hT.behind ?_; repeat (first | with_reducible assumption | with_reducible exact Below.refl _ _ | with_reducible refine Below.drew ?_ | with_reducible refine below_drewN ?_ _ | with_reducible refine bw_alloc ?_ _ | (with_reducible refine bw_set ?_ ?_ _; focus (dsimp only; omega)) | (with_reducible apply bw_behind; with_reducible assumption))))); rintro e wx ⟨rfl, hbx⟩; have hrx := below_reads hbx; have hhx := below_holds hbx; obtain ⟨mx, hsx⟩ := below_grew hbx) | (go_at_call 30; (first | ((with_reducible refine (CR.out _ ?_).mono ?_); (refine hT.behind ?_; repeat (first | with_reducible assumption | with_reducible exact Below.refl _ _ | with_reducible refine Below.drew ?_ | with_reducible refine below_drewN ?_ _ | with_reducible refine bw_alloc ?_ _ | (with_reducible refine bw_set ?_ ?_ _; focus (dsimp only; omega)) | (with_reducible apply bw_behind; with_reducible assumption))))); rintro e wy ⟨rfl, hby⟩; have hry := below_reads hby; have hhy := below_holds hby; obtain ⟨my, hsy⟩ := below_grew hby) | (go_at_call 31; (first | ((with_reducible refine (CW.out _ ?_).mono ?_); (refine hT.behind ?_; repeat (first | with_reducible assumption | with_reducible exact Below.refl _ _ | with_reducible refine Below.drew ?_ | with_reducible refine below_drewN ?_ _ | with_reducible refine bw_alloc ?_ _ | (with_reducible refine bw_set ?_ ?_ _; focus (dsimp only; omega)) | (with_reducible apply bw_behind; with_reducible assumption))))); rintro e wz ⟨rfl, hbz⟩; have hrz := below_reads hbz; have hhz := below_holds hbz; obtain ⟨mz, hsz⟩ := below_grew hbz))
              go_round
              case rel =>
                refine ⟨k + 1, true, M, A, true, f, g, by omega, by go_num, hG2, hA, hf, ?_, ?_, ?_, ?_, ?_, ?_, ?_, ?_, ?_, ?_⟩
                all_goals (first | with_reducible assumption | ((repeat (first | with_reducible assumption | with_reducible refine c_dr _ ?_ | with_reducible refine c_d1 ?_ | with_reducible refine c_al _ ?_ | (with_reducible refine c_set ?_ ?_; focus (dsimp only; omega)) | (with_reducible apply c_be; with_reducible assumption))); done) | ((repeat (first | with_reducible assumption | with_reducible refine o_dr _ ?_ | with_reducible refine o_d1 ?_ | with_reducible refine o_set ?_ | (with_reducible refine o_new ?_ ?_; (focus (simp)); (focus (simp))) | with_reducible refine o_al _ ?_ | (with_reducible apply o_be; with_reducible assumption))); done) | ((repeat (first | with_reducible assumption | with_reducible exact Below.refl _ _ | with_reducible refine Below.drew ?_ | with_reducible refine below_drewN ?_ _ | with_reducible refine bw_alloc ?_ _ | (with_reducible refine bw_set ?_ ?_ _; focus (dsimp only; omega)) | (with_reducible apply bw_behind; with_reducible assumption))); done) | (refine hT.behind ?_; (repeat (first | with_reducible assumption | with_reducible exact Below.refl _ _ | with_reducible refine Below.drew ?_ | with_reducible refine below_drewN ?_ _ | with_reducible refine bw_alloc ?_ _ | (with_reducible refine bw_set ?_ ?_ _; focus (dsimp only; omega)) | (with_reducible apply bw_behind; with_reducible assumption))); done) | (simp [go_sem, *]; omega) | (simp (maxDischargeDepth := 4) [go_sem, *]; done))
              case measure => simp [intOf]; omega
          · -- kind 4
            obtain ⟨Q, M, A, hC, hG2, hA⟩ := step_4 hG ha R F0 G
            have CX := hide hC
            clear hC
            cases Q with
            | false =>
              go_wp2_with (first | (go_at_call 20; (first | ((with_reducible refine (CX.out _ ?_).mono ?_); (refine hT.behind ?_; repeat (first | with_reducible assumption | with_reducible exact Below.refl _ _ | with_reducible refine Below.drew ?_ | with_reducible refine below_drewN ?_ _ | with_reducible refine bw_alloc ?_ _ | (with_reducible refine bw_set ?_ ?_ _; focus (dsimp only; omega)) | (with_reducible apply bw_behind; with_reducible assumption))))); rintro e wx ⟨rfl, hbx⟩; have hrx := below_reads hbx; have hhx := below_holds hbx; obtain ⟨mx, hsx⟩ := below_grew hbx))
              go_round
              case rel =>
                refine ⟨k + 1, false, M, A, r, f, g, by omega, by go_num, hG2, hA, hf, ?_, ?_, ?_, ?_, ?_, ?_, ?_, ?_, ?_, ?_⟩
                all_goals (first | with_reducible assumption | ((repeat (first | with_reducible assumption | with_reducible refine c_dr _ ?_ | with_reducible refine c_d1 ?_ | with_reducible refine c_al _ ?_ | (with_reducible refine c_set ?_ ?_; focus (dsimp only; omega)) | (with_reducible apply c_be; with_reducible assumption))); done) | ((repeat (first | with_reducible assumption | with_reducible refine o_dr _ ?_ | with_reducible refine o_d1 ?_ | with_reducible refine o_set ?_ | (with_reducible refine o_new ?_ ?_; (focus (simp)); (focus (simp))) | with_reducible refine o_al _ ?_ | (with_reducible apply o_be; with_reducible assumption))); done) | ((repeat (first | with_reducible assumption | with_reducible exact Below.refl _ _ | with_reducible refine Below.drew ?_ | with_reducible refine below_drewN ?_ _ | with_reducible refine bw_alloc ?_ _ | (with_reducible refine bw_set ?_ ?_ _; focus (dsimp only; omega)) | (with_reducible apply bw_behind; with_reducible assumption))); done) | (refine hT.behind ?_; (repeat (first | with_reducible assumption | with_reducible exact Below.refl _ _ | with_reducible refine Below.drew ?_ | with_reducible refine below_drewN ?_ _ | with_reducible refine bw_alloc ?_ _ | (with_reducible refine bw_set ?_ ?_ _; focus (dsimp only; omega)) | (with_reducible apply bw_behind; with_reducible assumption))); done) | (simp [go_sem, *]; omega) | (simp (maxDischargeDepth := 4) [go_sem, *]; done))
              case measure => simp [intOf]; omega
            | true =>
              have hr := (hG2.2 rfl).2.2
              subst hr
              have CR := hide (asked_right hG2)
              have CW := hide (asked_within hG2 hf)
              go_wp2_with (first | (go_at_call 20; (first | ((with_reducible refine (CX.out _ ?_).mono ?_); (refine hT.behind ?_; repeat (first | with_reducible assumption | with_reducible exact Below.refl _ _ | with_reducible refine Below.drew ?_ | with_reducible refine below_drewN ?_ _ | with_reducible refine bw_alloc ?_ _ | (with_reducible refine bw_set ?_ ?_ _; focus (dsimp only; omega)) | (with_reducible apply bw_behind; with_reducible assumption))))); rintro e wx ⟨rfl, hbx⟩; have hrx := below_reads hbx; have hhx := below_holds hbx; obtain ⟨mx, hsx⟩ := below_grew hbx) | (go_at_call 30; (first | ((with_reducible refine (CR.out _ ?_).mono ?_); (refine hT.behind ?_; repeat (first | with_reducible assumption | with_reducible exact Below.refl _ _ | with_reducible refine Below.drew ?_ | with_reducible refine below_drewN ?_ _ | with_reducible refine bw_alloc ?_ _ | (with_reducible refine bw_set ?_ ?_ _; focus (dsimp only; omega)) | (with_reducible apply bw_behind; with_reducible assumption))))); rintro e wy ⟨rfl, hby⟩; have hry := below_reads hby; have hhy := below_holds hby; obtain ⟨my, hsy⟩ := below_grew hby) | (go_at_call 31; (first | ((with_reducible refine (CW.out _ ?_).mono ?_); (refine hT.behind ?_; repeat (first | with_reducible assumption | with_reducible exact Below.refl _ _ | with_reducible refine Below.drew ?_ | with_reducible refine below_drewN ?_ _ | with_reducible refine bw_alloc ?_ _ | (with_reducible refine bw_set ?_ ?_ _; focus (dsimp only; omega)) | (with_reducible apply bw_behind; with_reducible assumption))))); rintro e wz ⟨rfl, hbz⟩; have hrz := below_reads hbz; have hhz := below_holds hbz; obtain ⟨mz, hsz⟩ := below_grew hbz))
              go_round
              case rel =>
                refine ⟨k + 1, true, M, A, true, f, g, by omega, by go_num, hG2, hA, hf, ?_, ?_, ?_, ?_, ?_, ?_, ?_, ?_, ?_, ?_⟩
                all_goals (first | with_reducible assumption | ((repeat (first | with_reducible assumption | with_reducible refine c_dr _ ?_ | with_reducible refine c_d1 ?_ | with_reducible refine c_al _ ?_ | (with_reducible refine c_set ?_ ?_; focus (dsimp only; omega)) | (with_reducible apply c_be; with_reducible assumption))); done) | ((repeat (first | with_reducible assumption | with_reducible refine o_dr _ ?_ | with_reducible refine o_d1 ?_ | with_reducible refine o_set ?_ | (with_reducible refine o_new ?_ ?_; (focus (simp)); (focus (simp))) | with_reducible refine o_al _ ?_ | (with_reducible apply o_be; with_reducible assumption))); done) | ((repeat (first | with_reducible assumption | with_reducible exact Below.refl _ _ | with_reducible refine Below.drew ?_ | with_reducible refine below_drewN ?_ _ | with_reducible refine bw_alloc ?_ _ | (with_reducible refine bw_set ?_ ?_ _; focus (dsimp only; omega)) | (with_reducible apply bw_behind; with_reducible assumption))); done) | (refine hT.behind ?_; (repeat (first | with_reducible assumption | with_reducible exact Below.refl _ _ | with_reducible refine Below.drew ?_ | with_reducible refine below_drewN ?_ _ | with_reducible refine bw_alloc ?_ _ | (with_reducible refine bw_set ?_ ?_ _; focus (dsimp only; omega)) | (with_reducible apply bw_behind; with_reducible assumption))); done) | (simp [go_sem, *]; omega) | (simp (maxDischargeDepth := 4) [go_sem, *]; done))
              case measure => simp [intOf]; omega
          · -- kind 5
            obtain ⟨Q, M, A, hC, hG2, hA⟩ := step_5 hG ha
            have CX := hide hC
            clear hC
            cases Q with
            | false =>
              go_wp2_with (first | (go_at_call 24; (first | ((with_reducible refine (CX.out _ ?_).mono ?_); (refine hT.behind ?_; repeat (first | with_reducible assumption | with_reducible exact Below.refl _ _ | with_reducible refine Below.drew ?_ | with_reducible refine below_drewN ?_ _ | with_reducible refine bw_alloc ?_ _ | (with_reducible refine bw_set ?_ ?_ _; focus (dsimp only; omega)) | (with_reducible apply bw_behind; with_reducible assumption))))); rintro e wx ⟨rfl, hbx⟩; have hrx := below_reads hbx; have hhx := below_holds hbx; obtain ⟨mx, hsx⟩ := below_grew hbx))
              go_round
              case rel =>
                refine ⟨k + 1, false, M, A, r, f, g, by omega, by go_num, hG2, hA, hf, ?_, ?_, ?_, ?_, ?_, ?_, ?_, ?_, ?_, ?_⟩
                all_goals (first | with_reducible assumption | ((repeat (first | with_reducible assumption | with_reducible refine c_dr _ ?_ | with_reducible refine c_d1 ?_ | with_reducible refine c_al _ ?_ | (with_reducible refine c_set ?_ ?_; focus (dsimp only; omega)) | (with_reducible apply c_be; with_reducible assumption))); done) | ((repeat (first | with_reducible assumption | with_reducible refine o_dr _ ?_ | with_reducible refine o_d1 ?_ | with_reducible refine o_set ?_ | (with_reducible refine o_new ?_ ?_; (focus (simp)); (focus (simp))) | with_reducible refine o_al _ ?_ | (with_reducible apply o_be; with_reducible assumption))); done) | ((repeat (first | with_reducible assumption | with_reducible exact Below.refl _ _ | with_reducible refine Below.drew ?_ | with_reducible refine below_drewN ?_ _ | with_reducible refine bw_alloc ?_ _ | (with_reducible refine bw_set ?_ ?_ _; focus (dsimp only; omega)) | (with_reducible apply bw_behind; with_reducible assumption))); done) | (refine hT.behind ?_; (repeat (first | with_reducible assumption | with_reducible exact Below.refl _ _ | with_reducible refine Below.drew ?_ | with_reducible refine below_drewN ?_ _ | with_reducible refine bw_alloc ?_ _ | (with_reducible refine bw_set ?_ ?_ _; focus (dsimp only; omega)) | (with_reducible apply bw_behind; with_reducible assumption))); done) | (simp [go_sem, *]; omega) | (simp (maxDischargeDepth := 4) [go_sem, *]; done))
              case measure => simp [intOf]; omega
            | true =>
              have hr := (hG2.2 rfl).2.2
              subst hr
              have CR := hide (asked_right hG2)
              have CW := hide (asked_within hG2 hf)
              go_wp2_with (first | (go_at_call 24; (first | ((with_reducible refine (CX.out _ ?_).mono ?_); (refine hT.behind ?_; repeat (first | with_reducible assumption | with_reducible exact Below.refl _ _ | with_reducible refine Below.drew ?_ | with_reducible refine below_drewN ?_ _ | with_reducible refine bw_alloc ?_ _ | (with_reducible refine bw_set ?_ ?_ _; focus (dsimp only; omega)) | (with_reducible apply bw_behind; with_reducible assumption))))); rintro e wx ⟨rfl, hbx⟩; have hrx := below_reads hbx; have hhx := below_holds hbx; obtain ⟨mx, hsx⟩ := below_grew hbx) | (go_at_call 30; (first | ((with_reducible refine (CR.out _ ?_).mono ?_); (refine hT.behind ?_; repeat (first | with_reducible assumption | with_reducible exact Below.refl _ _ | with_reducible refine Below.drew ?_ | with_reducible refine below_drewN ?_ _ | with_reducible refine bw_alloc ?_ _ | (with_reducible refine bw_set ?_ ?_ _; focus (dsimp only; omega)) | (with_reducible apply bw_behind; with_reducible assumption))))); rintro e wy ⟨rfl, hby⟩; have hry := below_reads hby; have hhy := below_holds hby; obtain ⟨my, hsy⟩ := below_grew hby) | (go_at_call 31; (first | ((with_reducible refine (CW.out _ ?_).mono ?_); (refine hT.behind ?_; repeat (first | with_reducible assumption | with_reducible exact Below.refl _ _ | with_reducible refine Below.drew ?_ | with_reducible refine below_drewN ?_ _ | with_reducible refine bw_alloc ?_ _ | (with_reducible refine bw_set ?_ ?_ _; focus (dsimp only; omega)) | (with_reducible apply bw_behind; with_reducible assumption))))); rintro e wz ⟨rfl, hbz⟩; have hrz := below_reads hbz; have hhz := below_holds hbz; obtain ⟨mz, hsz⟩ := below_grew hbz))
              go_round
              case rel =>
                refine ⟨k + 1, true, M, A, true, f, g, by omega, by go_num, hG2, hA, hf, ?_, ?_, ?_, ?_, ?_, ?_, ?_, ?_, ?_, ?_⟩
                all_goals (first | with_reducible assumption | ((repeat (first | with_reducible assumption | with_reducible refine c_dr _ ?_ | with_reducible refine c_d1 ?_ | with_reducible refine c_al _ ?_ | (with_reducible refine c_set ?_ ?_; focus (dsimp only; omega)) | (with_reducible apply c_be; with_reducible assumption))); done) | ((repeat (first | with_reducible assumption | with_reducible refine o_dr _ ?_ | with_reducible refine o_d1 ?_ | with_reducible refine o_set ?_ | (with_reducible refine o_new ?_ ?_; (focus (simp)); (focus (simp))) | with_reducible refine o_al _ ?_ | (with_reducible apply o_be; with_reducible assumption))); done) | ((repeat (first | with_reducible assumption | with_reducible exact Below.refl _ _ | with_reducible refine Below.drew ?_ | with_reducible refine below_drewN ?_ _ | with_reducible refine bw_alloc ?_ _ | (with_reducible refine bw_set ?_ ?_ _; focus (dsimp only; omega)) | (with_reducible apply bw_behind; with_reducible assumption))); done) | (refine hT.behind ?_; (repeat (first | with_reducible assumption | with_reducible exact Below.refl _ _ | with_reducible refine Below.drew ?_ | with_reducible refine below_drewN ?_ _ | with_reducible refine bw_alloc ?_ _ | (with_reducible refine bw_set ?_ ?_ _; focus (dsimp only; omega)) | (with_reducible apply bw_behind; with_reducible assumption))); done) | (simp [go_sem, *]; omega) | (simp (maxDischargeDepth := 4) [go_sem, *]; done))
              case measure => simp [intOf]; omega
          · -- kind 6
            obtain ⟨Q, M, A, hC, hG2, hA⟩ := step_6 hG ha
            have CX := hide hC
            clear hC
            cases Q with
            | false =>
              go_wp2_with (first | (go_at_call 26; (first | ((with_reducible refine (CX.out _ ?_).mono ?_); (refine hT.behind ?_; repeat (first | with_reducible assumption | with_reducible exact Below.refl _ _ | with_reducible refine Below.drew ?_ | with_reducible refine below_drewN ?_ _ | with_reducible refine bw_alloc ?_ _ | (with_reducible refine bw_set ?_ ?_ _; focus (dsimp only; omega)) | (with_reducible apply bw_behind; with_reducible assumption))))); rintro e wx ⟨rfl, hbx⟩; have hrx := below_reads hbx; have hhx := below_holds hbx; obtain ⟨mx, hsx⟩ := below_grew hbx))
              go_round
              case rel =>
                refine ⟨k + 1, false, M, A, r, f, g, by omega, by go_num, hG2, hA, hf, ?_, ?_, ?_, ?_, ?_, ?_, ?_, ?_, ?_, ?_⟩
                all_goals (first | with_reducible assumption | ((repeat (first | with_reducible assumption | with_reducible refine c_dr _ ?_ | with_reducible refine c_d1 ?_ | with_reducible refine c_al _ ?_ | (with_reducible refine c_set ?_ ?_; focus (dsimp only; omega)) | (with_reducible apply c_be; with_reducible assumption))); done) | ((repeat (first | with_reducible assumption | with_reducible refine o_dr _ ?_ | with_reducible refine o_d1 ?_ | with_reducible refine o_set ?_ | (with_reducible refine o_new ?_ ?_; (focus (simp)); (focus (simp))) | with_reducible refine o_al _ ?_ | (with_reducible apply o_be; with_reducible assumption))); done) | ((repeat (first | with_reducible assumption | with_reducible exact Below.refl _ _ | with_reducible refine Below.drew ?_ | with_reducible refine below_drewN ?_ _ | with_reducible refine bw_alloc ?_ _ | (with_reducible refine bw_set ?_ ?_ _; focus (dsimp only; omega)) | (with_reducible apply bw_behind; with_reducible assumption))); done) | (refine hT.behind ?_; (repeat (first | with_reducible assumption | with_reducible exact Below.refl _ _ | with_reducible refine Below.drew ?_ | with_reducible refine below_drewN ?_ _ | with_reducible refine bw_alloc ?_ _ | (with_reducible refine bw_set ?_ ?_ _; focus (dsimp only; omega)) | (with_reducible apply bw_behind; with_reducible assumption))); done) | (simp [go_sem, *]; omega) | (simp (maxDischargeDepth := 4) [go_sem, *]; done))
              case measure => simp [intOf]; omega
            | true =>
              have hr := (hG2.2 rfl).2.2
              subst hr
              have CR := hide (asked_right hG2)
              have CW := hide (asked_within hG2 hf)
              go_wp2_with (first | (go_at_call 26; (first | ((with_reducible refine (CX.out _ ?_).mono ?_); (refine hT.behind ?_; repeat (first | with_reducible assumption | with_reducible exact Below.refl _ _ | with_reducible refine Below.drew ?_ | with_reducible refine below_drewN ?_ _ | with_reducible refine bw_alloc ?_ _ | (with_reducible refine bw_set ?_ ?_ _; focus (dsimp only; omega)) | (with_reducible apply bw_behind; with_reducible assumption))))); rintro e wx ⟨rfl, hbx⟩; have hrx := below_reads hbx; have hhx := below_holds hbx; obtain ⟨mx, hsx⟩ := below_grew hbx) | (go_at_call 30; (first | ((with_reducible refine (CR.out _ ?_).mono ?_); (refine hT.behind ?_; repeat (first | with_reducible assumption | with_reducible exact Below.refl _ _ | with_reducible refine Below.drew ?_ | with_reducible refine below_drewN ?_ _ | with_reducible refine bw_alloc ?_ _ | (with_reducible refine bw_set ?_ ?_ _; focus (dsimp only; omega)) | (with_reducible apply bw_behind; with_reducible assumption))))); rintro e wy ⟨rfl, hby⟩; have hry := below_reads hby; have hhy := below_holds hby; obtain ⟨my, hsy⟩ := below_grew hby) | (go_at_call 31; (first | ((with_reducible refine (CW.out _ ?_).mono ?_); (refine hT.behind ?_; repeat (first | with_reducible assumption | with_reducible exact Below.refl _ _ | with_reducible refine Below.drew ?_ | with_reducible refine below_drewN ?_ _ | with_reducible refine bw_alloc ?_ _ | (with_reducible refine bw_set ?_ ?_ _; focus (dsimp only; omega)) | (with_reducible apply bw_behind; with_reducible assumption))))); rintro e wz ⟨rfl, hbz⟩; have hrz := below_reads hbz; have hhz := below_holds hbz; obtain ⟨mz, hsz⟩ := below_grew hbz))
              go_round
              case rel =>
                refine ⟨k + 1, true, M, A, true, f, g, by omega, by go_num, hG2, hA, hf, ?_, ?_, ?_, ?_, ?_, ?_, ?_, ?_, ?_, ?_⟩
                all_goals (first | with_reducible assumption | ((repeat (first | with_reducible assumption | with_reducible refine c_dr _ ?_ | with_reducible refine c_d1 ?_ | with_reducible refine c_al _ ?_ | (with_reducible refine c_set ?_ ?_; focus (dsimp only; omega)) | (with_reducible apply c_be; with_reducible assumption))); done) | ((repeat (first | with_reducible assumption | with_reducible refine o_dr _ ?_ | with_reducible refine o_d1 ?_ | with_reducible refine o_set ?_ | (with_reducible refine o_new ?_ ?_; (focus (simp)); (focus (simp))) | with_reducible refine o_al _ ?_ | (with_reducible apply o_be; with_reducible assumption))); done) | ((repeat (first | with_reducible assumption | with_reducible exact Below.refl _ _ | with_reducible refine Below.drew ?_ | with_reducible refine below_drewN ?_ _ | with_reducible refine bw_alloc ?_ _ | (with_reducible refine bw_set ?_ ?_ _; focus (dsimp only; omega)) | (with_reducible apply bw_behind; with_reducible assumption))); done) | (refine hT.behind ?_; (repeat (first | with_reducible assumption | with_reducible exact Below.refl _ _ | with_reducible refine Below.drew ?_ | with_reducible refine below_drewN ?_ _ | with_reducible refine bw_alloc ?_ _ | (with_reducible refine bw_set ?_ ?_ _; focus (dsimp only; omega)) | (with_reducible apply bw_behind; with_reducible assumption))); done) | (simp [go_sem, *]; omega) | (simp (maxDischargeDepth := 4) [go_sem, *]; done))
              case measure => simp [intOf]; omega
          · -- kind 7
            obtain ⟨Q, M, A, hC, hG2, hA⟩ := step_7 hG ha
            have CX := hide hC
            clear hC
            cases Q with
            | false =>
              go_wp2_with (first | (go_at_call 10; (first | ((with_reducible refine (CX.out _ ?_).mono ?_); (refine hT.behind ?_; repeat (first | with_reducible assumption | with_reducible exact Below.refl _ _ | with_reducible refine Below.drew ?_ | with_reducible refine below_drewN ?_ _ | with_reducible refine bw_alloc ?_ _ | (with_reducible refine bw_set ?_ ?_ _; focus (dsimp only; omega)) | (with_reducible apply bw_behind; with_reducible assumption))))); rintro e wx ⟨rfl, hbx⟩; have hrx := below_reads hbx; have hhx := below_holds hbx; obtain ⟨mx, hsx⟩ := below_grew hbx))
              go_round
              case rel =>
                refine ⟨k + 1, false, M, A, r, f, g, by omega, by go_num, hG2, hA, hf, ?_, ?_, ?_, ?_, ?_, ?_, ?_, ?_, ?_, ?_⟩
                all_goals (first | with_reducible assumption | ((repeat (first | with_reducible assumption | with_reducible refine c_dr _ ?_ | with_reducible refine c_d1 ?_ | with_reducible refine c_al _ ?_ | (with_reducible refine c_set ?_ ?_; focus (dsimp only; omega)) | (with_reducible apply c_be; with_reducible assumption))); done) | ((repeat (first | with_reducible assumption | with_reducible refine o_dr _ ?_ | with_reducible refine o_d1 ?_ | with_reducible refine o_set ?_ | (with_reducible refine o_new ?_ ?_; (focus (simp)); (focus (simp))) | with_reducible refine o_al _ ?_ | (with_reducible apply o_be; with_reducible assumption))); done) | ((repeat (first | with_reducible assumption | with_reducible exact Below.refl _ _ | with_reducible refine Below.drew ?_ | with_reducible refine below_drewN ?_ _ | with_reducible refine bw_alloc ?_ _ | (with_reducible refine bw_set ?_ ?_ _; focus (dsimp only; omega)) | (with_reducible apply bw_behind; with_reducible assumption))); done) | (refine hT.behind ?_; (repeat (first | with_reducible assumption | with_reducible exact Below.refl _ _ | with_reducible refine Below.drew ?_ | with_reducible refine below_drewN ?_ _ | with_reducible refine bw_alloc ?_ _ | (with_reducible refine bw_set ?_ ?_ _; focus (dsimp only; omega)) | (with_reducible apply bw_behind; with_reducible assumption))); done) | (simp [go_sem, *]; omega) | (simp (maxDischargeDepth := 4) [go_sem, *]; done))
              case measure => simp [intOf]; omega
            | true =>
              have hr := (hG2.2 rfl).2.2
              subst hr
              have CR := hide (asked_right hG2)
              have CW := hide (asked_within hG2 hf)
              go_wp2_with (first | (go_at_call 10; (first | ((with_reducible refine (CX.out _ ?_).mono ?_); (refine hT.behind ?_; repeat (first | with_reducible assumption | with_reducible exact Below.refl _ _ | with_reducible refine Below.drew ?_ | with_reducible refine below_drewN ?_ _ | with_reducible refine bw_alloc ?_ _ | (with_reducible refine bw_set ?_ ?_ _; focus (dsimp only; omega)) | (with_reducible apply bw_behind; with_reducible assumption))))); rintro e wx ⟨rfl, hbx⟩; have hrx := below_reads hbx; have hhx := below_holds hbx; obtain ⟨mx, hsx⟩ := below_grew hbx) | (go_at_call 30; (first | ((with_reducible refine (CR.out _ ?_).mono ?_); (refine hT.behind ?_; repeat (first | with_reducible assumption | with_reducible exact Below.refl _ _ | with_reducible refine Below.drew ?_ | with_reducible refine below_drewN ?_ _ | with_reducible refine bw_alloc ?_ _ | (with_reducible refine bw_set ?_ ?_ _; focus (dsimp only; omega)) | (with_reducible apply bw_behind; with_reducible assumption))))); rintro e wy ⟨rfl, hby⟩; have hry := below_reads hby; have hhy := below_holds hby; obtain ⟨my, hsy⟩ := below_grew hby) | (go_at_call 31; (first | ((with_reducible refine (CW.out _ ?_).mono ?_); (refine hT.behind ?_; repeat (first | with_reducible assumption | with_reducible exact Below.refl _ _ | with_reducible refine Below.drew ?_ | with_reducible refine below_drewN ?_ _ | with_reducible refine bw_alloc ?_ _ | (with_reducible refine bw_set ?_ ?_ _; focus (dsimp only; omega)) | (with_reducible apply bw_behind; with_reducible assumption))))); rintro e wz ⟨rfl, hbz⟩; have hrz := below_reads hbz; have hhz := below_holds hbz; obtain ⟨mz, hsz⟩ := below_grew hbz))
              go_round
              case rel =>
                refine ⟨k + 1, true, M, A, true, f, g, by omega, by go_num, hG2, hA, hf, ?_, ?_, ?_, ?_, ?_, ?_, ?_, ?_, ?_, ?_⟩
                all_goals (first | with_reducible assumption | ((repeat (first | with_reducible assumption | with_reducible refine c_dr _ ?_ | with_reducible refine c_d1 ?_ | with_reducible refine c_al _ ?_ | (with_reducible refine c_set ?_ ?_; focus (dsimp only; omega)) | (with_reducible apply c_be; with_reducible assumption))); done) | ((repeat (first | with_reducible assumption | with_reducible refine o_dr _ ?_ | with_reducible refine o_d1 ?_ | with_reducible refine o_set ?_ | (with_reducible refine o_new ?_ ?_; (focus (simp)); (focus (simp))) | with_reducible refine o_al _ ?_ | (with_reducible apply o_be; with_reducible assumption))); done) | ((repeat (first | with_reducible assumption | with_reducible exact Below.refl _ _ | with_reducible refine Below.drew ?_ | with_reducible refine below_drewN ?_ _ | with_reducible refine bw_alloc ?_ _ | (with_reducible refine bw_set ?_ ?_ _; focus (dsimp only; omega)) | (with_reducible apply bw_behind; with_reducible assumption))); done) | (refine hT.behind ?_; (repeat (first | with_reducible assumption | with_reducible exact Below.refl _ _ | with_reducible refine Below.drew ?_ | with_reducible refine below_drewN ?_ _ | with_reducible refine bw_alloc ?_ _ | (with_reducible refine bw_set ?_ ?_ _; focus (dsimp only; omega)) | (with_reducible apply bw_behind; with_reducible assumption))); done) | (simp [go_sem, *]; omega) | (simp (maxDischargeDepth := 4) [go_sem, *]; done))
              case measure => simp [intOf]; omega
          · -- kind 8
            obtain ⟨Q, hC, hG2, hG3⟩ := step_8 hG R F0 G
            have CX := hide hC
            clear hC
            cases Q with
            | false =>
              go_wp2_with (first | (go_at_call 28; (first | ((with_reducible refine (CX.out _ ?_).mono ?_); (refine hT.behind ?_; repeat (first | with_reducible assumption | with_reducible exact Below.refl _ _ | with_reducible refine Below.drew ?_ | with_reducible refine below_drewN ?_ _ | with_reducible refine bw_alloc ?_ _ | (with_reducible refine bw_set ?_ ?_ _; focus (dsimp only; omega)) | (with_reducible apply bw_behind; with_reducible assumption))))); rintro e wx ⟨rfl, hbx⟩; have hrx := below_reads hbx; have hhx := below_holds hbx; obtain ⟨mx, hsx⟩ := below_grew hbx))
              go_round
              case rel =>
                refine ⟨k + 1, false, m, a, r, f, g, by omega, by go_num, hG3, ha, hf, ?_, ?_, ?_, ?_, ?_, ?_, ?_, ?_, ?_, ?_⟩
                all_goals (first | with_reducible assumption | ((repeat (first | with_reducible assumption | with_reducible refine c_dr _ ?_ | with_reducible refine c_d1 ?_ | with_reducible refine c_al _ ?_ | (with_reducible refine c_set ?_ ?_; focus (dsimp only; omega)) | (with_reducible apply c_be; with_reducible assumption))); done) | ((repeat (first | with_reducible assumption | with_reducible refine o_dr _ ?_ | with_reducible refine o_d1 ?_ | with_reducible refine o_set ?_ | (with_reducible refine o_new ?_ ?_; (focus (simp)); (focus (simp))) | with_reducible refine o_al _ ?_ | (with_reducible apply o_be; with_reducible assumption))); done) | ((repeat (first | with_reducible assumption | with_reducible exact Below.refl _ _ | with_reducible refine Below.drew ?_ | with_reducible refine below_drewN ?_ _ | with_reducible refine bw_alloc ?_ _ | (with_reducible refine bw_set ?_ ?_ _; focus (dsimp only; omega)) | (with_reducible apply bw_behind; with_reducible assumption))); done) | (refine hT.behind ?_; (repeat (first | with_reducible assumption | with_reducible exact Below.refl _ _ | with_reducible refine Below.drew ?_ | with_reducible refine below_drewN ?_ _ | with_reducible refine bw_alloc ?_ _ | (with_reducible refine bw_set ?_ ?_ _; focus (dsimp only; omega)) | (with_reducible apply bw_behind; with_reducible assumption))); done) | (simp [go_sem, *]; omega) | (simp (maxDischargeDepth := 4) [go_sem, *]; done))
              case measure => simp [intOf]; omega
            | true =>
              have hG4 := hG2 rfl
              have hr := (hG4.2 rfl).2.2
              subst hr
              have CR := hide (asked_right hG4)
              have CW := hide (asked_within hG4 (toNat_lt F0))
              go_wp2_with (first | (go_at_call 28; (first | ((with_reducible refine (CX.out _ ?_).mono ?_); (refine hT.behind ?_; repeat (first | with_reducible assumption | with_reducible exact Below.refl _ _ | with_reducible refine Below.drew ?_ | with_reducible refine below_drewN ?_ _ | with_reducible refine bw_alloc ?_ _ | (with_reducible refine bw_set ?_ ?_ _; focus (dsimp only; omega)) | (with_reducible apply bw_behind; with_reducible assumption))))); rintro e wx ⟨rfl, hbx⟩; have hrx := below_reads hbx; have hhx := below_holds hbx; obtain ⟨mx, hsx⟩ := below_grew hbx) | (go_at_call 30; (first | ((with_reducible refine (CR.out _ ?_).mono ?_); (refine hT.behind ?_; repeat (first | with_reducible assumption | with_reducible exact Below.refl _ _ | with_reducible refine Below.drew ?_ | with_reducible refine below_drewN ?_ _ | with_reducible refine bw_alloc ?_ _ | (with_reducible refine bw_set ?_ ?_ _; focus (dsimp only; omega)) | (with_reducible apply bw_behind; with_reducible assumption))))); rintro e wy ⟨rfl, hby⟩; have hry := below_reads hby; have hhy := below_holds hby; obtain ⟨my, hsy⟩ := below_grew hby) | (go_at_call 31; (first | ((with_reducible refine (CW.out _ ?_).mono ?_); (refine hT.behind ?_; repeat (first | with_reducible assumption | with_reducible exact Below.refl _ _ | with_reducible refine Below.drew ?_ | with_reducible refine below_drewN ?_ _ | with_reducible refine bw_alloc ?_ _ | (with_reducible refine bw_set ?_ ?_ _; focus (dsimp only; omega)) | (with_reducible apply bw_behind; with_reducible assumption))))); rintro e wz ⟨rfl, hbz⟩; have hrz := below_reads hbz; have hhz := below_holds hbz; obtain ⟨mz, hsz⟩ := below_grew hbz))
              go_round
              case rel =>
                refine ⟨k + 1, true, m, a, true, F0.toNat, G.toNat, by omega, by go_num, hG4, ha, (toNat_lt F0), ?_, ?_, ?_, ?_, ?_, ?_, ?_, ?_, ?_, ?_⟩
                all_goals (first | with_reducible assumption | ((repeat (first | with_reducible assumption | with_reducible refine c_dr _ ?_ | with_reducible refine c_d1 ?_ | with_reducible refine c_al _ ?_ | (with_reducible refine c_set ?_ ?_; focus (dsimp only; omega)) | (with_reducible apply c_be; with_reducible assumption))); done) | ((repeat (first | with_reducible assumption | with_reducible refine o_dr _ ?_ | with_reducible refine o_d1 ?_ | with_reducible refine o_set ?_ | (with_reducible refine o_new ?_ ?_; (focus (simp)); (focus (simp))) | with_reducible refine o_al _ ?_ | (with_reducible apply o_be; with_reducible assumption))); done) | ((repeat (first | with_reducible assumption | with_reducible exact Below.refl _ _ | with_reducible refine Below.drew ?_ | with_reducible refine below_drewN ?_ _ | with_reducible refine bw_alloc ?_ _ | (with_reducible refine bw_set ?_ ?_ _; focus (dsimp only; omega)) | (with_reducible apply bw_behind; with_reducible assumption))); done) | (refine hT.behind ?_; (repeat (first | with_reducible assumption | with_reducible exact Below.refl _ _ | with_reducible refine Below.drew ?_ | with_reducible refine below_drewN ?_ _ | with_reducible refine bw_alloc ?_ _ | (with_reducible refine bw_set ?_ ?_ _; focus (dsimp only; omega)) | (with_reducible apply bw_behind; with_reducible assumption))); done) | (simp [go_sem, *]; omega) | (simp (maxDischargeDepth := 4) [go_sem, *]; done))
              case measure => simp [intOf]; omega
          · -- kind other
            cases q with
            | false =>
              go_wp2_with fail
              go_round
              case rel =>
                refine ⟨k + 1, false, m, a, r, f, g, by omega, by go_num, hG, ha, hf, ?_, ?_, ?_, ?_, ?_, ?_, ?_, ?_, ?_, ?_⟩
                all_goals (first | with_reducible assumption | ((repeat (first | with_reducible assumption | with_reducible refine c_dr _ ?_ | with_reducible refine c_d1 ?_ | with_reducible refine c_al _ ?_ | (with_reducible refine c_set ?_ ?_; focus (dsimp only; omega)) | (with_reducible apply c_be; with_reducible assumption))); done) | ((repeat (first | with_reducible assumption | with_reducible refine o_dr _ ?_ | with_reducible refine o_d1 ?_ | with_reducible refine o_set ?_ | (with_reducible refine o_new ?_ ?_; (focus (simp)); (focus (simp))) | with_reducible refine o_al _ ?_ | (with_reducible apply o_be; with_reducible assumption))); done) | ((repeat (first | with_reducible assumption | with_reducible exact Below.refl _ _ | with_reducible refine Below.drew ?_ | with_reducible refine below_drewN ?_ _ | with_reducible refine bw_alloc ?_ _ | (with_reducible refine bw_set ?_ ?_ _; focus (dsimp only; omega)) | (with_reducible apply bw_behind; with_reducible assumption))); done) | (refine hT.behind ?_; (repeat (first | with_reducible assumption | with_reducible exact Below.refl _ _ | with_reducible refine Below.drew ?_ | with_reducible refine below_drewN ?_ _ | with_reducible refine bw_alloc ?_ _ | (with_reducible refine bw_set ?_ ?_ _; focus (dsimp only; omega)) | (with_reducible apply bw_behind; with_reducible assumption))); done) | (simp [go_sem, *]; omega) | (simp (maxDischargeDepth := 4) [go_sem, *]; done))
              case measure => simp [intOf]; omega
            | true =>
              have hr := (hG.2 rfl).2.2
              subst hr
              have CR := hide (asked_right hG)
              have CW := hide (asked_within hG hf)
              go_wp2_with (first | (go_at_call 30; (first | ((with_reducible refine (CR.out _ ?_).mono ?_); (refine hT.behind ?_; repeat (first | with_reducible assumption | with_reducible exact Below.refl _ _ | with_reducible refine Below.drew ?_ | with_reducible refine below_drewN ?_ _ | with_reducible refine bw_alloc ?_ _ | (with_reducible refine bw_set ?_ ?_ _; focus (dsimp only; omega)) | (with_reducible apply bw_behind; with_reducible assumption))))); rintro e wy ⟨rfl, hby⟩; have hry := below_reads hby; have hhy := below_holds hby; obtain ⟨my, hsy⟩ := below_grew hby) | (go_at_call 31; (first | ((with_reducible refine (CW.out _ ?_).mono ?_); (refine hT.behind ?_; repeat (first | with_reducible assumption | with_reducible exact Below.refl _ _ | with_reducible refine Below.drew ?_ | with_reducible refine below_drewN ?_ _ | with_reducible refine bw_alloc ?_ _ | (with_reducible refine bw_set ?_ ?_ _; focus (dsimp only; omega)) | (with_reducible apply bw_behind; with_reducible assumption))))); rintro e wz ⟨rfl, hbz⟩; have hrz := below_reads hbz; have hhz := below_holds hbz; obtain ⟨mz, hsz⟩ := below_grew hbz))
              go_round
              case rel =>
                refine ⟨k + 1, true, m, a, true, f, g, by omega, by go_num, hG, ha, hf, ?_, ?_, ?_, ?_, ?_, ?_, ?_, ?_, ?_, ?_⟩
                all_goals (first | with_reducible assumption | ((repeat (first | with_reducible assumption | with_reducible refine c_dr _ ?_ | with_reducible refine c_d1 ?_ | with_reducible refine c_al _ ?_ | (with_reducible refine c_set ?_ ?_; focus (dsimp only; omega)) | (with_reducible apply c_be; with_reducible assumption))); done) | ((repeat (first | with_reducible assumption | with_reducible refine o_dr _ ?_ | with_reducible refine o_d1 ?_ | with_reducible refine o_set ?_ | (with_reducible refine o_new ?_ ?_; (focus (simp)); (focus (simp))) | with_reducible refine o_al _ ?_ | (with_reducible apply o_be; with_reducible assumption))); done) | ((repeat (first | with_reducible assumption | with_reducible exact Below.refl _ _ | with_reducible refine Below.drew ?_ | with_reducible refine below_drewN ?_ _ | with_reducible refine bw_alloc ?_ _ | (with_reducible refine bw_set ?_ ?_ _; focus (dsimp only; omega)) | (with_reducible apply bw_behind; with_reducible assumption))); done) | (refine hT.behind ?_; (repeat (first | with_reducible assumption | with_reducible exact Below.refl _ _ | with_reducible refine Below.drew ?_ | with_reducible refine below_drewN ?_ _ | with_reducible refine bw_alloc ?_ _ | (with_reducible refine bw_set ?_ ?_ _; focus (dsimp only; omega)) | (with_reducible apply bw_behind; with_reducible assumption))); done) | (simp [go_sem, *]; omega) | (simp (maxDischargeDepth := 4) [go_sem, *]; done))
              case measure => simp [intOf]; omega
        · have hkn : k = n := by omega
          have hx : decide ((k : Int) < (n : Int)) = false := by simp; omega
          go_wp2_with (first | (go_at_call 19; (first | ((with_reducible refine (CO.out _ ?_).mono ?_); (refine hT.behind ?_; repeat (first | with_reducible assumption | with_reducible exact Below.refl _ _ | with_reducible refine Below.drew ?_ | with_reducible refine below_drewN ?_ _ | with_reducible refine bw_alloc ?_ _ | (with_reducible refine bw_set ?_ ?_ _; focus (dsimp only; omega)) | (with_reducible apply bw_behind; with_reducible assumption))))); rintro e wo ⟨rfl, hbo⟩; have hro := below_reads hbo; have hho := below_holds hbo; obtain ⟨mo, hso⟩ := below_grew hbo))
          go_ret
          refine ⟨rfl, ?_⟩
          repeat (first | with_reducible assumption | with_reducible exact Below.refl _ _ | with_reducible refine Below.drew ?_ | with_reducible refine below_drewN ?_ _ | with_reducible refine bw_alloc ?_ _ | (with_reducible refine bw_set ?_ ?_ _; focus (dsimp only; omega)) | (with_reducible apply bw_behind; with_reducible assumption))

set_option maxRecDepth 100000 in
set_option maxHeartbeats 4000000 in
theorem walkNil_n (m a : Nat) (w : World) (hT : Tab w) :
    Calls Tryd.prog 5 #[.agg #[.bool false, .int .u64 ((m : Nat) : Int), .int .u64 ((a : Nat) : Int)], .slice none 0 0] w fun e w' => e = .returned (.bool true) ∧ Below w.heap.size w w' := by
  have CO := hide one_any
  have SS := cell_same
  have LB' := ltB_add
  have LS := ltB_self
  have LA' := alloc_reads
  have LH := alloc_holds
  go_enter Tryd.func5, Tryd.ntmps5
  go_wp2_with (first | (go_at_call 19; (first | ((with_reducible refine (CO.out _ ?_).mono ?_); (refine hT.behind ?_; repeat (first | with_reducible assumption | with_reducible exact Below.refl _ _ | with_reducible refine Below.drew ?_ | with_reducible refine below_drewN ?_ _ | with_reducible refine bw_alloc ?_ _ | (with_reducible refine bw_set ?_ ?_ _; focus (dsimp only; omega)) | (with_reducible apply bw_behind; with_reducible assumption))))); rintro e wo ⟨rfl, hbo⟩; have hro := below_reads hbo; have hho := below_holds hbo; obtain ⟨mo, hso⟩ := below_grew hbo))
  refine wp_loop_rounds 1 ?_
  rw [rounds_succ]
  go_wp2_with (first | (go_at_call 19; (first | ((with_reducible refine (CO.out _ ?_).mono ?_); (refine hT.behind ?_; repeat (first | with_reducible assumption | with_reducible exact Below.refl _ _ | with_reducible refine Below.drew ?_ | with_reducible refine below_drewN ?_ _ | with_reducible refine bw_alloc ?_ _ | (with_reducible refine bw_set ?_ ?_ _; focus (dsimp only; omega)) | (with_reducible apply bw_behind; with_reducible assumption))))); rintro e wo ⟨rfl, hbo⟩; have hro := below_reads hbo; have hho := below_holds hbo; obtain ⟨mo, hso⟩ := below_grew hbo))
  go_ret
  refine ⟨rfl, ?_⟩
  repeat (first | with_reducible assumption | with_reducible exact Below.refl _ _ | with_reducible refine Below.drew ?_ | with_reducible refine below_drewN ?_ _ | with_reducible refine bw_alloc ?_ _ | (with_reducible refine bw_set ?_ ?_ _; focus (dsimp only; omega)) | (with_reducible apply bw_behind; with_reducible assumption))

set_option maxRecDepth 100000 in
set_option maxHeartbeats 4000000 in
theorem walkNil_y (m a : Nat) (h : ∀ W, Tab W → Calls Tryd.prog 30 #[.agg #[.bool true, .int .u64 ((m : Nat) : Int), .int .u64 ((a : Nat) : Int)]] W (Makes (.bool true) W)) (w : World) (hT : Tab w) :
    Calls Tryd.prog 5 #[.agg #[.bool true, .int .u64 ((m : Nat) : Int), .int .u64 ((a : Nat) : Int)], .slice none 0 0] w fun e w' => e = .returned (.bool true) ∧ Below w.heap.size w w' := by
  have CO := hide one_any
  have C1 := hide (fun W hW => h W hW)
  clear h
  have SS := cell_same
  have LB' := ltB_add
  have LS := ltB_self
  have LA' := alloc_reads
  have LH := alloc_holds
  go_enter Tryd.func5, Tryd.ntmps5
  go_wp2_with (first | (go_at_call 30; (first | ((with_reducible refine (C1.out _ ?_).mono ?_); (refine hT.behind ?_; repeat (first | with_reducible assumption | with_reducible exact Below.refl _ _ | with_reducible refine Below.drew ?_ | with_reducible refine below_drewN ?_ _ | with_reducible refine bw_alloc ?_ _ | (with_reducible refine bw_set ?_ ?_ _; focus (dsimp only; omega)) | (with_reducible apply bw_behind; with_reducible assumption))))); rintro e wy ⟨rfl, hby⟩; have hry := below_reads hby; have hhy := below_holds hby; obtain ⟨my, hsy⟩ := below_grew hby) | (go_at_call 19; (first | ((with_reducible refine (CO.out _ ?_).mono ?_); (refine hT.behind ?_; repeat (first | with_reducible assumption | with_reducible exact Below.refl _ _ | with_reducible refine Below.drew ?_ | with_reducible refine below_drewN ?_ _ | with_reducible refine bw_alloc ?_ _ | (with_reducible refine bw_set ?_ ?_ _; focus (dsimp only; omega)) | (with_reducible apply bw_behind; with_reducible assumption))))); rintro e wo ⟨rfl, hbo⟩; have hro := below_reads hbo; have hho := below_holds hbo; obtain ⟨mo, hso⟩ := below_grew hbo))
  refine wp_loop_rounds 1 ?_
  rw [rounds_succ]
  go_wp2_with (first | (go_at_call 30; (first | ((with_reducible refine (C1.out _ ?_).mono ?_); (refine hT.behind ?_; repeat (first | with_reducible assumption | with_reducible exact Below.refl _ _ | with_reducible refine Below.drew ?_ | with_reducible refine below_drewN ?_ _ | with_reducible refine bw_alloc ?_ _ | (with_reducible refine bw_set ?_ ?_ _; focus (dsimp only; omega)) | (with_reducible apply bw_behind; with_reducible assumption))))); rintro e wy ⟨rfl, hby⟩; have hry := below_reads hby; have hhy := below_holds hby; obtain ⟨my, hsy⟩ := below_grew hby) | (go_at_call 19; (first | ((with_reducible refine (CO.out _ ?_).mono ?_); (refine hT.behind ?_; repeat (first | with_reducible assumption | with_reducible exact Below.refl _ _ | with_reducible refine Below.drew ?_ | with_reducible refine below_drewN ?_ _ | with_reducible refine bw_alloc ?_ _ | (with_reducible refine bw_set ?_ ?_ _; focus (dsimp only; omega)) | (with_reducible apply bw_behind; with_reducible assumption))))); rintro e wo ⟨rfl, hbo⟩; have hro := below_reads hbo; have hho := below_holds hbo; obtain ⟨mo, hso⟩ := below_grew hbo))
  go_ret
  refine ⟨rfl, ?_⟩
  repeat (first | with_reducible assumption | with_reducible exact Below.refl _ _ | with_reducible refine Below.drew ?_ | with_reducible refine below_drewN ?_ _ | with_reducible refine bw_alloc ?_ _ | (with_reducible refine bw_set ?_ ?_ _; focus (dsimp only; omega)) | (with_reducible apply bw_behind; with_reducible assumption))

theorem field_tag (q : Bool) (M A : Int) (W : World) : (Instr.field 24 (.agg #[.bool q, .int .u64 M, .int .u64 A]) 0).run Tryd.prog W = .ok (.bool q) W := by kernel_rfl

set_option maxRecDepth 100000 in
set_option maxHeartbeats 4000000 in
theorem badNil (m a : Nat) (h1 : ∀ W, Tab W → Calls Tryd.prog 30 #[.agg #[.bool true, .int .u64 ((m : Nat) : Int), .int .u64 ((a : Nat) : Int)]] W (Makes (.bool false) W)) (h2 : ∀ W, Tab W → Calls Tryd.prog 12 #[.agg #[.bool true, .int .u64 ((m : Nat) : Int), .int .u64 ((a : Nat) : Int)], .int .u64 ((a : Nat) : Int)] W (Makes (.agg #[.bool false, .int .u64 ((m : Nat) : Int), .int .u64 ((a : Nat) : Int)]) W)) (w : World) (hT : Tab w) :
    Calls Tryd.prog 5 #[.agg #[.bool true, .int .u64 ((m : Nat) : Int), .int .u64 ((a : Nat) : Int)], .slice none 0 0] w fun e w' => e = .returned (.bool true) ∧ Below w.heap.size w w' := by
  have CO := hide one_any
  have FT := field_tag
  have C1 := hide h1
  have C2 := hide h2
  clear h1 h2
  have SS := cell_same
  have LB' := ltB_add
  have LS := ltB_self
  have LA' := alloc_reads
  have LH := alloc_holds
  go_enter Tryd.func5, Tryd.ntmps5
  go_wp2_with (first | (go_at_call 30; (first | ((with_reducible refine (C1.out _ ?_).mono ?_); (refine hT.behind ?_; repeat (first | with_reducible assumption | with_reducible exact Below.refl _ _ | with_reducible refine Below.drew ?_ | with_reducible refine below_drewN ?_ _ | with_reducible refine bw_alloc ?_ _ | (with_reducible refine bw_set ?_ ?_ _; focus (dsimp only; omega)) | (with_reducible apply bw_behind; with_reducible assumption))))); rintro e wy ⟨rfl, hby⟩; have hry := below_reads hby; have hhy := below_holds hby; obtain ⟨my, hsy⟩ := below_grew hby) | (go_at_call 12; (first | ((with_reducible refine (C2.out _ ?_).mono ?_); (refine hT.behind ?_; repeat (first | with_reducible assumption | with_reducible exact Below.refl _ _ | with_reducible refine Below.drew ?_ | with_reducible refine below_drewN ?_ _ | with_reducible refine bw_alloc ?_ _ | (with_reducible refine bw_set ?_ ?_ _; focus (dsimp only; omega)) | (with_reducible apply bw_behind; with_reducible assumption))))); rintro e wx ⟨rfl, hbx⟩; have hrx := below_reads hbx; have hhx := below_holds hbx; obtain ⟨mx, hsx⟩ := below_grew hbx) | (go_at_call 19; (first | ((with_reducible refine (CO.out _ ?_).mono ?_); (refine hT.behind ?_; repeat (first | with_reducible assumption | with_reducible exact Below.refl _ _ | with_reducible refine Below.drew ?_ | with_reducible refine below_drewN ?_ _ | with_reducible refine bw_alloc ?_ _ | (with_reducible refine bw_set ?_ ?_ _; focus (dsimp only; omega)) | (with_reducible apply bw_behind; with_reducible assumption))))); rintro e wo ⟨rfl, hbo⟩; have hro := below_reads hbo; have hho := below_holds hbo; obtain ⟨mo, hso⟩ := below_grew hbo))
  go_ret
  refine ⟨rfl, ?_⟩
  repeat (first | with_reducible assumption | with_reducible exact Below.refl _ _ | with_reducible refine Below.drew ?_ | with_reducible refine below_drewN ?_ _ | with_reducible refine bw_alloc ?_ _ | (with_reducible refine bw_set ?_ ?_ _; focus (dsimp only; omega)) | (with_reducible apply bw_behind; with_reducible assumption))

set_option maxRecDepth 100000 in
set_option maxHeartbeats 4000000 in
theorem bad_short (m a : Nat) (ad : Addr) (len cap : Nat) (h60 : decide ((60 : Int) < (len : Int)) = false) (h1 : ∀ W, Tab W → Calls Tryd.prog 30 #[.agg #[.bool true, .int .u64 ((m : Nat) : Int), .int .u64 ((a : Nat) : Int)]] W (Makes (.bool false) W)) (h2 : ∀ W, Tab W → Calls Tryd.prog 12 #[.agg #[.bool true, .int .u64 ((m : Nat) : Int), .int .u64 ((a : Nat) : Int)], .int .u64 ((a : Nat) : Int)] W (Makes (.agg #[.bool false, .int .u64 ((m : Nat) : Int), .int .u64 ((a : Nat) : Int)]) W)) (w : World) (hT : Tab w) :
    Calls Tryd.prog 5 #[.agg #[.bool true, .int .u64 ((m : Nat) : Int), .int .u64 ((a : Nat) : Int)], .slice (some ad) len cap] w fun e w' => e = .returned (.bool true) ∧ Below w.heap.size w w' := by
  have CO := hide one_any
  have FT := field_tag
  have C1 := hide h1
  have C2 := hide h2
  clear h1 h2
  have SS := cell_same
  have LB' := ltB_add
  have LS := ltB_self
  have LA' := alloc_reads
  have LH := alloc_holds
  go_enter Tryd.func5, Tryd.ntmps5
  go_wp2_with (first | (go_at_call 30; (first | ((with_reducible refine (C1.out _ ?_).mono ?_); (refine hT.behind ?_; repeat (first | with_reducible assumption | with_reducible exact Below.refl _ _ | with_reducible refine Below.drew ?_ | with_reducible refine below_drewN ?_ _ | with_reducible refine bw_alloc ?_ _ | (with_reducible refine bw_set ?_ ?_ _; focus (dsimp only; omega)) | (with_reducible apply bw_behind; with_reducible assumption))))); rintro e wy ⟨rfl, hby⟩; have hry := below_reads hby; have hhy := below_holds hby; obtain ⟨my, hsy⟩ := below_grew hby) | (go_at_call 12; (first | ((with_reducible refine (C2.out _ ?_).mono ?_); (refine hT.behind ?_; repeat (first | with_reducible assumption | with_reducible exact Below.refl _ _ | with_reducible refine Below.drew ?_ | with_reducible refine below_drewN ?_ _ | with_reducible refine bw_alloc ?_ _ | (with_reducible refine bw_set ?_ ?_ _; focus (dsimp only; omega)) | (with_reducible apply bw_behind; with_reducible assumption))))); rintro e wx ⟨rfl, hbx⟩; have hrx := below_reads hbx; have hhx := below_holds hbx; obtain ⟨mx, hsx⟩ := below_grew hbx) | (go_at_call 19; (first | ((with_reducible refine (CO.out _ ?_).mono ?_); (refine hT.behind ?_; repeat (first | with_reducible assumption | with_reducible exact Below.refl _ _ | with_reducible refine Below.drew ?_ | with_reducible refine below_drewN ?_ _ | with_reducible refine bw_alloc ?_ _ | (with_reducible refine bw_set ?_ ?_ _; focus (dsimp only; omega)) | (with_reducible apply bw_behind; with_reducible assumption))))); rintro e wo ⟨rfl, hbo⟩; have hro := below_reads hbo; have hho := below_holds hbo; obtain ⟨mo, hso⟩ := below_grew hbo))
  go_ret
  refine ⟨rfl, ?_⟩
  repeat (first | with_reducible assumption | with_reducible exact Below.refl _ _ | with_reducible refine Below.drew ?_ | with_reducible refine below_drewN ?_ _ | with_reducible refine bw_alloc ?_ _ | (with_reducible refine bw_set ?_ ?_ _; focus (dsimp only; omega)) | (with_reducible apply bw_behind; with_reducible assumption))

set_option maxRecDepth 100000 in
set_option maxHeartbeats 4000000 in
theorem bad_long (m a : Nat) (ad : Addr) (len cap : Nat) (hl : 60 < len) (hcap : len ≤ cap) (hmax : cap ≤ 9223372036854775807) (h60 : decide ((60 : Int) < (len : Int)) = true) (h1 : ∀ W, Tab W → Calls Tryd.prog 30 #[.agg #[.bool true, .int .u64 ((m : Nat) : Int), .int .u64 ((a : Nat) : Int)]] W (Makes (.bool false) W)) (h2 : ∀ W, Tab W → Calls Tryd.prog 12 #[.agg #[.bool true, .int .u64 ((m : Nat) : Int), .int .u64 ((a : Nat) : Int)], .int .u64 ((a : Nat) : Int)] W (Makes (.agg #[.bool false, .int .u64 ((m : Nat) : Int), .int .u64 ((a : Nat) : Int)]) W)) (w : World) (hT : Tab w) :
    Calls Tryd.prog 5 #[.agg #[.bool true, .int .u64 ((m : Nat) : Int), .int .u64 ((a : Nat) : Int)], .slice (some ad) len cap] w fun e w' => e = .returned (.bool true) ∧ Below w.heap.size w w' := by
  have CO := hide one_any
  have FT := field_tag
  have C1 := hide h1
  have C2 := hide h2
  clear h1 h2
  have SS := cell_same
  have LB' := ltB_add
  have LS := ltB_self
  have LA' := alloc_reads
  have LH := alloc_holds
  go_enter Tryd.func5, Tryd.ntmps5
  go_wp2_with (first | (go_at_call 30; (first | ((with_reducible refine (C1.out _ ?_).mono ?_); (refine hT.behind ?_; repeat (first | with_reducible assumption | with_reducible exact Below.refl _ _ | with_reducible refine Below.drew ?_ | with_reducible refine below_drewN ?_ _ | with_reducible refine bw_alloc ?_ _ | (with_reducible refine bw_set ?_ ?_ _; focus (dsimp only; omega)) | (with_reducible apply bw_behind; with_reducible assumption))))); rintro e wy ⟨rfl, hby⟩; have hry := below_reads hby; have hhy := below_holds hby; obtain ⟨my, hsy⟩ := below_grew hby) | (go_at_call 12; (first | ((with_reducible refine (C2.out _ ?_).mono ?_); (refine hT.behind ?_; repeat (first | with_reducible assumption | with_reducible exact Below.refl _ _ | with_reducible refine Below.drew ?_ | with_reducible refine below_drewN ?_ _ | with_reducible refine bw_alloc ?_ _ | (with_reducible refine bw_set ?_ ?_ _; focus (dsimp only; omega)) | (with_reducible apply bw_behind; with_reducible assumption))))); rintro e wx ⟨rfl, hbx⟩; have hrx := below_reads hbx; have hhx := below_holds hbx; obtain ⟨mx, hsx⟩ := below_grew hbx) | (go_at_call 19; (first | ((with_reducible refine (CO.out _ ?_).mono ?_); (refine hT.behind ?_; repeat (first | with_reducible assumption | with_reducible exact Below.refl _ _ | with_reducible refine Below.drew ?_ | with_reducible refine below_drewN ?_ _ | with_reducible refine bw_alloc ?_ _ | (with_reducible refine bw_set ?_ ?_ _; focus (dsimp only; omega)) | (with_reducible apply bw_behind; with_reducible assumption))))); rintro e wo ⟨rfl, hbo⟩; have hro := below_reads hbo; have hho := below_holds hbo; obtain ⟨mo, hso⟩ := below_grew hbo))
  go_ret
  refine ⟨rfl, ?_⟩
  repeat (first | with_reducible assumption | with_reducible exact Below.refl _ _ | with_reducible refine Below.drew ?_ | with_reducible refine below_drewN ?_ _ | with_reducible refine bw_alloc ?_ _ | (with_reducible refine bw_set ?_ ?_ _; focus (dsimp only; omega)) | (with_reducible apply bw_behind; with_reducible assumption))

theorem bad_tag {m a : Nat} (hm : m < 18446744073709551616) (hr : rightB m a = false) : (∀ W, Tab W → Calls Tryd.prog 30 #[.agg #[.bool (true), .int .u64 ((m : Nat) : Int), .int .u64 ((a : Nat) : Int)]] W (Makes (.bool false) W)) ∧ (∀ W, Tab W → Calls Tryd.prog 12 #[.agg #[.bool (true), .int .u64 ((m : Nat) : Int), .int .u64 ((a : Nat) : Int)], .int .u64 ((a : Nat) : Int)] W (Makes (.agg #[.bool (false), .int .u64 ((m : Nat) : Int), .int .u64 ((a : Nat) : Int)]) W)) := by
  constructor
  · intro W hW
    have := right_any true m a hm W hW
    rw [hr] at this
    exact this
  · intro W hW
    have := address_any true m a a hm W hW
    rw [addr_shut (show openB true m a = false by unfold openB liveB; rw [hr]; rfl)] at this
    exact this
theorem walk (q : Bool) (m a : BitVec 64) (ad : Addr) (l : List Act6) (cap : Nat) (w : World) (hT : Tab w) (hcap : l.length ≤ cap) (hmax : cap ≤ 9223372036854775807) (hc : ActsAt w ad l) :
    Calls Tryd.prog 5 #[.agg #[.bool q, .int .u64 (m.toNat : Int), .int .u64 (a.toNat : Int)], .slice (some ad) l.length cap] w fun e w' => e = .returned (.bool true) ∧ Below w.heap.size w w' := by
  have hm := toNat_lt m
  have ha := toNat_lt a
  generalize m.toNat = m at *
  generalize a.toNat = a at *
  by_cases hg : (q && !rightB m a) = false
  · by_cases h : l.length ≤ 60
    · exact walkAt q m a hm ha hg ad l l.length cap l.length w hT (.inl ⟨h, rfl⟩) rfl hcap hmax hc
    · refine walkAt q m a hm ha hg ad (l.take 60) l.length cap 60 w hT (.inr ⟨by omega, rfl⟩) (by simp; omega) hcap hmax ?_
      intro k hk
      have hk' : k < l.length := by simp at hk; omega
      have := hc k hk'
      simpa using this
  · obtain ⟨rfl, hr⟩ : q = true ∧ rightB m a = false := by simpa using hg
    obtain ⟨h1, h2⟩ := bad_tag hm hr
    by_cases h : l.length ≤ 60
    · exact bad_short m a ad l.length cap (by simp; omega) h1 h2 w hT
    · exact bad_long m a ad l.length cap (by omega) hcap hmax (by simp; omega) h1 h2 w hT
theorem walkNil (q : Bool) (m a : BitVec 64) (w : World) (hT : Tab w) :
    Calls Tryd.prog 5 #[.agg #[.bool q, .int .u64 (m.toNat : Int), .int .u64 (a.toNat : Int)], .slice none 0 0] w fun e w' => e = .returned (.bool true) ∧ Below w.heap.size w w' := by
  have hm := toNat_lt m
  generalize m.toNat = m at *
  generalize a.toNat = a at *
  by_cases hg : (q && !rightB m a) = false
  · cases q with
    | false => exact walkNil_n m a w hT
    | true =>
      have hr : rightB m a = true := by simpa using hg
      refine walkNil_y m a (fun W hW => ?_) w hT
      have := right_any true m a hm W hW
      rw [hr] at this
      exact this
  · obtain ⟨rfl, hr⟩ : q = true ∧ rightB m a = false := by simpa using hg
    obtain ⟨h1, h2⟩ := bad_tag hm hr
    exact badNil m a h1 h2 w hT
open Go.ChangeShapes Go.WideShapes Go.ChangeAt
set_option maxRecDepth 100000 in
theorem walks : Frame.WalksLaid [("mintmark/bounds.places", Rows.laid_mintmark_bounds_places)] 5 Tryd.f5 := by
  intro H enc W base args ds ps hL hval hA
  rw [Tryd.params5] at hA hval
  obtain ⟨v0, v1, d0, d1, p0, p1, hargs, rfl, rfl, h0, h1⟩ := trodAll_two hA
  obtain rfl : args = #[v0, v1] := by cases args; simp_all
  obtain ⟨cs0, rfl, hf0⟩ := Frame.open_struct (F := 4) (ks := [.inr false, .inl .u64, .inl .u64]) Tryd.underlying24 (by kernel_rfl) (hval 0 24 v0 rfl rfl) h0
  match cs0, hf0 with
  | [_, _, _], ⟨⟨z0_0, rfl⟩, ⟨z0_1, rfl, wz0_1⟩, ⟨z0_2, rfl, wz0_2⟩, _⟩ =>
  obtain ⟨Z0_1, rfl⟩ := Frame.wf_u64 wz0_1
  obtain ⟨Z0_2, rfl⟩ := Frame.wf_u64 wz0_2
  obtain ⟨sa, len, cap, rfl⟩ := okWide_slice Tryd.underlying37 (hval 1 37 v1 rfl rfl)
  obtain ⟨fuel, hf⟩ := h1
  rcases Deep.open_slice Tryd.underlying37 hf with ⟨hcs, _⟩ | ⟨ad, len', cap', m, n, D, Pl, hcs, _, hl, hm, hmm, _, hi⟩
  · simp [Value.cells] at hcs
    obtain ⟨rfl, rfl, rfl⟩ := hcs
    exact walkNil z0_0 Z0_1 Z0_2 W (tab_of_laid hL)
  · simp [Value.cells] at hcs
    obtain ⟨rfl, rfl, rfl⟩ := hcs
    have hmc : m = cap := by simpa using hmm
    obtain ⟨l, hll, hp⟩ := Frame.list_choose len (fun k (p : Act6) => W.cell? (ad.add (k * 6)) = some (.int .i64 p.k) ∧ W.cell? (ad.add (k * 6 + 1)) = some (.int .u64 (p.n.toNat : Int)) ∧ W.cell? (ad.add (k * 6 + 2)) = some (.bool p.x) ∧
        W.cell? (ad.add (k * 6 + 3)) = some (.bool p.r) ∧ W.cell? (ad.add (k * 6 + 4)) = some (.int .u64 (p.f.toNat : Int)) ∧ W.cell? (ad.add (k * 6 + 5)) = some (.int .u64 (p.g.toNat : Int))) (fun k hk => by
      obtain ⟨cs', hc, ht⟩ := hi k (by omega)
      have hfit := Frame.fits_of 4 40 [.inl .i64, .inl .u64, .inr false, .inr false, .inl .u64, .inl .u64] _ _ _ (by kernel_rfl) ht
      have h3 : Tryd.prog.cellsOf 40 = 6 := by kernel_rfl
      rw [h3] at hc
      obtain ⟨_, hcl, hat⟩ := World.cells?_some hc
      match cs', hcl, hfit with
      | [x0, x1, x2, x3, x4, x5], _, ⟨⟨z0, e0, _⟩, ⟨z1, e1, w1⟩, ⟨z2, e2⟩, ⟨z3, e3⟩, ⟨z4, e4, w4⟩, ⟨z5, e5, w5⟩, _⟩ =>
        obtain ⟨Z1, rfl⟩ := Frame.wf_u64 w1
        obtain ⟨Z4, rfl⟩ := Frame.wf_u64 w4
        obtain ⟨Z5, rfl⟩ := Frame.wf_u64 w5
        subst e0 e1 e2 e3 e4 e5
        refine ⟨⟨z0, Z1, z2, z3, Z4, Z5⟩, ?_, ?_, ?_, ?_, ?_, ?_⟩
        · simpa [Addr.add] using hat 0 (by omega)
        · have := hat 1 (by omega); rw [Deep.add_add] at this; exact this
        · have := hat 2 (by omega); rw [Deep.add_add] at this; exact this
        · have := hat 3 (by omega); rw [Deep.add_add] at this; exact this
        · have := hat 4 (by omega); rw [Deep.add_add] at this; exact this
        · have := hat 5 (by omega); rw [Deep.add_add] at this; exact this)
    subst hll
    exact walk z0_0 Z0_1 Z0_2 ad l cap W (tab_of_laid hL) hl (by unfold maxLen at hm; omega) hp
set_option maxRecDepth 100000 in
theorem said : Rows.AlgebraNarrowsSaid :=
  OpenClaim.holds_of_wide 5 Tryd.f5 rfl rfl rfl rfl rfl rfl rfl ⟨rfl, rfl, rfl, rfl, rfl⟩ rfl rfl rfl rfl rfl (by kernel_rfl) Tryd.func5 (by kernel_rfl)
    (of_decide_eq_true (by kernel_rfl)) (by unfold Func.isWrapper; first | (rw [if_pos (by decide +kernel)]; kernel_rfl) | (rw [if_neg (by decide +kernel)]; exact ⟨rfl, rfl⟩))
    (fun os started H enc _ => Frame.liftLaid [("mintmark/bounds.places", Rows.laid_mintmark_bounds_places)] os started H enc _ _ Rows.algebraNarrowsSpec 4 (by kernel_rfl) Tryd.func5 Tryd.underlying4 (by kernel_rfl) rfl (by kernel_rfl)
      (fun ds h => by match ds, h with | [_, _], _ => exact ⟨rfl, rfl, rfl⟩)
      (ChangeSpec.witness_shaped (enc := enc) (C := Tryd.checked) (os := os) (X := fun w _ => laidMetH Tryd.prog [("mintmark/bounds.places", Rows.laid_mintmark_bounds_places)] w) false (World.doorLaid Tryd.prog 400 os) #[.agg #[.bool false, .int .u64 0, .int .u64 0], .slice none 0 0] 8 rfl (World.shaped_of_RefB (by kernel_rfl) (by kernel_rfl)) (by kernel_rfl) (by kernel_rfl) (by kernel_rfl) (door_met os _)) walks)
set_option maxRecDepth 100000 in
theorem proved : Rows.AlgebraNarrowsCardSaid :=
  Claim7.holds_tied_plain_at .later [] [.data] true _ false said (fun _ h => by cases h) (by kernel_rfl) (fun _ h => by cases h) algebraNarrows_row_tie rfl ⟨rfl, rfl⟩ (by kernel_rfl) rfl
    (fun f fn hf hfn => by
      obtain rfl : f = 5 := Option.some.inj ((show Tryd.prog.funcNamed "mintmark/mintmarklaw06.AlgebraNarrows" = some 5 by kernel_rfl).symm.trans hf) |>.symm
      obtain rfl : fn = Tryd.f5 := (Option.some.inj (Tryd.func5.symm.trans hfn)).symm
      exact ⟨by kernel_rfl, fun j t ht => by
        rw [Tryd.params5] at ht
        have hm : t ∈ [24, 37] := by have := Array.mem_of_getElem? ht; simp at this; simp; first | omega | grind
        have hall : ([24, 37].all fun u => !Tryd.prog.wantsStandIn u) = true := by kernel_rfl
        exact (show Tryd.prog.wantsStandIn t = false by simpa using List.all_eq_true.1 hall t hm)⟩)
    (by kernel_rfl)
end Go.Proofs.YtbncoiejbclpjaaDoor.AlgebraNarrows
