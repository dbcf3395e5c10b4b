/-
  CapabOrder holds: for every l the law returns true and turns nothing that was there, where the table of places holds what the program's text lays.
-/
import Derived.Test.YtpdadlbdloeijaaDoorTabLaid03
import Derived.Test.YtpdadlbdloeijaaDoorCapRoot
import Derived.Test.YtpdadlbdloeijaaDoorCapMath2
import Derived.Deep.DeepCutAuto
import Derived.Deep.RegionHeld3
namespace Go.Proofs.YtpdadlbdloeijaaDoor.CapabOrder
open Go.RowKit Words FieldMath BoundsMath

/-- The first cells of a block. -/
def Row (W : World) (b : Nat) (l : List Value) : Prop := ∀ i v, l[i]? = some v → W.cell? ⟨b, i, none⟩ = some v
theorem k_dr {W : World} {b : Nat} {l : List Value} (n : Nat) (h : Row W b l) : Row (W.drewN n) b l := h
theorem k_d1 {W : World} {b : Nat} {l : List Value} (h : Row W b l) : Row W.drew b l := h
theorem k_be {W W' : World} {b : Nat} {l : List Value} (hb : Below W.heap.size W W') (h : Row W b l) : Row W' b l := fun i v hv => c_be hb (h i v hv)
theorem k_al {W : World} {b : Nat} {l : List Value} (o : Obj) (h : Row W b l) : Row (W.alloc o) b l := fun i v hv => c_al o (h i v hv)
theorem k_set {W : World} {b : Nat} {l : List Value} {p : Addr} {u : Value} (hne : p.block ≠ b) (h : Row W b l) : Row (W.setCell p u) b l := fun i v hv => c_set hne (h i v hv)
theorem row_new {W : World} {cs : Array Value} {t : TypeId} {b : Nat} {l : List Value} (hb : b = W.heap.size) (hl : cs.toList = l) : Row (W.alloc (.cells cs t)) b l := fun i v hv => by
  subst hb hl
  simp [go_sem]
  simpa using hv
theorem row_nil {W : World} {b : Nat} : Row W b [] := fun i v hv => by simp at hv
theorem set_at {W : World} {b i j k : Nat} {u v : Value} (ho : Own W b k) (hi : i < k) (hv : if i = j then u = v else W.cell? ⟨b, j, none⟩ = some v) : (W.setCell ⟨b, i, none⟩ u).cell? ⟨b, j, none⟩ = some v := by
  by_cases h : i = j
  · subst h
    rw [if_pos rfl] at hv
    subst hv
    exact cell_same _ _ _ (ho.some i hi)
  · rw [if_neg h] at hv
    exact (World.cell?_setCell_other _ _ _ _ (fun e => h (congrArg Addr.off e))).trans hv
theorem row_store {W : World} {b n k : Nat} {l : List Value} {x y z : Value} (h : Row W b l) (ho : Own W b k) (hn : l.length = n) (hk : n + 3 ≤ k) :
    Row (((W.setCell ⟨b, n, none⟩ x).setCell ⟨b, n + 1, none⟩ y).setCell ⟨b, n + 2, none⟩ z) b (l ++ [x, y, z]) := by
  intro i v hv
  have h2 := hv
  rcases Nat.lt_or_ge i l.length with hi | hi
  · rw [List.getElem?_append_left hi] at hv
    refine set_at (o_set (o_set ho)) (by omega) ?_
    rw [if_neg (by omega)]
    refine set_at (o_set ho) (by omega) ?_
    rw [if_neg (by omega)]
    refine set_at ho (by omega) ?_
    rw [if_neg (by omega)]
    exact h i v hv
  · rw [List.getElem?_append_right hi] at hv
    obtain ⟨j, hj⟩ : ∃ j, i = n + j := ⟨i - n, by omega⟩
    subst hj
    rw [show n + j - l.length = j by omega] at hv
    refine set_at (o_set (o_set ho)) (by omega) ?_
    match j, hv with
    | 0, hv =>
      rw [if_neg (by omega)]
      refine set_at (o_set ho) (by omega) ?_
      rw [if_neg (by omega)]
      refine set_at ho (by omega) ?_
      rw [if_pos (by omega)]
      simpa using hv
    | 1, hv =>
      rw [if_neg (by omega)]
      refine set_at (o_set ho) (by omega) ?_
      rw [if_pos (by omega)]
      simpa using hv
    | 2, hv =>
      rw [if_pos (by omega)]
      simpa using hv
    | j + 3, hv => simp at hv
theorem rounds_abs {P : Program} {c : Code} {Q : Exit → Act → World → Prop} {n : Nat} {a : Act} {w : World} (C : World → Prop) (hC : C w) (h : ∀ w0, C w0 → Code.rounds P c Q n a w0) : Code.rounds P c Q n a w := h w hC
theorem wp_abs {P : Program} {c : Code} {Q : Exit → Act → World → Prop} {a : Act} {w : World} (C : World → Prop) (hC : C w) (h : ∀ w0, C w0 → c.wp P Q a w0) : c.wp P Q a w := h w hC

structure Met (B0 T0 P0 K0 B1 T1 P1 K1 B2 T2 P2 K2 M0 A0 M1 A1 M2 A2 : Int) (O0 O1 O2 : Bool) : Prop where
  mk0 : ∀ W, Tab W → Calls Tryd.prog 21 #[.agg #[.int .u64 B0, .int .u64 T0, .int .u64 P0, .int .u64 K0], .int .u64 B0] W (Makes (.tuple #[.agg #[.bool false, .int .u64 M0, .int .u64 A0], .bool O0]) W)
  mk1 : ∀ W, Tab W → Calls Tryd.prog 21 #[.agg #[.int .u64 B1, .int .u64 T1, .int .u64 P1, .int .u64 K1], .int .u64 B1] W (Makes (.tuple #[.agg #[.bool false, .int .u64 M1, .int .u64 A1], .bool O1]) W)
  mk2 : ∀ W, Tab W → Calls Tryd.prog 21 #[.agg #[.int .u64 B2, .int .u64 T2, .int .u64 P2, .int .u64 K2], .int .u64 B2] W (Makes (.tuple #[.agg #[.bool false, .int .u64 M2, .int .u64 A2], .bool O2]) W)
structure Tail (B0 T0 P0 K0 B1 T1 P1 K1 B2 T2 P2 K2 M0 A0 M1 A1 M2 A2 MA : Int) (W01 W12 W02 W10 SV PV : Bool) : Prop where
  w01 : ∀ W, Tab W → Calls Tryd.prog 15 #[.agg #[.bool false, .int .u64 M0, .int .u64 A0], .agg #[.bool false, .int .u64 M1, .int .u64 A1]] W (Makes (.bool W01) W)
  w12 : ∀ W, Tab W → Calls Tryd.prog 15 #[.agg #[.bool false, .int .u64 M1, .int .u64 A1], .agg #[.bool false, .int .u64 M2, .int .u64 A2]] W (Makes (.bool W12) W)
  w02 : ∀ W, Tab W → Calls Tryd.prog 15 #[.agg #[.bool false, .int .u64 M0, .int .u64 A0], .agg #[.bool false, .int .u64 M2, .int .u64 A2]] W (Makes (.bool W02) W)
  w10 : ∀ W, Tab W → Calls Tryd.prog 15 #[.agg #[.bool false, .int .u64 M1, .int .u64 A1], .agg #[.bool false, .int .u64 M0, .int .u64 A0]] W (Makes (.bool W10) W)
  wa : ∀ W, Tab W → Calls Tryd.prog 15 #[.agg #[.bool false, .int .u64 M0, .int .u64 A0], .agg #[.bool true, .int .u64 MA, .int .u64 0]] W (Makes (.bool true) W)
  all : ∀ W, Tab W → Calls Tryd.prog 23 #[.agg #[.int .u64 0, .int .u64 281474976710656], .int .u64 511] W (Makes (.tuple #[.agg #[.bool true, .int .u64 MA, .int .u64 0], .bool true]) W)
  sv : decide (B0 = B1 ∧ T0 = T1) = SV
  pv : (P0 == P1) = PV
  cmb : (W01 = false ∧ (SV = false ∨ (SV = true ∧ PV = false))) ∨ (W01 = true ∧ (W12 = false ∨ (W12 = true ∧ W02 = true)) ∧ ((W10 = false ∧ (SV = false ∨ (SV = true ∧ PV = false))) ∨ (W10 = true ∧ SV = true ∧ PV = true)))

set_option maxRecDepth 100000 in
set_option maxHeartbeats 16000000 in
theorem walk_let (B0 T0 P0 K0 B1 T1 P1 K1 B2 T2 P2 K2 M0 A0 M1 A1 M2 A2 MA : Int) (O0 O1 O2 W01 W12 W02 W10 SV PV : Bool) (hm : Met B0 T0 P0 K0 B1 T1 P1 K1 B2 T2 P2 K2 M0 A0 M1 A1 M2 A2 O0 O1 O2) (hf : O0 = true → O1 = true → O2 = true → Tail B0 T0 P0 K0 B1 T1 P1 K1 B2 T2 P2 K2 M0 A0 M1 A1 M2 A2 MA W01 W12 W02 W10 SV PV) (w : World) (hT : Tab w) :
    Calls Tryd.prog 6 #[.agg #[.int .u64 B0, .int .u64 T0, .int .u64 P0, .int .u64 K0, .int .u64 B1, .int .u64 T1, .int .u64 P1, .int .u64 K1, .int .u64 B2, .int .u64 T2, .int .u64 P2, .int .u64 K2]] w fun e w' => e = .returned (.bool true) ∧ Below w.heap.size w w' := by
  have CM := hide hm
  have HF := hide hf
  clear hm hf
  have SS := cell_same
  have LB' := ltB_add
  have LS := ltB_self
  have LA' := alloc_reads
  have LH := alloc_holds
  go_enter Tryd.func6, Tryd.ntmps6
  go_wp2
  refine wp_loop_rounds 4 ?_
  refine rounds_abs (fun W => Row W w.heap.size [.int .u64 B0, .int .u64 T0, .int .u64 P0, .int .u64 K0, .int .u64 B1, .int .u64 T1, .int .u64 P1, .int .u64 K1, .int .u64 B2, .int .u64 T2, .int .u64 P2, .int .u64 K2] ∧ Row W (w.heap.size + 1) [] ∧ Own W (w.heap.size + 1) 9 ∧ w.heap.size + 2 ≤ W.heap.size ∧ Tab W ∧ Below w.heap.size w W) ?_ ?_
  · refine ⟨?_, row_nil, ?_, ?_, ?_, ?_⟩
    · exact k_al _ (row_new rfl rfl)
    · exact o_new (by simp) (by simp)
    · simp
    · refine hT.behind ?_
      repeat (first | with_reducible assumption | with_reducible exact Below.refl _ _ | with_reducible refine Below.drew ?_ | with_reducible refine below_drewN ?_ _ | with_reducible refine bw_alloc ?_ _ | (with_reducible refine bw_set ?_ ?_ _; focus (dsimp only; omega)) | (with_reducible apply bw_behind; with_reducible assumption))
    · repeat (first | with_reducible assumption | with_reducible exact Below.refl _ _ | with_reducible refine Below.drew ?_ | with_reducible refine below_drewN ?_ _ | with_reducible refine bw_alloc ?_ _ | (with_reducible refine bw_set ?_ ?_ _; focus (dsimp only; omega)) | (with_reducible apply bw_behind; with_reducible assumption))
  clear hT
  rintro w0 ⟨hV, hC, hO, hs, hT0, hB0⟩
  have hT := hT0
  obtain ⟨j, hk⟩ : ∃ j, w0.heap.size = w.heap.size + 1 + 1 + j := ⟨w0.heap.size - (w.heap.size + 2), by omega⟩
  clear hs
  have v0 := hV 0 _ rfl
  have v1 := hV 1 _ rfl
  have v2 := hV 2 _ rfl
  have v3 := hV 3 _ rfl
  rw [rounds_succ]
  go_upto_region 5 with fail
  go_cut [5, 6] (fun s5 s6 wx => ∃ n : Nat, s5 = .pointer (some ⟨n, 0, none⟩) ∧ s6 = .bool O0 ∧ (w.heap.size + 2 ≤ n ∧ n < wx.heap.size) ∧ wx.cell? ⟨n, 0, none⟩ = some (.bool false) ∧ wx.cell? ⟨n, 1, none⟩ = some (.int .u64 M0) ∧ wx.cell? ⟨n, 2, none⟩ = some (.int .u64 A0) ∧
    Row wx w.heap.size [.int .u64 B0, .int .u64 T0, .int .u64 P0, .int .u64 K0, .int .u64 B1, .int .u64 T1, .int .u64 P1, .int .u64 K1, .int .u64 B2, .int .u64 T2, .int .u64 P2, .int .u64 K2] ∧ Row wx (w.heap.size + 1) [] ∧ Own wx (w.heap.size + 1) 9 ∧ Tab wx ∧ Below w.heap.size w wx)
  case first =>
    go_region_held3 (fun w' => w'.cell? ⟨w.heap.size, 0, none⟩ = some (.int .u64 B0) ∧ w'.cell? ⟨w.heap.size, 1, none⟩ = some (.int .u64 T0) ∧ w'.cell? ⟨w.heap.size, 2, none⟩ = some (.int .u64 P0) ∧ w'.cell? ⟨w.heap.size, 3, none⟩ = some (.int .u64 K0) ∧ Tab w' ∧ Below w.heap.size w w')
      (first | with_reducible assumption | (refine ⟨?_, ?_, ?_, ?_, ?_, ?_⟩ <;> (first | with_reducible assumption | ((repeat (first | with_reducible assumption | with_reducible refine k_dr _ ?_ | with_reducible refine k_d1 ?_ | with_reducible refine k_al _ ?_ | (refine k_set ?_ ?_; focus (dsimp only; omega)) | (with_reducible apply k_be; with_reducible assumption))); done) | ((repeat (first | with_reducible assumption | with_reducible refine c_dr _ ?_ | with_reducible refine c_d1 ?_ | with_reducible refine c_al _ ?_ | (with_reducible refine c_set ?_ ?_; focus (dsimp only; omega)) | (with_reducible apply c_be; with_reducible assumption))); done) | ((repeat (first | with_reducible assumption | with_reducible refine o_dr _ ?_ | with_reducible refine o_d1 ?_ | with_reducible refine o_set ?_ | (with_reducible refine o_new ?_ ?_; (focus (simp)); (focus (simp))) | with_reducible refine o_al _ ?_ | (with_reducible apply o_be; with_reducible assumption))); done) | ((repeat (first | with_reducible assumption | with_reducible exact Below.refl _ _ | with_reducible refine Below.drew ?_ | with_reducible refine below_drewN ?_ _ | with_reducible refine bw_alloc ?_ _ | (with_reducible refine bw_set ?_ ?_ _; focus (dsimp only; omega)) | (with_reducible apply bw_behind; with_reducible assumption))); done) | (refine hT0.behind ?_; (repeat (first | with_reducible assumption | with_reducible exact Below.refl _ _ | with_reducible refine Below.drew ?_ | with_reducible refine below_drewN ?_ _ | with_reducible refine bw_alloc ?_ _ | (with_reducible refine bw_set ?_ ?_ _; focus (dsimp only; omega)) | (with_reducible apply bw_behind; with_reducible assumption))); done) | (refine bw_behind ?_ hB0; (repeat (first | with_reducible assumption | with_reducible exact Below.refl _ _ | with_reducible refine Below.drew ?_ | with_reducible refine below_drewN ?_ _ | with_reducible refine bw_alloc ?_ _ | (with_reducible refine bw_set ?_ ?_ _; focus (dsimp only; omega)) | (with_reducible apply bw_behind; with_reducible assumption))); done) | (simp [go_sem, *]; omega) | (simp (maxDischargeDepth := 4) [go_sem, *]; done))))
      (first | (go_at_call 21; (with_reducible refine (CM.out.mk0 _ ?_).mono ?_); (refine hT0.behind ?_; repeat (first | with_reducible assumption | with_reducible exact Below.refl _ _ | with_reducible refine Below.drew ?_ | with_reducible refine below_drewN ?_ _ | with_reducible refine bw_alloc ?_ _ | (with_reducible refine bw_set ?_ ?_ _; focus (dsimp only; omega)) | (with_reducible apply bw_behind; with_reducible assumption))); rintro e wa ⟨rfl, hba⟩; have hra := below_reads hba; have hha := below_holds hba; obtain ⟨ma, hsa⟩ := below_grew hba))
    all_goals
      go_wp2_with fail
      go_meet
      refine ⟨_, rfl, rfl, ?_, ?_, ?_, ?_, ?_, ?_, ?_, ?_, ?_⟩
    all_goals (first | with_reducible assumption | ((repeat (first | with_reducible assumption | with_reducible refine k_dr _ ?_ | with_reducible refine k_d1 ?_ | with_reducible refine k_al _ ?_ | (refine k_set ?_ ?_; focus (dsimp only; omega)) | (with_reducible apply k_be; with_reducible assumption))); done) | ((repeat (first | with_reducible assumption | with_reducible refine c_dr _ ?_ | with_reducible refine c_d1 ?_ | with_reducible refine c_al _ ?_ | (with_reducible refine c_set ?_ ?_; focus (dsimp only; omega)) | (with_reducible apply c_be; with_reducible assumption))); done) | ((repeat (first | with_reducible assumption | with_reducible refine o_dr _ ?_ | with_reducible refine o_d1 ?_ | with_reducible refine o_set ?_ | (with_reducible refine o_new ?_ ?_; (focus (simp)); (focus (simp))) | with_reducible refine o_al _ ?_ | (with_reducible apply o_be; with_reducible assumption))); done) | ((repeat (first | with_reducible assumption | with_reducible exact Below.refl _ _ | with_reducible refine Below.drew ?_ | with_reducible refine below_drewN ?_ _ | with_reducible refine bw_alloc ?_ _ | (with_reducible refine bw_set ?_ ?_ _; focus (dsimp only; omega)) | (with_reducible apply bw_behind; with_reducible assumption))); done) | (refine hT0.behind ?_; (repeat (first | with_reducible assumption | with_reducible exact Below.refl _ _ | with_reducible refine Below.drew ?_ | with_reducible refine below_drewN ?_ _ | with_reducible refine bw_alloc ?_ _ | (with_reducible refine bw_set ?_ ?_ _; focus (dsimp only; omega)) | (with_reducible apply bw_behind; with_reducible assumption))); done) | (refine bw_behind ?_ hB0; (repeat (first | with_reducible assumption | with_reducible exact Below.refl _ _ | with_reducible refine Below.drew ?_ | with_reducible refine below_drewN ?_ _ | with_reducible refine bw_alloc ?_ _ | (with_reducible refine bw_set ?_ ?_ _; focus (dsimp only; omega)) | (with_reducible apply bw_behind; with_reducible assumption))); done) | (simp [go_sem, *]; omega) | (simp (maxDischargeDepth := 4) [go_sem, *]; done))
  case rest =>
  obtain ⟨n, rfl, rfl, hn, c0, c1, c2, hV, hC, hO, hT0, hB0⟩ := hcut
  obtain ⟨i, rfl⟩ : ∃ i, n = w.heap.size + 1 + 1 + i := ⟨n - (w.heap.size + 2), by omega⟩
  obtain ⟨l, hl⟩ : ∃ l, wc.heap.size = w.heap.size + 1 + 1 + i + 1 + l := ⟨wc.heap.size - (w.heap.size + 1 + 1 + i + 1), by omega⟩
  have f0 := hO.free 0 (by omega)
  obtain ⟨x0, e0⟩ := hO.val 0 (by omega)
  have f1 := hO.free 1 (by omega)
  obtain ⟨x1, e1⟩ := hO.val 1 (by omega)
  have f2 := hO.free 2 (by omega)
  obtain ⟨x2, e2⟩ := hO.val 2 (by omega)
  cases O0 with
  | false =>
    go_wp2_with (go_at_call 20; (with_reducible refine (one_any _ hT0).mono ?_); rintro e wz ⟨rfl, hbz⟩)
    go_ret
    exact ⟨rfl, bw_behind hbz hB0⟩
  | true =>
  go_wp2
  refine rounds_abs (fun W => Row W w.heap.size [.int .u64 B0, .int .u64 T0, .int .u64 P0, .int .u64 K0, .int .u64 B1, .int .u64 T1, .int .u64 P1, .int .u64 K1, .int .u64 B2, .int .u64 T2, .int .u64 P2, .int .u64 K2] ∧ Row W (w.heap.size + 1) [.bool false, .int .u64 M0, .int .u64 A0] ∧ Own W (w.heap.size + 1) 9 ∧ w.heap.size + 2 ≤ W.heap.size ∧ Tab W ∧ Below w.heap.size w W) ?_ ?_
  · refine ⟨?_, ?_, ?_, ?_, ?_, ?_⟩
    · exact k_set (by simp) (k_set (by simp) (k_set (by simp) hV))
    · exact row_store hC hO rfl (by omega)
    · exact o_set (o_set (o_set hO))
    · simp only [s_set]; omega
    · exact hT0.below (Below.setCell (p := ⟨w.heap.size + 1, 2, none⟩) (Below.setCell (p := ⟨w.heap.size + 1, 1, none⟩) (Below.setCell (p := ⟨w.heap.size + 1, 0, none⟩) (Below.refl (w.heap.size + 1) _) (by simp) _) (by simp) _) (by simp) _) (by omega)
    · exact Below.setCell (p := ⟨w.heap.size + 1, 2, none⟩) (Below.setCell (p := ⟨w.heap.size + 1, 1, none⟩) (Below.setCell (p := ⟨w.heap.size + 1, 0, none⟩) hB0 (by simp) _) (by simp) _) (by simp) _
  clear hT
  rintro w1 ⟨hV, hC, hO, hs, hT0, hB0⟩
  have hT := hT0
  obtain ⟨j, hk⟩ : ∃ j, w1.heap.size = w.heap.size + 1 + 1 + j := ⟨w1.heap.size - (w.heap.size + 2), by omega⟩
  clear hs
  have v4 := hV 4 _ rfl
  have v5 := hV 5 _ rfl
  have v6 := hV 6 _ rfl
  have v7 := hV 7 _ rfl
  rw [rounds_succ]
  go_upto_region 5 with fail
  go_cut [5, 6] (fun s5 s6 wx => ∃ n : Nat, s5 = .pointer (some ⟨n, 0, none⟩) ∧ s6 = .bool O1 ∧ (w.heap.size + 2 ≤ n ∧ n < wx.heap.size) ∧ wx.cell? ⟨n, 0, none⟩ = some (.bool false) ∧ wx.cell? ⟨n, 1, none⟩ = some (.int .u64 M1) ∧ wx.cell? ⟨n, 2, none⟩ = some (.int .u64 A1) ∧
    Row wx w.heap.size [.int .u64 B0, .int .u64 T0, .int .u64 P0, .int .u64 K0, .int .u64 B1, .int .u64 T1, .int .u64 P1, .int .u64 K1, .int .u64 B2, .int .u64 T2, .int .u64 P2, .int .u64 K2] ∧ Row wx (w.heap.size + 1) [.bool false, .int .u64 M0, .int .u64 A0] ∧ Own wx (w.heap.size + 1) 9 ∧ Tab wx ∧ Below w.heap.size w wx)
  case first =>
    go_region_held3 (fun w' => w'.cell? ⟨w.heap.size, 4, none⟩ = some (.int .u64 B1) ∧ w'.cell? ⟨w.heap.size, 5, none⟩ = some (.int .u64 T1) ∧ w'.cell? ⟨w.heap.size, 6, none⟩ = some (.int .u64 P1) ∧ w'.cell? ⟨w.heap.size, 7, none⟩ = some (.int .u64 K1) ∧ Tab w' ∧ Below w.heap.size w w')
      (first | with_reducible assumption | (refine ⟨?_, ?_, ?_, ?_, ?_, ?_⟩ <;> (first | with_reducible assumption | ((repeat (first | with_reducible assumption | with_reducible refine k_dr _ ?_ | with_reducible refine k_d1 ?_ | with_reducible refine k_al _ ?_ | (refine k_set ?_ ?_; focus (dsimp only; omega)) | (with_reducible apply k_be; with_reducible assumption))); done) | ((repeat (first | with_reducible assumption | with_reducible refine c_dr _ ?_ | with_reducible refine c_d1 ?_ | with_reducible refine c_al _ ?_ | (with_reducible refine c_set ?_ ?_; focus (dsimp only; omega)) | (with_reducible apply c_be; with_reducible assumption))); done) | ((repeat (first | with_reducible assumption | with_reducible refine o_dr _ ?_ | with_reducible refine o_d1 ?_ | with_reducible refine o_set ?_ | (with_reducible refine o_new ?_ ?_; (focus (simp)); (focus (simp))) | with_reducible refine o_al _ ?_ | (with_reducible apply o_be; with_reducible assumption))); done) | ((repeat (first | with_reducible assumption | with_reducible exact Below.refl _ _ | with_reducible refine Below.drew ?_ | with_reducible refine below_drewN ?_ _ | with_reducible refine bw_alloc ?_ _ | (with_reducible refine bw_set ?_ ?_ _; focus (dsimp only; omega)) | (with_reducible apply bw_behind; with_reducible assumption))); done) | (refine hT0.behind ?_; (repeat (first | with_reducible assumption | with_reducible exact Below.refl _ _ | with_reducible refine Below.drew ?_ | with_reducible refine below_drewN ?_ _ | with_reducible refine bw_alloc ?_ _ | (with_reducible refine bw_set ?_ ?_ _; focus (dsimp only; omega)) | (with_reducible apply bw_behind; with_reducible assumption))); done) | (refine bw_behind ?_ hB0; (repeat (first | with_reducible assumption | with_reducible exact Below.refl _ _ | with_reducible refine Below.drew ?_ | with_reducible refine below_drewN ?_ _ | with_reducible refine bw_alloc ?_ _ | (with_reducible refine bw_set ?_ ?_ _; focus (dsimp only; omega)) | (with_reducible apply bw_behind; with_reducible assumption))); done) | (simp [go_sem, *]; omega) | (simp (maxDischargeDepth := 4) [go_sem, *]; done))))
      (first | (go_at_call 21; (with_reducible refine (CM.out.mk1 _ ?_).mono ?_); (refine hT0.behind ?_; repeat (first | with_reducible assumption | with_reducible exact Below.refl _ _ | with_reducible refine Below.drew ?_ | with_reducible refine below_drewN ?_ _ | with_reducible refine bw_alloc ?_ _ | (with_reducible refine bw_set ?_ ?_ _; focus (dsimp only; omega)) | (with_reducible apply bw_behind; with_reducible assumption))); rintro e wa ⟨rfl, hba⟩; have hra := below_reads hba; have hha := below_holds hba; obtain ⟨ma, hsa⟩ := below_grew hba))
    all_goals
      go_wp2_with fail
      go_meet
      refine ⟨_, rfl, rfl, ?_, ?_, ?_, ?_, ?_, ?_, ?_, ?_, ?_⟩
    all_goals (first | with_reducible assumption | ((repeat (first | with_reducible assumption | with_reducible refine k_dr _ ?_ | with_reducible refine k_d1 ?_ | with_reducible refine k_al _ ?_ | (refine k_set ?_ ?_; focus (dsimp only; omega)) | (with_reducible apply k_be; with_reducible assumption))); done) | ((repeat (first | with_reducible assumption | with_reducible refine c_dr _ ?_ | with_reducible refine c_d1 ?_ | with_reducible refine c_al _ ?_ | (with_reducible refine c_set ?_ ?_; focus (dsimp only; omega)) | (with_reducible apply c_be; with_reducible assumption))); done) | ((repeat (first | with_reducible assumption | with_reducible refine o_dr _ ?_ | with_reducible refine o_d1 ?_ | with_reducible refine o_set ?_ | (with_reducible refine o_new ?_ ?_; (focus (simp)); (focus (simp))) | with_reducible refine o_al _ ?_ | (with_reducible apply o_be; with_reducible assumption))); done) | ((repeat (first | with_reducible assumption | with_reducible exact Below.refl _ _ | with_reducible refine Below.drew ?_ | with_reducible refine below_drewN ?_ _ | with_reducible refine bw_alloc ?_ _ | (with_reducible refine bw_set ?_ ?_ _; focus (dsimp only; omega)) | (with_reducible apply bw_behind; with_reducible assumption))); done) | (refine hT0.behind ?_; (repeat (first | with_reducible assumption | with_reducible exact Below.refl _ _ | with_reducible refine Below.drew ?_ | with_reducible refine below_drewN ?_ _ | with_reducible refine bw_alloc ?_ _ | (with_reducible refine bw_set ?_ ?_ _; focus (dsimp only; omega)) | (with_reducible apply bw_behind; with_reducible assumption))); done) | (refine bw_behind ?_ hB0; (repeat (first | with_reducible assumption | with_reducible exact Below.refl _ _ | with_reducible refine Below.drew ?_ | with_reducible refine below_drewN ?_ _ | with_reducible refine bw_alloc ?_ _ | (with_reducible refine bw_set ?_ ?_ _; focus (dsimp only; omega)) | (with_reducible apply bw_behind; with_reducible assumption))); done) | (simp [go_sem, *]; omega) | (simp (maxDischargeDepth := 4) [go_sem, *]; done))
  case rest =>
  obtain ⟨n, rfl, rfl, hn, c0, c1, c2, hV, hC, hO, hT0, hB0⟩ := hcut
  obtain ⟨i, rfl⟩ : ∃ i, n = w.heap.size + 1 + 1 + i := ⟨n - (w.heap.size + 2), by omega⟩
  obtain ⟨l, hl⟩ : ∃ l, wc.heap.size = w.heap.size + 1 + 1 + i + 1 + l := ⟨wc.heap.size - (w.heap.size + 1 + 1 + i + 1), by omega⟩
  have f0 := hO.free 3 (by omega)
  obtain ⟨x0, e0⟩ := hO.val 3 (by omega)
  have f1 := hO.free 4 (by omega)
  obtain ⟨x1, e1⟩ := hO.val 4 (by omega)
  have f2 := hO.free 5 (by omega)
  obtain ⟨x2, e2⟩ := hO.val 5 (by omega)
  cases O1 with
  | false =>
    go_wp2_with (go_at_call 20; (with_reducible refine (one_any _ hT0).mono ?_); rintro e wz ⟨rfl, hbz⟩)
    go_ret
    exact ⟨rfl, bw_behind hbz hB0⟩
  | true =>
  go_wp2
  refine rounds_abs (fun W => Row W w.heap.size [.int .u64 B0, .int .u64 T0, .int .u64 P0, .int .u64 K0, .int .u64 B1, .int .u64 T1, .int .u64 P1, .int .u64 K1, .int .u64 B2, .int .u64 T2, .int .u64 P2, .int .u64 K2] ∧ Row W (w.heap.size + 1) [.bool false, .int .u64 M0, .int .u64 A0, .bool false, .int .u64 M1, .int .u64 A1] ∧ Own W (w.heap.size + 1) 9 ∧ w.heap.size + 2 ≤ W.heap.size ∧ Tab W ∧ Below w.heap.size w W) ?_ ?_
  · refine ⟨?_, ?_, ?_, ?_, ?_, ?_⟩
    · exact k_set (by simp) (k_set (by simp) (k_set (by simp) hV))
    · exact row_store hC hO rfl (by omega)
    · exact o_set (o_set (o_set hO))
    · simp only [s_set]; omega
    · exact hT0.below (Below.setCell (p := ⟨w.heap.size + 1, 5, none⟩) (Below.setCell (p := ⟨w.heap.size + 1, 4, none⟩) (Below.setCell (p := ⟨w.heap.size + 1, 3, none⟩) (Below.refl (w.heap.size + 1) _) (by simp) _) (by simp) _) (by simp) _) (by omega)
    · exact Below.setCell (p := ⟨w.heap.size + 1, 5, none⟩) (Below.setCell (p := ⟨w.heap.size + 1, 4, none⟩) (Below.setCell (p := ⟨w.heap.size + 1, 3, none⟩) hB0 (by simp) _) (by simp) _) (by simp) _
  clear hT
  rintro w2 ⟨hV, hC, hO, hs, hT0, hB0⟩
  have hT := hT0
  obtain ⟨j, hk⟩ : ∃ j, w2.heap.size = w.heap.size + 1 + 1 + j := ⟨w2.heap.size - (w.heap.size + 2), by omega⟩
  clear hs
  have v8 := hV 8 _ rfl
  have v9 := hV 9 _ rfl
  have v10 := hV 10 _ rfl
  have v11 := hV 11 _ rfl
  rw [rounds_succ]
  go_upto_region 5 with fail
  go_cut [5, 6] (fun s5 s6 wx => ∃ n : Nat, s5 = .pointer (some ⟨n, 0, none⟩) ∧ s6 = .bool O2 ∧ (w.heap.size + 2 ≤ n ∧ n < wx.heap.size) ∧ wx.cell? ⟨n, 0, none⟩ = some (.bool false) ∧ wx.cell? ⟨n, 1, none⟩ = some (.int .u64 M2) ∧ wx.cell? ⟨n, 2, none⟩ = some (.int .u64 A2) ∧
    Row wx w.heap.size [.int .u64 B0, .int .u64 T0, .int .u64 P0, .int .u64 K0, .int .u64 B1, .int .u64 T1, .int .u64 P1, .int .u64 K1, .int .u64 B2, .int .u64 T2, .int .u64 P2, .int .u64 K2] ∧ Row wx (w.heap.size + 1) [.bool false, .int .u64 M0, .int .u64 A0, .bool false, .int .u64 M1, .int .u64 A1] ∧ Own wx (w.heap.size + 1) 9 ∧ Tab wx ∧ Below w.heap.size w wx)
  case first =>
    go_region_held3 (fun w' => w'.cell? ⟨w.heap.size, 8, none⟩ = some (.int .u64 B2) ∧ w'.cell? ⟨w.heap.size, 9, none⟩ = some (.int .u64 T2) ∧ w'.cell? ⟨w.heap.size, 10, none⟩ = some (.int .u64 P2) ∧ w'.cell? ⟨w.heap.size, 11, none⟩ = some (.int .u64 K2) ∧ Tab w' ∧ Below w.heap.size w w')
      (first | with_reducible assumption | (refine ⟨?_, ?_, ?_, ?_, ?_, ?_⟩ <;> (first | with_reducible assumption | ((repeat (first | with_reducible assumption | with_reducible refine k_dr _ ?_ | with_reducible refine k_d1 ?_ | with_reducible refine k_al _ ?_ | (refine k_set ?_ ?_; focus (dsimp only; omega)) | (with_reducible apply k_be; with_reducible assumption))); done) | ((repeat (first | with_reducible assumption | with_reducible refine c_dr _ ?_ | with_reducible refine c_d1 ?_ | with_reducible refine c_al _ ?_ | (with_reducible refine c_set ?_ ?_; focus (dsimp only; omega)) | (with_reducible apply c_be; with_reducible assumption))); done) | ((repeat (first | with_reducible assumption | with_reducible refine o_dr _ ?_ | with_reducible refine o_d1 ?_ | with_reducible refine o_set ?_ | (with_reducible refine o_new ?_ ?_; (focus (simp)); (focus (simp))) | with_reducible refine o_al _ ?_ | (with_reducible apply o_be; with_reducible assumption))); done) | ((repeat (first | with_reducible assumption | with_reducible exact Below.refl _ _ | with_reducible refine Below.drew ?_ | with_reducible refine below_drewN ?_ _ | with_reducible refine bw_alloc ?_ _ | (with_reducible refine bw_set ?_ ?_ _; focus (dsimp only; omega)) | (with_reducible apply bw_behind; with_reducible assumption))); done) | (refine hT0.behind ?_; (repeat (first | with_reducible assumption | with_reducible exact Below.refl _ _ | with_reducible refine Below.drew ?_ | with_reducible refine below_drewN ?_ _ | with_reducible refine bw_alloc ?_ _ | (with_reducible refine bw_set ?_ ?_ _; focus (dsimp only; omega)) | (with_reducible apply bw_behind; with_reducible assumption))); done) | (refine bw_behind ?_ hB0; (repeat (first | with_reducible assumption | with_reducible exact Below.refl _ _ | with_reducible refine Below.drew ?_ | with_reducible refine below_drewN ?_ _ | with_reducible refine bw_alloc ?_ _ | (with_reducible refine bw_set ?_ ?_ _; focus (dsimp only; omega)) | (with_reducible apply bw_behind; with_reducible assumption))); done) | (simp [go_sem, *]; omega) | (simp (maxDischargeDepth := 4) [go_sem, *]; done))))
      (first | (go_at_call 21; (with_reducible refine (CM.out.mk2 _ ?_).mono ?_); (refine hT0.behind ?_; repeat (first | with_reducible assumption | with_reducible exact Below.refl _ _ | with_reducible refine Below.drew ?_ | with_reducible refine below_drewN ?_ _ | with_reducible refine bw_alloc ?_ _ | (with_reducible refine bw_set ?_ ?_ _; focus (dsimp only; omega)) | (with_reducible apply bw_behind; with_reducible assumption))); rintro e wa ⟨rfl, hba⟩; have hra := below_reads hba; have hha := below_holds hba; obtain ⟨ma, hsa⟩ := below_grew hba))
    all_goals
      go_wp2_with fail
      go_meet
      refine ⟨_, rfl, rfl, ?_, ?_, ?_, ?_, ?_, ?_, ?_, ?_, ?_⟩
    all_goals (first | with_reducible assumption | ((repeat (first | with_reducible assumption | with_reducible refine k_dr _ ?_ | with_reducible refine k_d1 ?_ | with_reducible refine k_al _ ?_ | (refine k_set ?_ ?_; focus (dsimp only; omega)) | (with_reducible apply k_be; with_reducible assumption))); done) | ((repeat (first | with_reducible assumption | with_reducible refine c_dr _ ?_ | with_reducible refine c_d1 ?_ | with_reducible refine c_al _ ?_ | (with_reducible refine c_set ?_ ?_; focus (dsimp only; omega)) | (with_reducible apply c_be; with_reducible assumption))); done) | ((repeat (first | with_reducible assumption | with_reducible refine o_dr _ ?_ | with_reducible refine o_d1 ?_ | with_reducible refine o_set ?_ | (with_reducible refine o_new ?_ ?_; (focus (simp)); (focus (simp))) | with_reducible refine o_al _ ?_ | (with_reducible apply o_be; with_reducible assumption))); done) | ((repeat (first | with_reducible assumption | with_reducible exact Below.refl _ _ | with_reducible refine Below.drew ?_ | with_reducible refine below_drewN ?_ _ | with_reducible refine bw_alloc ?_ _ | (with_reducible refine bw_set ?_ ?_ _; focus (dsimp only; omega)) | (with_reducible apply bw_behind; with_reducible assumption))); done) | (refine hT0.behind ?_; (repeat (first | with_reducible assumption | with_reducible exact Below.refl _ _ | with_reducible refine Below.drew ?_ | with_reducible refine below_drewN ?_ _ | with_reducible refine bw_alloc ?_ _ | (with_reducible refine bw_set ?_ ?_ _; focus (dsimp only; omega)) | (with_reducible apply bw_behind; with_reducible assumption))); done) | (refine bw_behind ?_ hB0; (repeat (first | with_reducible assumption | with_reducible exact Below.refl _ _ | with_reducible refine Below.drew ?_ | with_reducible refine below_drewN ?_ _ | with_reducible refine bw_alloc ?_ _ | (with_reducible refine bw_set ?_ ?_ _; focus (dsimp only; omega)) | (with_reducible apply bw_behind; with_reducible assumption))); done) | (simp [go_sem, *]; omega) | (simp (maxDischargeDepth := 4) [go_sem, *]; done))
  case rest =>
  obtain ⟨n, rfl, rfl, hn, c0, c1, c2, hV, hC, hO, hT0, hB0⟩ := hcut
  obtain ⟨i, rfl⟩ : ∃ i, n = w.heap.size + 1 + 1 + i := ⟨n - (w.heap.size + 2), by omega⟩
  obtain ⟨l, hl⟩ : ∃ l, wc.heap.size = w.heap.size + 1 + 1 + i + 1 + l := ⟨wc.heap.size - (w.heap.size + 1 + 1 + i + 1), by omega⟩
  have f0 := hO.free 6 (by omega)
  obtain ⟨x0, e0⟩ := hO.val 6 (by omega)
  have f1 := hO.free 7 (by omega)
  obtain ⟨x1, e1⟩ := hO.val 7 (by omega)
  have f2 := hO.free 8 (by omega)
  obtain ⟨x2, e2⟩ := hO.val 8 (by omega)
  cases O2 with
  | false =>
    go_wp2_with (go_at_call 20; (with_reducible refine (one_any _ hT0).mono ?_); rintro e wz ⟨rfl, hbz⟩)
    go_ret
    exact ⟨rfl, bw_behind hbz hB0⟩
  | true =>
  go_wp2
  refine rounds_abs (fun W => Row W w.heap.size [.int .u64 B0, .int .u64 T0, .int .u64 P0, .int .u64 K0, .int .u64 B1, .int .u64 T1, .int .u64 P1, .int .u64 K1, .int .u64 B2, .int .u64 T2, .int .u64 P2, .int .u64 K2] ∧ Row W (w.heap.size + 1) [.bool false, .int .u64 M0, .int .u64 A0, .bool false, .int .u64 M1, .int .u64 A1, .bool false, .int .u64 M2, .int .u64 A2] ∧ Own W (w.heap.size + 1) 9 ∧ w.heap.size + 2 ≤ W.heap.size ∧ Tab W ∧ Below w.heap.size w W) ?_ ?_
  · refine ⟨?_, ?_, ?_, ?_, ?_, ?_⟩
    · exact k_set (by simp) (k_set (by simp) (k_set (by simp) hV))
    · exact row_store hC hO rfl (by omega)
    · exact o_set (o_set (o_set hO))
    · simp only [s_set]; omega
    · exact hT0.below (Below.setCell (p := ⟨w.heap.size + 1, 8, none⟩) (Below.setCell (p := ⟨w.heap.size + 1, 7, none⟩) (Below.setCell (p := ⟨w.heap.size + 1, 6, none⟩) (Below.refl (w.heap.size + 1) _) (by simp) _) (by simp) _) (by simp) _) (by omega)
    · exact Below.setCell (p := ⟨w.heap.size + 1, 8, none⟩) (Below.setCell (p := ⟨w.heap.size + 1, 7, none⟩) (Below.setCell (p := ⟨w.heap.size + 1, 6, none⟩) hB0 (by simp) _) (by simp) _) (by simp) _
  clear hT
  rintro w3 ⟨hV, hC, hO, hs, hT0, hB0⟩
  have hT := hT0
  obtain ⟨j, hk⟩ : ∃ j, w3.heap.size = w.heap.size + 1 + 1 + j := ⟨w3.heap.size - (w.heap.size + 2), by omega⟩
  clear hs
  have v0 := hV 0 _ rfl
  have v1 := hV 1 _ rfl
  have v2 := hV 2 _ rfl
  have v4 := hV 4 _ rfl
  have v5 := hV 5 _ rfl
  have v6 := hV 6 _ rfl
  have k0 := hC 0 _ rfl
  have k1 := hC 1 _ rfl
  have k2 := hC 2 _ rfl
  have k3 := hC 3 _ rfl
  have k4 := hC 4 _ rfl
  have k5 := hC 5 _ rfl
  have k6 := hC 6 _ rfl
  have k7 := hC 7 _ rfl
  have k8 := hC 8 _ rfl
  have HT := HF.out (by simp) (by simp) (by simp)
  have EQ := eq_span B0 T0 B1 T1
  rw [HT.sv] at EQ
  have PE := HT.pv
  have CT := hide HT
  have hcmb := HT.cmb
  clear HF HT CM
  rw [rounds_succ]
  go_upto_region 9 with fail
  rcases hcmb with ⟨rfl, rfl | ⟨rfl, rfl⟩⟩ | ⟨rfl, rfl | ⟨rfl, rfl⟩, ⟨rfl, rfl | ⟨rfl, rfl⟩⟩ | ⟨rfl, rfl, rfl⟩⟩
  all_goals
    go_wp2_with (first | (go_at_call 15; (first | ((with_reducible refine (CT.out.w01 _ ?_).mono ?_); (refine hT.behind ?_; repeat (first | with_reducible assumption | with_reducible exact Below.refl _ _ | with_reducible refine Below.drew ?_ | with_reducible refine below_drewN ?_ _ | with_reducible refine bw_alloc ?_ _ | (with_reducible refine bw_set ?_ ?_ _; focus (dsimp only; omega)) | (with_reducible apply bw_behind; with_reducible assumption))))); rintro e wa ⟨rfl, hba⟩; have hra := below_reads hba; have hha := below_holds hba; obtain ⟨ma, hsa⟩ := below_grew hba) | (go_at_call 15; (first | ((with_reducible refine (CT.out.w12 _ ?_).mono ?_); (refine hT.behind ?_; repeat (first | with_reducible assumption | with_reducible exact Below.refl _ _ | with_reducible refine Below.drew ?_ | with_reducible refine below_drewN ?_ _ | with_reducible refine bw_alloc ?_ _ | (with_reducible refine bw_set ?_ ?_ _; focus (dsimp only; omega)) | (with_reducible apply bw_behind; with_reducible assumption))))); rintro e wb ⟨rfl, hbb⟩; have hrb := below_reads hbb; have hhb := below_holds hbb; obtain ⟨mb, hsb⟩ := below_grew hbb) | (go_at_call 15; (first | ((with_reducible refine (CT.out.w02 _ ?_).mono ?_); (refine hT.behind ?_; repeat (first | with_reducible assumption | with_reducible exact Below.refl _ _ | with_reducible refine Below.drew ?_ | with_reducible refine below_drewN ?_ _ | with_reducible refine bw_alloc ?_ _ | (with_reducible refine bw_set ?_ ?_ _; focus (dsimp only; omega)) | (with_reducible apply bw_behind; with_reducible assumption))))); rintro e wc ⟨rfl, hbc⟩; have hrc := below_reads hbc; have hhc := below_holds hbc; obtain ⟨mc, hsc⟩ := below_grew hbc) | (go_at_call 15; (first | ((with_reducible refine (CT.out.w10 _ ?_).mono ?_); (refine hT.behind ?_; repeat (first | with_reducible assumption | with_reducible exact Below.refl _ _ | with_reducible refine Below.drew ?_ | with_reducible refine below_drewN ?_ _ | with_reducible refine bw_alloc ?_ _ | (with_reducible refine bw_set ?_ ?_ _; focus (dsimp only; omega)) | (with_reducible apply bw_behind; with_reducible assumption))))); rintro e wd ⟨rfl, hbd⟩; have hrd := below_reads hbd; have hhd := below_holds hbd; obtain ⟨md, hsd⟩ := below_grew hbd) | (go_at_call 15; (first | ((with_reducible refine (CT.out.wa _ ?_).mono ?_); (refine hT.behind ?_; repeat (first | with_reducible assumption | with_reducible exact Below.refl _ _ | with_reducible refine Below.drew ?_ | with_reducible refine below_drewN ?_ _ | with_reducible refine bw_alloc ?_ _ | (with_reducible refine bw_set ?_ ?_ _; focus (dsimp only; omega)) | (with_reducible apply bw_behind; with_reducible assumption))))); rintro e we ⟨rfl, hbe⟩; have hre := below_reads hbe; have hhe := below_holds hbe; obtain ⟨me, hse⟩ := below_grew hbe) | (go_at_call 23; (first | ((with_reducible refine (CT.out.all _ ?_).mono ?_); (refine hT.behind ?_; repeat (first | with_reducible assumption | with_reducible exact Below.refl _ _ | with_reducible refine Below.drew ?_ | with_reducible refine below_drewN ?_ _ | with_reducible refine bw_alloc ?_ _ | (with_reducible refine bw_set ?_ ?_ _; focus (dsimp only; omega)) | (with_reducible apply bw_behind; with_reducible assumption))))); rintro e wf ⟨rfl, hbf⟩; have hrf := below_reads hbf; have hhf := below_holds hbf; obtain ⟨mf, hsf⟩ := below_grew hbf) | (go_at_call 20; (first | ((with_reducible refine (one_any _ ?_).mono ?_); (refine hT.behind ?_; repeat (first | with_reducible assumption | with_reducible exact Below.refl _ _ | with_reducible refine Below.drew ?_ | with_reducible refine below_drewN ?_ _ | with_reducible refine bw_alloc ?_ _ | (with_reducible refine bw_set ?_ ?_ _; focus (dsimp only; omega)) | (with_reducible apply bw_behind; with_reducible assumption))))); rintro e wg ⟨rfl, hbg⟩; have hrg := below_reads hbg; have hhg := below_holds hbg; obtain ⟨mg, hsg⟩ := below_grew hbg))
    go_ret
    exact ⟨rfl, bw_behind (by repeat (first | with_reducible assumption | with_reducible exact Below.refl _ _ | with_reducible refine Below.drew ?_ | with_reducible refine below_drewN ?_ _ | with_reducible refine bw_alloc ?_ _ | (with_reducible refine bw_set ?_ ?_ _; focus (dsimp only; omega)) | (with_reducible apply bw_behind; with_reducible assumption))) hB0⟩

theorem cmb_of (W01 W12 W02 W10 SV PV : Bool) (h1 : W01 = true → W12 = true → W02 = true) (h2 : (W01 && W10) = (SV && PV)) :
    (W01 = false ∧ (SV = false ∨ (SV = true ∧ PV = false))) ∨ (W01 = true ∧ (W12 = false ∨ (W12 = true ∧ W02 = true)) ∧ ((W10 = false ∧ (SV = false ∨ (SV = true ∧ PV = false))) ∨ (W10 = true ∧ SV = true ∧ PV = true))) := by
  cases W01 <;> cases W12 <;> cases W02 <;> cases W10 <;> cases SV <;> cases PV <;> simp_all
theorem same_iff {m a n b : Nat} (h1 : rightB m a = true) (h2 : rightB n b = true) : (withinC m a n b && withinC n b m a) = (decide (((lB m a : Nat) : Int) = ((lB n b : Nat) : Int) ∧ ((lT m a : Nat) : Int) = ((lT n b : Nat) : Int)) && (((mP m : Nat) : Int) == ((mP n : Nat) : Int))) := by
  unfold withinC
  rw [h1, h2, Bool.eq_iff_iff]
  simp only [Bool.and_eq_true, decide_eq_true_eq, beq_iff_eq, Bool.true_and]
  constructor
  · rintro ⟨⟨⟨g1, g2⟩, g3⟩, ⟨g4, g5⟩, g6⟩
    have := sub_anti g3 g6
    omega
  · rintro ⟨⟨g1, g2⟩, g3⟩
    have g4 : mP m = mP n := by omega
    rw [g4]
    exact ⟨⟨⟨by omega, by omega⟩, sub_refl _⟩, ⟨by omega, by omega⟩, sub_refl _⟩
theorem open_flat {H : Type} {enc : TypeId × Value → H} {P : Program} {W : World} {base : Nat} {t e : TypeId} {n : Nat} {v : Value} {d : DataW H} {ps : List MemPlace} {F : Nat} {ks : List Frame.Kd} (ht : P.underlying t = some (.array n e)) (hk : Frame.flat P F t = some ks)
    (hv : Value.okWide P W .any base t v) (h : DataW.Trod enc P W 0 (fun _ => true) true t v d ps) : ∃ cs : List Value, v = .agg cs.toArray ∧ Frame.Fits ks cs := by
  obtain ⟨cs, rfl, hsz, _⟩ : ∃ cs, v = .agg cs ∧ cs.size = P.cellsOf t ∧ Row.okWide P W .any base t cs := by
    simpa [Value.okWide, ht] using hv
  obtain ⟨fuel, hf⟩ := h
  exact ⟨cs.toList, by simp, Frame.fits_of F t ks fuel _ _ hk (by simpa [Value.cells] using hf)⟩

theorem walk (b0 t0 p0 k0 b1 t1 p1 k1 b2 t2 p2 k2 : BitVec 64) (w : World) (hT : Tab w) :
    Calls Tryd.prog 6 #[.agg #[.int .u64 (b0.toNat : Int), .int .u64 (t0.toNat : Int), .int .u64 (p0.toNat : Int), .int .u64 (k0.toNat : Int), .int .u64 (b1.toNat : Int), .int .u64 (t1.toNat : Int), .int .u64 (p1.toNat : Int), .int .u64 (k1.toNat : Int), .int .u64 (b2.toNat : Int), .int .u64 (t2.toNat : Int), .int .u64 (p2.toNat : Int), .int .u64 (k2.toNat : Int)]] w fun e w' => e = .returned (.bool true) ∧ Below w.heap.size w w' := by
  obtain ⟨fb0, ft0, e0, ex0, h0⟩ := enc_ex b0.toNat t0.toNat
  have m0 := fun W hW => make_any b0 t0 p0.toNat k0.toNat b0.toNat fb0 ft0 e0 ex0 (toNat_lt p0) (toNat_lt k0) h0 W hW
  obtain ⟨fb1, ft1, e1, ex1, h1⟩ := enc_ex b1.toNat t1.toNat
  have m1 := fun W hW => make_any b1 t1 p1.toNat k1.toNat b1.toNat fb1 ft1 e1 ex1 (toNat_lt p1) (toNat_lt k1) h1 W hW
  obtain ⟨fb2, ft2, e2, ex2, h2⟩ := enc_ex b2.toNat t2.toNat
  have m2 := fun W hW => make_any b2 t2 p2.toNat k2.toNat b2.toNat fb2 ft2 e2 ex2 (toNat_lt p2) (toNat_lt k2) h2 W hW
  cases o0 : mkO b0.toNat t0.toNat p0.toNat k0.toNat b0.toNat fb0 ft0 e0 ex0 with
  | false =>
    rw [o0] at m0
    exact walk_let _ _ _ _ _ _ _ _ _ _ _ _ _ _ _ _ _ _ 0 _ _ _ false false false false false false ⟨m0, m1, m2⟩ (fun h => by cases h) w hT
  | true =>
  cases o1 : mkO b1.toNat t1.toNat p1.toNat k1.toNat b1.toNat fb1 ft1 e1 ex1 with
  | false =>
    rw [o1] at m1
    exact walk_let _ _ _ _ _ _ _ _ _ _ _ _ _ _ _ _ _ _ 0 _ _ _ false false false false false false ⟨m0, m1, m2⟩ (fun _ h => by cases h) w hT
  | true =>
  cases o2 : mkO b2.toNat t2.toNat p2.toNat k2.toNat b2.toNat fb2 ft2 e2 ex2 with
  | false =>
    rw [o2] at m2
    exact walk_let _ _ _ _ _ _ _ _ _ _ _ _ _ _ _ _ _ _ 0 _ _ _ false false false false false false ⟨m0, m1, m2⟩ (fun _ _ h => by cases h) w hT
  | true =>
  rw [o0] at m0
  rw [o1] at m1
  rw [o2] at m2
  obtain ⟨_, g0b, g0t, g0p, _, g0r⟩ := made h0 o0
  obtain ⟨_, g1b, g1t, g1p, _, g1r⟩ := made h1 o1
  obtain ⟨_, g2b, g2t, g2p, _, g2r⟩ := made h2 o2
  have hall := within_all (metaN (wordN fb0 ft0 e0) p0.toNat k0.toNat) b0.toNat
  rw [g0r] at hall
  have wa := fun W hW => within_any false true (metaN (wordN fb0 ft0 e0) p0.toNat k0.toNat) b0.toNat (metaN (wordN 0 0 37) 511 0) 0 (metaN_lt ..) (metaN_lt ..) W hW
  rw [hall] at wa
  have hs := same_iff g0r g1r
  rw [g0b, g1b, g0t, g1t, g0p, g1p] at hs
  have w01 := fun W hW => within_any false false (metaN (wordN fb0 ft0 e0) p0.toNat k0.toNat) b0.toNat (metaN (wordN fb1 ft1 e1) p1.toNat k1.toNat) b1.toNat (metaN_lt ..) (metaN_lt ..) W hW
  have w12 := fun W hW => within_any false false (metaN (wordN fb1 ft1 e1) p1.toNat k1.toNat) b1.toNat (metaN (wordN fb2 ft2 e2) p2.toNat k2.toNat) b2.toNat (metaN_lt ..) (metaN_lt ..) W hW
  have w02 := fun W hW => within_any false false (metaN (wordN fb0 ft0 e0) p0.toNat k0.toNat) b0.toNat (metaN (wordN fb2 ft2 e2) p2.toNat k2.toNat) b2.toNat (metaN_lt ..) (metaN_lt ..) W hW
  have w10 := fun W hW => within_any false false (metaN (wordN fb1 ft1 e1) p1.toNat k1.toNat) b1.toNat (metaN (wordN fb0 ft0 e0) p0.toNat k0.toNat) b0.toNat (metaN_lt ..) (metaN_lt ..) W hW
  have tl : Tail (b0.toNat : Int) (t0.toNat : Int) (p0.toNat : Int) (k0.toNat : Int) (b1.toNat : Int) (t1.toNat : Int) (p1.toNat : Int) (k1.toNat : Int) (b2.toNat : Int) (t2.toNat : Int) (p2.toNat : Int) (k2.toNat : Int) ((metaN (wordN fb0 ft0 e0) p0.toNat k0.toNat : Nat) : Int) (b0.toNat : Int) ((metaN (wordN fb1 ft1 e1) p1.toNat k1.toNat : Nat) : Int) (b1.toNat : Int) ((metaN (wordN fb2 ft2 e2) p2.toNat k2.toNat : Nat) : Int) (b2.toNat : Int) ((metaN (wordN 0 0 37) 511 0 : Nat) : Int) (withinC (metaN (wordN fb0 ft0 e0) p0.toNat k0.toNat) b0.toNat (metaN (wordN fb1 ft1 e1) p1.toNat k1.toNat) b1.toNat) (withinC (metaN (wordN fb1 ft1 e1) p1.toNat k1.toNat) b1.toNat (metaN (wordN fb2 ft2 e2) p2.toNat k2.toNat) b2.toNat) (withinC (metaN (wordN fb0 ft0 e0) p0.toNat k0.toNat) b0.toNat (metaN (wordN fb2 ft2 e2) p2.toNat k2.toNat) b2.toNat) (withinC (metaN (wordN fb1 ft1 e1) p1.toNat k1.toNat) b1.toNat (metaN (wordN fb0 ft0 e0) p0.toNat k0.toNat) b0.toNat) _ _ :=
    ⟨w01, w12, w02, w10, wa, root_all, rfl, rfl, cmb_of _ _ _ _ _ _ (fun h k => within_trans h k) hs⟩
  exact walk_let _ _ _ _ _ _ _ _ _ _ _ _ _ _ _ _ _ _ _ _ _ _ _ _ _ _ _ _ ⟨m0, m1, m2⟩ (fun _ _ _ => tl) w hT
open Go.ChangeShapes Go.WideShapes Go.ChangeAt
set_option maxRecDepth 100000 in
theorem walks : Frame.WalksLaid [("mintmark/bounds.places", Rows.laid_mintmark_bounds_places)] 6 Tryd.f6 := by
  intro H enc W base args ds ps hL hval hA
  rw [Tryd.params6] at hA hval
  obtain ⟨v0, d0, hargs, rfl, h0⟩ := trodAll_one hA
  obtain rfl : args = #[v0] := by cases args; simp_all
  obtain ⟨cs0, rfl, hf0⟩ := open_flat (F := 4) (ks := [.inl .u64, .inl .u64, .inl .u64, .inl .u64, .inl .u64, .inl .u64, .inl .u64, .inl .u64, .inl .u64, .inl .u64, .inl .u64, .inl .u64]) Tryd.underlying56 (by kernel_rfl) (hval 0 56 v0 rfl rfl) h0
  match cs0, hf0 with
  | [_, _, _, _, _, _, _, _, _, _, _, _], ⟨⟨z0_0, rfl, wz0_0⟩, ⟨z0_1, rfl, wz0_1⟩, ⟨z0_2, rfl, wz0_2⟩, ⟨z0_3, rfl, wz0_3⟩, ⟨z0_4, rfl, wz0_4⟩, ⟨z0_5, rfl, wz0_5⟩, ⟨z0_6, rfl, wz0_6⟩, ⟨z0_7, rfl, wz0_7⟩, ⟨z0_8, rfl, wz0_8⟩, ⟨z0_9, rfl, wz0_9⟩, ⟨z0_10, rfl, wz0_10⟩, ⟨z0_11, rfl, wz0_11⟩, _⟩ =>
  obtain ⟨Z0_0, rfl⟩ := Frame.wf_u64 wz0_0
  obtain ⟨Z0_1, rfl⟩ := Frame.wf_u64 wz0_1
  obtain ⟨Z0_2, rfl⟩ := Frame.wf_u64 wz0_2
  obtain ⟨Z0_3, rfl⟩ := Frame.wf_u64 wz0_3
  obtain ⟨Z0_4, rfl⟩ := Frame.wf_u64 wz0_4
  obtain ⟨Z0_5, rfl⟩ := Frame.wf_u64 wz0_5
  obtain ⟨Z0_6, rfl⟩ := Frame.wf_u64 wz0_6
  obtain ⟨Z0_7, rfl⟩ := Frame.wf_u64 wz0_7
  obtain ⟨Z0_8, rfl⟩ := Frame.wf_u64 wz0_8
  obtain ⟨Z0_9, rfl⟩ := Frame.wf_u64 wz0_9
  obtain ⟨Z0_10, rfl⟩ := Frame.wf_u64 wz0_10
  obtain ⟨Z0_11, rfl⟩ := Frame.wf_u64 wz0_11
  exact walk Z0_0 Z0_1 Z0_2 Z0_3 Z0_4 Z0_5 Z0_6 Z0_7 Z0_8 Z0_9 Z0_10 Z0_11 W (tab_of_laid hL)
set_option maxRecDepth 100000 in
theorem said : Rows.CapabOrderSaid :=
  OpenClaim.holds_of_wide 6 Tryd.f6 rfl rfl rfl rfl rfl rfl rfl ⟨rfl, rfl, rfl, rfl, rfl⟩ rfl rfl rfl rfl rfl (by kernel_rfl) Tryd.func6 (by kernel_rfl)
    (of_decide_eq_true (by kernel_rfl)) (by unfold Func.isWrapper; first | (rw [if_pos (by decide +kernel)]; kernel_rfl) | (rw [if_neg (by decide +kernel)]; exact ⟨rfl, rfl⟩))
    (fun os started H enc _ => Frame.liftLaid [("mintmark/bounds.places", Rows.laid_mintmark_bounds_places)] os started H enc _ _ Rows.capabOrderSpec 4 (by kernel_rfl) Tryd.func6 Tryd.underlying4 (by kernel_rfl) rfl (by kernel_rfl)
      (fun ds h => by match ds, h with | [_], _ => exact ⟨rfl, rfl, rfl⟩)
      (ChangeSpec.witness_shaped (enc := enc) (C := Tryd.checked) (os := os) (X := fun w _ => laidMetH Tryd.prog [("mintmark/bounds.places", Rows.laid_mintmark_bounds_places)] w) false (World.doorLaid Tryd.prog 400 os) #[.agg #[.int .u64 0, .int .u64 0, .int .u64 0, .int .u64 0, .int .u64 0, .int .u64 0, .int .u64 0, .int .u64 0, .int .u64 0, .int .u64 0, .int .u64 0, .int .u64 0]] 8 rfl (World.shaped_of_RefB (by kernel_rfl) (by kernel_rfl)) (by kernel_rfl) (by kernel_rfl) (by kernel_rfl) (door_met os _)) walks)
set_option maxRecDepth 100000 in
theorem proved : Rows.CapabOrderCardSaid :=
  Claim7.holds_tied_plain_at .later [] [.data] true _ false said (fun _ h => by cases h) (by kernel_rfl) (fun _ h => by cases h) capabOrder_row_tie rfl ⟨rfl, rfl⟩ (by kernel_rfl) rfl
    (fun f fn hf hfn => by
      obtain rfl : f = 6 := Option.some.inj ((show Tryd.prog.funcNamed "mintmark/mintmarklaw05.CapabOrder" = some 6 by kernel_rfl).symm.trans hf) |>.symm
      obtain rfl : fn = Tryd.f6 := (Option.some.inj (Tryd.func6.symm.trans hfn)).symm
      exact ⟨by kernel_rfl, fun j t ht => by
        rw [Tryd.params6] at ht
        have hm : t ∈ [56] := by have := Array.mem_of_getElem? ht; simp at this; simp; first | omega | grind
        have hall : ([56].all fun u => !Tryd.prog.wantsStandIn u) = true := by kernel_rfl
        exact (show Tryd.prog.wantsStandIn t = false by simpa using List.all_eq_true.1 hall t hm)⟩)
    (by kernel_rfl)
end Go.Proofs.YtpdadlbdloeijaaDoor.CapabOrder
