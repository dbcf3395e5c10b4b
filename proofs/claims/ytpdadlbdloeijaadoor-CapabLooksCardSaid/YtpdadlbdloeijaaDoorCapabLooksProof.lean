/-
  CapabLooks holds: for every a and b the law returns true and turns nothing that was there, where the table of places holds what the program's text lays.
-/
import Derived.Test.YtpdadlbdloeijaaDoorTabLaid03
import Derived.Test.YtpdadlbdloeijaaDoorCapRoot
import Derived.Test.YtpdadlbdloeijaaDoorCapMath2
import Derived.Test.YtpdadlbdloeijaaDoorCapBytes
import Derived.Test.YtpdadlbdloeijaaDoorCapOf
import Derived.Test.YtpdadlbdloeijaaDoorCapEq
import Derived.Test.YtpdadlbdloeijaaDoorCapRef4
import Derived.BigQuiet
namespace Go.Proofs.YtpdadlbdloeijaaDoor.CapabLooks
open Go.RowKit Words FieldMath BoundsMath
theorem behind_cell {w0 : World} {a : Addr} {v : Value} (h : w0.cell? a = some v) : ∀ y : Behind w0.heap.size w0, y.world.cell? a = some v := fun y => (y.below.cell (World.block_lt_of_cell? w0 a h)).trans h
theorem wp_abs {P : Program} {c : Code} {Q : Exit → Act → World → Prop} {a : Act} {w : World} (C : World → Prop) (hC : C w) (h : ∀ w0, C w0 → c.wp P Q a w0) : c.wp P Q a w := h w hC

theorem eq_rview (D U P K : Int) : ∀ W, (binOp .eql 33 (.agg #[.int .u64 D, .int .u64 U, .int .u64 P, .int .u64 K]) (.agg #[.int .u64 D, .int .u64 U, .int .u64 P, .int .u64 K])).run Tryd.prog W = .ok (.bool true) W := by
  intro W
  simp [go_sem]
structure Met (q1 q2 LV RV WV : Bool) (M1 A1 M2 A2 D U P K x0 x1 x2 x3 x4 x5 x6 x7 x8 x9 x10 x11 x12 x13 x14 x15 : Int) : Prop where
  l1 : ∀ W, Tab W → Calls Tryd.prog 9 #[.agg #[.bool q1, .int .u64 M1, .int .u64 A1]] W (Makes (.tuple #[.agg #[.int .u64 D, .int .u64 U, .int .u64 P, .int .u64 K], .bool LV]) W)
  l2 : ∀ W, Calls Tryd.prog 10 #[.agg #[.bool q1, .int .u64 M1, .int .u64 A1]] W (Makes (.tuple #[.agg #[.int .u64 D, .int .u64 U, .int .u64 P, .int .u64 K], .bool LV]) W)
  b1 : ∀ W, Tab W → Calls Tryd.prog 11 #[.agg #[.bool q1, .int .u64 M1, .int .u64 A1]] W (Makes (.agg #[.int .u8 x0, .int .u8 x1, .int .u8 x2, .int .u8 x3, .int .u8 x4, .int .u8 x5, .int .u8 x6, .int .u8 x7, .int .u8 x8, .int .u8 x9, .int .u8 x10, .int .u8 x11, .int .u8 x12, .int .u8 x13, .int .u8 x14, .int .u8 x15]) W)
  b2 : ∀ W, Tab W → Calls Tryd.prog 17 #[.agg #[.bool q1, .int .u64 M1, .int .u64 A1]] W (Makes (.agg #[.int .u8 x0, .int .u8 x1, .int .u8 x2, .int .u8 x3, .int .u8 x4, .int .u8 x5, .int .u8 x6, .int .u8 x7, .int .u8 x8, .int .u8 x9, .int .u8 x10, .int .u8 x11, .int .u8 x12, .int .u8 x13, .int .u8 x14, .int .u8 x15]) W)
  vw : ∀ W, Tab W → Calls Tryd.prog 12 #[.agg #[.int .u64 D, .int .u64 U, .int .u64 P, .int .u64 K]] W (Makes (.agg #[.int .u64 D, .int .u64 U, .int .u64 P, .int .u64 K]) W)
  r1 : ∀ W, Tab W → Calls Tryd.prog 13 #[.agg #[.bool q1, .int .u64 M1, .int .u64 A1]] W (Makes (.bool RV) W)
  r2 : ∀ W, Tab W → Calls Tryd.prog 14 #[.agg #[.bool q1, .int .u64 M1, .int .u64 A1]] W (Makes (.bool RV) W)
  w1 : ∀ W, Tab W → Calls Tryd.prog 15 #[.agg #[.bool q1, .int .u64 M1, .int .u64 A1], .agg #[.bool q2, .int .u64 M2, .int .u64 A2]] W (Makes (.bool WV) W)
  w2 : ∀ W, Tab W → Calls Tryd.prog 16 #[.agg #[.bool q1, .int .u64 M1, .int .u64 A1], .agg #[.bool q2, .int .u64 M2, .int .u64 A2]] W (Makes (.bool WV) W)
  of1 : ∀ W, Tab W → Calls Tryd.prog 18 #[.agg #[.int .u8 x0, .int .u8 x1, .int .u8 x2, .int .u8 x3, .int .u8 x4, .int .u8 x5, .int .u8 x6, .int .u8 x7, .int .u8 x8, .int .u8 x9, .int .u8 x10, .int .u8 x11, .int .u8 x12, .int .u8 x13, .int .u8 x14, .int .u8 x15], .bool q2] W (Makes (.agg #[.bool q2, .int .u64 M1, .int .u64 A1]) W)
  nul : ∀ W, Tab W → Calls Tryd.prog 19 #[.int .u64 A1] W (Makes (.agg #[.bool false, .int .u64 0, .int .u64 A1]) W)

set_option maxRecDepth 100000 in
set_option maxHeartbeats 8000000 in
theorem walk_let (q1 q2 LV RV WV : Bool) (M1 A1 M2 A2 D U P K x0 x1 x2 x3 x4 x5 x6 x7 x8 x9 x10 x11 x12 x13 x14 x15 : Int) (hm : Met q1 q2 LV RV WV M1 A1 M2 A2 D U P K x0 x1 x2 x3 x4 x5 x6 x7 x8 x9 x10 x11 x12 x13 x14 x15) (w : World) (hT : Tab w) :
    Calls Tryd.prog 3 #[.agg #[.bool q1, .int .u64 M1, .int .u64 A1], .agg #[.bool q2, .int .u64 M2, .int .u64 A2]] w fun e w' => e = .returned (.bool true) ∧ Below w.heap.size w w' := by
  have CM := hide hm
  clear hm
  have E1 := eq_arr x0 x1 x2 x3 x4 x5 x6 x7 x8 x9 x10 x11 x12 x13 x14 x15 x0 x1 x2 x3 x4 x5 x6 x7 x8 x9 x10 x11 x12 x13 x14 x15
  rw [decide_eq_true (by simp)] at E1
  have E2 := eq_cap q2 q2 M1 A1 M1 A1
  rw [decide_eq_true ⟨rfl, rfl, rfl⟩] at E2
  have E3 := eq_cap false false 0 A1 0 A1
  rw [decide_eq_true ⟨rfl, rfl, rfl⟩] at E3
  have E4 := eq_rview D U P K
  have SS := cell_same
  have LB' := ltB_add
  have LS := ltB_self
  have LA' := alloc_reads
  have LH := alloc_holds
  go_enter Tryd.func3, Tryd.ntmps3
  go_wp2_with (first | (go_at_call 9; (first | ((with_reducible refine (CM.out.l1 _ ?_).mono ?_); (refine hT.behind ?_; repeat (first | with_reducible assumption | with_reducible exact Below.refl _ _ | with_reducible refine Below.drew ?_ | with_reducible refine below_drewN ?_ _ | with_reducible refine bw_alloc ?_ _ | (with_reducible refine bw_set ?_ ?_ _; focus (dsimp only; omega)) | (with_reducible apply bw_behind; with_reducible assumption))))); rintro e wa ⟨rfl, hba⟩; have hra := below_reads hba; have hha := below_holds hba; obtain ⟨ma, hsa⟩ := below_grew hba) | (go_at_call 10; (first | ((with_reducible refine (CM.out.l2 _).mono ?_))); rintro e wb ⟨rfl, hbb⟩; have hrb := below_reads hbb; have hhb := below_holds hbb; obtain ⟨mb, hsb⟩ := below_grew hbb) | (go_at_call 11; (first | ((with_reducible refine (CM.out.b1 _ ?_).mono ?_); (refine hT.behind ?_; repeat (first | with_reducible assumption | with_reducible exact Below.refl _ _ | with_reducible refine Below.drew ?_ | with_reducible refine below_drewN ?_ _ | with_reducible refine bw_alloc ?_ _ | (with_reducible refine bw_set ?_ ?_ _; focus (dsimp only; omega)) | (with_reducible apply bw_behind; with_reducible assumption))))); rintro e wc ⟨rfl, hbc⟩; have hrc := below_reads hbc; have hhc := below_holds hbc; obtain ⟨mc, hsc⟩ := below_grew hbc))
  refine wp_abs (fun W => Tab W ∧ Below w.heap.size w W ∧ W.cell? ⟨w.heap.size, 0, none⟩ = some (.bool q1) ∧ W.cell? ⟨w.heap.size, 1, none⟩ = some (.int .u64 M1) ∧ W.cell? ⟨w.heap.size, 2, none⟩ = some (.int .u64 A1) ∧ W.cell? ⟨w.heap.size + 1, 0, none⟩ = some (.bool q2) ∧ W.cell? ⟨w.heap.size + 1, 1, none⟩ = some (.int .u64 M2) ∧ W.cell? ⟨w.heap.size + 1, 2, none⟩ = some (.int .u64 A2) ∧ W.cell? ⟨w.heap.size + 1 + 1 + ma, 0, none⟩ = some (.int .u64 D) ∧ W.cell? ⟨w.heap.size + 1 + 1 + ma, 1, none⟩ = some (.int .u64 U) ∧ W.cell? ⟨w.heap.size + 1 + 1 + ma, 2, none⟩ = some (.int .u64 P) ∧ W.cell? ⟨w.heap.size + 1 + 1 + ma, 3, none⟩ = some (.int .u64 K) ∧ W.cell? ⟨w.heap.size + 1 + 1 + ma + 1 + mb, 0, none⟩ = some (.int .u64 D) ∧ W.cell? ⟨w.heap.size + 1 + 1 + ma + 1 + mb, 1, none⟩ = some (.int .u64 U) ∧ W.cell? ⟨w.heap.size + 1 + 1 + ma + 1 + mb, 2, none⟩ = some (.int .u64 P) ∧ W.cell? ⟨w.heap.size + 1 + 1 + ma + 1 + mb, 3, none⟩ = some (.int .u64 K) ∧ W.cell? ⟨w.heap.size + 1 + 1 + ma + 1 + mb + 1 + mc, 0, none⟩ = some (.int .u8 x0) ∧ W.cell? ⟨w.heap.size + 1 + 1 + ma + 1 + mb + 1 + mc, 1, none⟩ = some (.int .u8 x1) ∧ W.cell? ⟨w.heap.size + 1 + 1 + ma + 1 + mb + 1 + mc, 2, none⟩ = some (.int .u8 x2) ∧ W.cell? ⟨w.heap.size + 1 + 1 + ma + 1 + mb + 1 + mc, 3, none⟩ = some (.int .u8 x3) ∧ W.cell? ⟨w.heap.size + 1 + 1 + ma + 1 + mb + 1 + mc, 4, none⟩ = some (.int .u8 x4) ∧ W.cell? ⟨w.heap.size + 1 + 1 + ma + 1 + mb + 1 + mc, 5, none⟩ = some (.int .u8 x5) ∧ W.cell? ⟨w.heap.size + 1 + 1 + ma + 1 + mb + 1 + mc, 6, none⟩ = some (.int .u8 x6) ∧ W.cell? ⟨w.heap.size + 1 + 1 + ma + 1 + mb + 1 + mc, 7, none⟩ = some (.int .u8 x7) ∧ W.cell? ⟨w.heap.size + 1 + 1 + ma + 1 + mb + 1 + mc, 8, none⟩ = some (.int .u8 x8) ∧ W.cell? ⟨w.heap.size + 1 + 1 + ma + 1 + mb + 1 + mc, 9, none⟩ = some (.int .u8 x9) ∧ W.cell? ⟨w.heap.size + 1 + 1 + ma + 1 + mb + 1 + mc, 10, none⟩ = some (.int .u8 x10) ∧ W.cell? ⟨w.heap.size + 1 + 1 + ma + 1 + mb + 1 + mc, 11, none⟩ = some (.int .u8 x11) ∧ W.cell? ⟨w.heap.size + 1 + 1 + ma + 1 + mb + 1 + mc, 12, none⟩ = some (.int .u8 x12) ∧ W.cell? ⟨w.heap.size + 1 + 1 + ma + 1 + mb + 1 + mc, 13, none⟩ = some (.int .u8 x13) ∧ W.cell? ⟨w.heap.size + 1 + 1 + ma + 1 + mb + 1 + mc, 14, none⟩ = some (.int .u8 x14) ∧ W.cell? ⟨w.heap.size + 1 + 1 + ma + 1 + mb + 1 + mc, 15, none⟩ = some (.int .u8 x15)) ?_ ?_
  · refine ⟨?_, ?_, ?_, ?_, ?_, ?_, ?_, ?_, ?_, ?_, ?_, ?_, ?_, ?_, ?_, ?_, ?_, ?_, ?_, ?_, ?_, ?_, ?_, ?_, ?_, ?_, ?_, ?_, ?_, ?_, ?_, ?_⟩
    all_goals (first | with_reducible assumption | ((repeat (first | with_reducible assumption | with_reducible refine c_dr _ ?_ | with_reducible refine c_d1 ?_ | with_reducible refine c_al _ ?_ | (with_reducible refine c_set ?_ ?_; focus (dsimp only; omega)) | (with_reducible apply c_be; with_reducible assumption))); done) | ((repeat (first | with_reducible assumption | with_reducible refine o_dr _ ?_ | with_reducible refine o_d1 ?_ | with_reducible refine o_set ?_ | (with_reducible refine o_new ?_ ?_; (focus (simp)); (focus (simp))) | with_reducible refine o_al _ ?_ | (with_reducible apply o_be; with_reducible assumption))); done) | ((repeat (first | with_reducible assumption | with_reducible exact Below.refl _ _ | with_reducible refine Below.drew ?_ | with_reducible refine below_drewN ?_ _ | with_reducible refine bw_alloc ?_ _ | (with_reducible refine bw_set ?_ ?_ _; focus (dsimp only; omega)) | (with_reducible apply bw_behind; with_reducible assumption))); done) | (refine hT.behind ?_; (repeat (first | with_reducible assumption | with_reducible exact Below.refl _ _ | with_reducible refine Below.drew ?_ | with_reducible refine below_drewN ?_ _ | with_reducible refine bw_alloc ?_ _ | (with_reducible refine bw_set ?_ ?_ _; focus (dsimp only; omega)) | (with_reducible apply bw_behind; with_reducible assumption))); done) | (simp [go_sem, *]; omega) | (simp (maxDischargeDepth := 4) [go_sem, *]; done))
  rintro w0 ⟨hT0, hB0, c0, c1, c2, c3, c4, c5, c6, c7, c8, c9, c10, c11, c12, c13, c14, c15, c16, c17, c18, c19, c20, c21, c22, c23, c24, c25, c26, c27, c28, c29⟩
  have y0 := behind_cell c0
  have y1 := behind_cell c1
  have y2 := behind_cell c2
  have y3 := behind_cell c3
  have y4 := behind_cell c4
  have y5 := behind_cell c5
  have y6 := behind_cell c6
  have y7 := behind_cell c7
  have y8 := behind_cell c8
  have y9 := behind_cell c9
  have y10 := behind_cell c10
  have y11 := behind_cell c11
  have y12 := behind_cell c12
  have y13 := behind_cell c13
  have y14 := behind_cell c14
  have y15 := behind_cell c15
  have y16 := behind_cell c16
  have y17 := behind_cell c17
  have y18 := behind_cell c18
  have y19 := behind_cell c19
  have y20 := behind_cell c20
  have y21 := behind_cell c21
  have y22 := behind_cell c22
  have y23 := behind_cell c23
  have y24 := behind_cell c24
  have y25 := behind_cell c25
  have y26 := behind_cell c26
  have y27 := behind_cell c27
  have y28 := behind_cell c28
  have y29 := behind_cell c29
  have hsome := Behind.any w0
  clear c0 c1 c2 c3 c4 c5 c6 c7 c8 c9 c10 c11 c12 c13 c14 c15 c16 c17 c18 c19 c20 c21 c22 c23 c24 c25 c26 c27 c28 c29
  refine wp_region_behind w0 (by kernel_rfl) (by kernel_rfl) (Below.refl _ _) ?_
  repeat (go_big_quiet_step (first | (go_at_call 12; with_reducible first | exact behind_call CM.out.vw hT0 _) | (go_at_call 13; with_reducible first | exact behind_call CM.out.r1 hT0 _) | (go_at_call 14; with_reducible first | exact behind_call CM.out.r2 hT0 _) | (go_at_call 15; with_reducible first | exact behind_call CM.out.w1 hT0 _) | (go_at_call 16; with_reducible first | exact behind_call CM.out.w2 hT0 _) | (go_at_call 17; with_reducible first | exact behind_call CM.out.b2 hT0 _) | (go_at_call 18; with_reducible first | exact behind_call CM.out.of1 hT0 _) | (go_at_call 19; with_reducible first | exact behind_call CM.out.nul hT0 _) | (go_at_call 20; with_reducible first | exact behind_call one_any hT0 _)))
  refine wpQuiet_nil ?_
  rintro _ ⟨y, rfl⟩
  go_wp2
  go_ret
  exact ⟨rfl, bw_behind y.below hB0⟩

theorem byN (a : Nat) : (a : Int) % 256 = ((a % 256 : Nat) : Int) ∧ (a : Int) / 256 % 256 = ((a / 256 % 256 : Nat) : Int) ∧ (a : Int) / 65536 % 256 = ((a / 65536 % 256 : Nat) : Int) ∧ (a : Int) / 16777216 % 256 = ((a / 16777216 % 256 : Nat) : Int) ∧ (a : Int) / 4294967296 % 256 = ((a / 4294967296 % 256 : Nat) : Int) ∧ (a : Int) / 1099511627776 % 256 = ((a / 1099511627776 % 256 : Nat) : Int) ∧ (a : Int) / 281474976710656 % 256 = ((a / 281474976710656 % 256 : Nat) : Int) ∧ (a : Int) / 72057594037927936 % 256 = ((a / 72057594037927936 % 256 : Nat) : Int) := by omega
theorem bytes_at (q : Bool) (m a : Nat) (W : World) : Calls Tryd.prog 11 #[.agg #[.bool q, .int .u64 (m : Int), .int .u64 (a : Int)]] W (Makes (.agg #[.int .u8 ((a % 256 : Nat) : Int), .int .u8 ((a / 256 % 256 : Nat) : Int), .int .u8 ((a / 65536 % 256 : Nat) : Int), .int .u8 ((a / 16777216 % 256 : Nat) : Int), .int .u8 ((a / 4294967296 % 256 : Nat) : Int), .int .u8 ((a / 1099511627776 % 256 : Nat) : Int), .int .u8 ((a / 281474976710656 % 256 : Nat) : Int), .int .u8 ((a / 72057594037927936 % 256 : Nat) : Int), .int .u8 ((m % 256 : Nat) : Int), .int .u8 ((m / 256 % 256 : Nat) : Int), .int .u8 ((m / 65536 % 256 : Nat) : Int), .int .u8 ((m / 16777216 % 256 : Nat) : Int), .int .u8 ((m / 4294967296 % 256 : Nat) : Int), .int .u8 ((m / 1099511627776 % 256 : Nat) : Int), .int .u8 ((m / 281474976710656 % 256 : Nat) : Int), .int .u8 ((m / 72057594037927936 % 256 : Nat) : Int)]) W) := by
  have h := bytes_any q (m : Int) (a : Int) W
  obtain ⟨e0, e1, e2, e3, e4, e5, e6, e7⟩ := byN a
  obtain ⟨f0, f1, f2, f3, f4, f5, f6, f7⟩ := byN m
  rw [e0, e1, e2, e3, e4, e5, e6, e7, f0, f1, f2, f3, f4, f5, f6, f7] at h
  exact h
theorem rbytes_at (q : Bool) (m a : Nat) (W : World) : Calls Tryd.prog 17 #[.agg #[.bool q, .int .u64 (m : Int), .int .u64 (a : Int)]] W (Makes (.agg #[.int .u8 ((a % 256 : Nat) : Int), .int .u8 ((a / 256 % 256 : Nat) : Int), .int .u8 ((a / 65536 % 256 : Nat) : Int), .int .u8 ((a / 16777216 % 256 : Nat) : Int), .int .u8 ((a / 4294967296 % 256 : Nat) : Int), .int .u8 ((a / 1099511627776 % 256 : Nat) : Int), .int .u8 ((a / 281474976710656 % 256 : Nat) : Int), .int .u8 ((a / 72057594037927936 % 256 : Nat) : Int), .int .u8 ((m % 256 : Nat) : Int), .int .u8 ((m / 256 % 256 : Nat) : Int), .int .u8 ((m / 65536 % 256 : Nat) : Int), .int .u8 ((m / 16777216 % 256 : Nat) : Int), .int .u8 ((m / 4294967296 % 256 : Nat) : Int), .int .u8 ((m / 1099511627776 % 256 : Nat) : Int), .int .u8 ((m / 281474976710656 % 256 : Nat) : Int), .int .u8 ((m / 72057594037927936 % 256 : Nat) : Int)]) W) := by
  have h := rbytes_any q (m : Int) (a : Int) W
  obtain ⟨e0, e1, e2, e3, e4, e5, e6, e7⟩ := byN a
  obtain ⟨f0, f1, f2, f3, f4, f5, f6, f7⟩ := byN m
  rw [e0, e1, e2, e3, e4, e5, e6, e7, f0, f1, f2, f3, f4, f5, f6, f7] at h
  exact h

theorem walk (q1 : Bool) (m a : BitVec 64) (q2 : Bool) (n b : BitVec 64) (w : World) (hT : Tab w) :
    Calls Tryd.prog 3 #[.agg #[.bool q1, .int .u64 (m.toNat : Int), .int .u64 (a.toNat : Int)], .agg #[.bool q2, .int .u64 (n.toNat : Int), .int .u64 (b.toNat : Int)]] w fun e w' => e = .returned (.bool true) ∧ Below w.heap.size w w' := by
  have h1 := fun W hW => look_any q1 m.toNat a.toNat (toNat_lt m) W hW
  have h2 := fun W => rlook_any q1 m.toNat a.toNat W
  have h3 := fun W (_ : Tab W) => bytes_at q1 m.toNat a.toNat W
  have h4 := fun W (_ : Tab W) => rbytes_at q1 m.toNat a.toNat W
  have h5 := fun W (_ : Tab W) => view_any ((lB m.toNat a.toNat : Nat) : Int) ((lT m.toNat a.toNat : Nat) : Int) ((mP m.toNat : Nat) : Int) ((mK m.toNat : Nat) : Int) W
  have h6 := fun W hW => right_any q1 m.toNat a.toNat (toNat_lt m) W hW
  have h7 := fun W (_ : Tab W) => rright_any q1 m.toNat a.toNat (toNat_lt m) W
  have h8 := fun W hW => within_any q1 q2 m.toNat a.toNat n.toNat b.toNat (toNat_lt m) (toNat_lt n) W hW
  have h9 := fun W (_ : Tab W) => rwithin_any q1 q2 m.toNat a.toNat n.toNat b.toNat (toNat_lt m) (toNat_lt n) W
  have h10 := fun W (_ : Tab W) => of_bytes q2 a.toNat m.toNat (toNat_lt a) (toNat_lt m) W
  have h11 := fun W (_ : Tab W) => null_any (a.toNat : Int) W
  exact walk_let _ _ _ _ _ _ _ _ _ _ _ _ _ _ _ _ _ _ _ _ _ _ _ _ _ _ _ _ _ ⟨h1, h2, h3, h4, h5, h6, h7, h8, h9, h10, h11⟩ w hT
open Go.ChangeShapes Go.WideShapes Go.ChangeAt
set_option maxRecDepth 100000 in
theorem walks : Frame.WalksLaid [("mintmark/bounds.places", Rows.laid_mintmark_bounds_places)] 3 Tryd.f3 := by
  intro H enc W base args ds ps hL hval hA
  rw [Tryd.params3] at hA hval
  obtain ⟨v0, v1, d0, d1, p0, p1, hargs, rfl, rfl, h0, h1⟩ := trodAll_two hA
  obtain rfl : args = #[v0, v1] := by cases args; simp_all
  obtain ⟨cs0, rfl, hf0⟩ := Frame.open_struct (F := 4) (ks := [.inr false, .inl .u64, .inl .u64]) Tryd.underlying24 (by kernel_rfl) (hval 0 24 v0 rfl rfl) h0
  match cs0, hf0 with
  | [_, _, _], ⟨⟨z0_0, rfl⟩, ⟨z0_1, rfl, wz0_1⟩, ⟨z0_2, rfl, wz0_2⟩, _⟩ =>
  obtain ⟨Z0_1, rfl⟩ := Frame.wf_u64 wz0_1
  obtain ⟨Z0_2, rfl⟩ := Frame.wf_u64 wz0_2
  obtain ⟨cs1, rfl, hf1⟩ := Frame.open_struct (F := 4) (ks := [.inr false, .inl .u64, .inl .u64]) Tryd.underlying24 (by kernel_rfl) (hval 1 24 v1 rfl rfl) h1
  match cs1, hf1 with
  | [_, _, _], ⟨⟨z1_0, rfl⟩, ⟨z1_1, rfl, wz1_1⟩, ⟨z1_2, rfl, wz1_2⟩, _⟩ =>
  obtain ⟨Z1_1, rfl⟩ := Frame.wf_u64 wz1_1
  obtain ⟨Z1_2, rfl⟩ := Frame.wf_u64 wz1_2
  exact walk z0_0 Z0_1 Z0_2 z1_0 Z1_1 Z1_2 W (tab_of_laid hL)
set_option maxRecDepth 100000 in
theorem said : Rows.CapabLooksSaid :=
  OpenClaim.holds_of_wide 3 Tryd.f3 rfl rfl rfl rfl rfl rfl rfl ⟨rfl, rfl, rfl, rfl, rfl⟩ rfl rfl rfl rfl rfl (by kernel_rfl) Tryd.func3 (by kernel_rfl)
    (of_decide_eq_true (by kernel_rfl)) (by unfold Func.isWrapper; first | (rw [if_pos (by decide +kernel)]; kernel_rfl) | (rw [if_neg (by decide +kernel)]; exact ⟨rfl, rfl⟩))
    (fun os started H enc _ => Frame.liftLaid [("mintmark/bounds.places", Rows.laid_mintmark_bounds_places)] os started H enc _ _ Rows.capabLooksSpec 4 (by kernel_rfl) Tryd.func3 Tryd.underlying4 (by kernel_rfl) rfl (by kernel_rfl)
      (fun ds h => by match ds, h with | [_, _], _ => exact ⟨rfl, rfl, rfl⟩)
      (ChangeSpec.witness_shaped (enc := enc) (C := Tryd.checked) (os := os) (X := fun w _ => laidMetH Tryd.prog [("mintmark/bounds.places", Rows.laid_mintmark_bounds_places)] w) false (World.doorLaid Tryd.prog 400 os) #[.agg #[.bool false, .int .u64 0, .int .u64 0], .agg #[.bool false, .int .u64 0, .int .u64 0]] 8 rfl (World.shaped_of_RefB (by kernel_rfl) (by kernel_rfl)) (by kernel_rfl) (by kernel_rfl) (by kernel_rfl) (door_met os _)) walks)
set_option maxRecDepth 100000 in
theorem proved : Rows.CapabLooksCardSaid :=
  Claim7.holds_tied_plain_at .later [] [.data] true _ false said (fun _ h => by cases h) (by kernel_rfl) (fun _ h => by cases h) capabLooks_row_tie rfl ⟨rfl, rfl⟩ (by kernel_rfl) rfl
    (fun f fn hf hfn => by
      obtain rfl : f = 3 := Option.some.inj ((show Tryd.prog.funcNamed "mintmark/mintmarklaw05.CapabLooks" = some 3 by kernel_rfl).symm.trans hf) |>.symm
      obtain rfl : fn = Tryd.f3 := (Option.some.inj (Tryd.func3.symm.trans hfn)).symm
      exact ⟨by kernel_rfl, fun j t ht => by
        rw [Tryd.params3] at ht
        have hm : t ∈ [24] := by have := Array.mem_of_getElem? ht; simp at this; simp; first | omega | grind
        have hall : ([24].all fun u => !Tryd.prog.wantsStandIn u) = true := by kernel_rfl
        exact (show Tryd.prog.wantsStandIn t = false by simpa using List.all_eq_true.1 hall t hm)⟩)
    (by kernel_rfl)
end Go.Proofs.YtpdadlbdloeijaaDoor.CapabLooks
