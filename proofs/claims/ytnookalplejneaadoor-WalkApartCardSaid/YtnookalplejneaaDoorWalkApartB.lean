/-
  WalkApart holds: for every l, at and e the law returns true and turns nothing that was there, where the table of places holds what the program's text lays.
-/
import Derived.Test.YtnookalplejneaaDoorWalkApart0
namespace Go.Proofs.YtnookalplejneaaDoor.WalkApart
open Go.RowKit Words FieldMath PteMath

set_option maxRecDepth 100000 in
set_option maxHeartbeats 16000000 in
theorem way_right_eq (b0 b1 b2 b3 b4 b5 b6 b7 b8 b9 b10 b11 f0 f1 f2 f3 f4 f5 f6 f7 f8 f9 f10 f11 g0 g1 g2 g3 g4 g5 g6 g7 g8 g9 g10 g11 : Bool) (F XF A0 A1 I K VK Z AI VI WV FF FA was GG GA now : Int) (o : Nat) (M M2 : Nat → Nat → BitVec 64) (sa : Option Addr) (cap : Nat) (l : List LayD) (c1 : ∀ g cp W, Tab W → Row W g (cells2 (l.take 40) ++ [.int .i64 0, .int .i64 0, .bool true, .bool false, .bool false, .bool false, .bool false, .bool false, .bool false, .bool false, .bool false, .bool false, .bool false, .bool false, .int .u64 1, .int .i64 1, .int .i64 0, .bool true, .bool false, .bool false, .bool false, .bool false, .bool false, .bool false, .bool false, .bool false, .bool false, .bool false, .bool false, .int .u64 2]) → Calls Tryd.prog 8 #[.slice (some ⟨g, 0, none⟩) ((l.take 40).length + 2) cp] W (fun e W' => ∃ R N sa na ca sb nb cb, e = .returned (.tuple #[.pointer (some ⟨R, 0, none⟩), .agg #[.int .i64 8, .slice sa na ca, .slice sb nb cb, .slice none 0 0]]) ∧ MemW W' R N 8 M ∧ Below W.heap.size W W' ∧ W.heap.size ≤ R ∧ W.heap.size ≤ N)) (c2 : ∀ R N W, Tab W → MemW W R N 8 M → Calls Tryd.prog 9 #[.pointer (some ⟨R, 0, none⟩), .int .u64 0, .int .u64 VK] W (Makes (.tuple #[.agg #[.bool f0, .bool f1, .bool f2, .bool f3, .bool f4, .bool f5, .bool f6, .bool f7, .bool f8, .bool f9, .bool f10, .bool f11, .int .u64 FF, .int .u64 FA], .int .i64 was]) W)) (cw : ∀ W, Tab W → Calls Tryd.prog 20 #[.agg #[.bool b0, .bool b1, .bool b2, .bool b3, .bool b4, .bool b5, .bool b6, .bool b7, .bool b8, .bool b9, .bool b10, .bool b11, .int .u64 F]] W (Makes (.int .u64 WV) W)) (cs : ∀ R N W, MemW W R N 8 M → Calls Tryd.prog 19 #[.pointer (some ⟨R, 0, none⟩), .int .u64 AI, .int .i64 8, .int .u64 WV] W fun e w' => e = .returned (.int .i64 0) ∧ MemW w' R N 8 M2 ∧ Out N o W w') (c3 : ∀ R N W, Tab W → MemW W R N 8 M2 → Calls Tryd.prog 9 #[.pointer (some ⟨R, 0, none⟩), .int .u64 0, .int .u64 VK] W (Makes (.tuple #[.agg #[.bool g0, .bool g1, .bool g2, .bool g3, .bool g4, .bool g5, .bool g6, .bool g7, .bool g8, .bool g9, .bool g10, .bool g11, .int .u64 GG, .int .u64 GA], .int .i64 now]) W)) (c4 : ∀ R N W, Tab W → MemW W R N 8 M2 → Calls Tryd.prog 9 #[.pointer (some ⟨R, 0, none⟩), .int .u64 0, .int .u64 VI] W (Makes (.tuple #[.agg #[.bool false, .bool false, .bool false, .bool false, .bool false, .bool false, .bool false, .bool false, .bool false, .bool false, .bool false, .bool false, .int .u64 0, .int .u64 0], .int .i64 1]) W)) (c5 : ∀ W, Tab W → Calls Tryd.prog 21 #[.int .u64 WV] W (Makes (.agg #[.bool b0, .bool b1, .bool b2, .bool b3, .bool b4, .bool b5, .bool b6, .bool b7, .bool b8, .bool b9, .bool b10, .bool b11, .int .u64 XF]) W)) (c6 : ∀ W, Calls Tryd.prog 22 #[.agg #[.bool b0, .bool b1, .bool b2, .bool b3, .bool b4, .bool b5, .bool b6, .bool b7, .bool b8, .bool b9, .bool b10, .bool b11, .int .u64 XF]] W (Makes (.bool true) W)) (c7 : ∀ W, Tab W → Calls Tryd.prog 18 #[.agg #[.bool b0, .bool b1, .bool b2, .bool b3, .bool b4, .bool b5, .bool b6, .bool b7, .bool b8, .bool b9, .bool b10, .bool b11, .int .u64 XF]] W (Makes (.bool false) W)) (co : ∀ W, Tab W → Calls Tryd.prog 11 #[] W (Makes (.bool true) W)) (k0 : bits .and .i64 A0 511 = I) (k1 : bits .and .i64 A1 511 = K) (u0 : IntKind.u64.wrap I = I) (u1 : IntKind.u64.wrap K = K) (u2 : IntKind.u64.wrap (K * 4096) = VK) (u3 : IntKind.u64.wrap (8 * I) = Z) (u4 : IntKind.u64.wrap (8192 + Z) = AI) (u5 : IntKind.u64.wrap (I * 4096) = VI) (hd : (I != K) = false) (w : World) (hT : Tab w) (hl : ∀ k d, l[k]? = some d → ∃ b off, sa = some ⟨b, off, none⟩ ∧ ∀ j v, d.cells[j]? = some v → w.cell? ⟨b, off + k * 15 + j, none⟩ = some v) :
    Calls Tryd.prog 6 #[.slice sa l.length cap, .agg #[.int .i64 A0, .int .i64 A1], .agg #[.bool b0, .bool b1, .bool b2, .bool b3, .bool b4, .bool b5, .bool b6, .bool b7, .bool b8, .bool b9, .bool b10, .bool b11, .int .u64 F]] w (Makes (.bool true) w) := by
  have SS := cell_same
  have LB' := ltB_add
  have LS := ltB_self
  have LA' := alloc_reads
  have LH := alloc_holds
  have HL := hide hl
  have Co := hide co
  have Cc1 := hide c1
  have Cc2 := hide c2
  have Ccw := hide cw
  have Ccs := hide cs
  have Cc3 := hide c3
  have Cc4 := hide c4
  have Cc5 := hide c5
  have Cc6 := hide c6
  have Cc7 := hide c7
  clear c2 cw cs c3 c4 c5 c6 c7
  clear hl co c1
  obtain ⟨iL, hiL, hiL0, hiL1, hiL2⟩ := info_parts info_lay
  go_enter Tryd.func6, Tryd.ntmps6
  go_upto_region 2 with fail
  refine wp_abs (fun W => Below w.heap.size w W ∧ Row W (w.heap.size + 1 + 1) [.int .i64 0, .int .i64 0, .bool true, .bool false, .bool false, .bool false, .bool false, .bool false, .bool false, .bool false, .bool false, .bool false, .bool false, .bool false, .int .u64 1, .int .i64 1, .int .i64 0, .bool true, .bool false, .bool false, .bool false, .bool false, .bool false, .bool false, .bool false, .bool false, .bool false, .bool false, .bool false, .int .u64 2] ∧ w.heap.size + 1 + 1 < W.heap.size ∧ W.cell? ⟨w.heap.size, 0, none⟩ = some (.int .i64 A0) ∧ W.cell? ⟨w.heap.size, 1, none⟩ = some (.int .i64 A1) ∧ W.cell? ⟨w.heap.size + 1, 0, none⟩ = some (.bool b0) ∧ W.cell? ⟨w.heap.size + 1, 1, none⟩ = some (.bool b1) ∧ W.cell? ⟨w.heap.size + 1, 2, none⟩ = some (.bool b2) ∧ W.cell? ⟨w.heap.size + 1, 3, none⟩ = some (.bool b3) ∧ W.cell? ⟨w.heap.size + 1, 4, none⟩ = some (.bool b4) ∧ W.cell? ⟨w.heap.size + 1, 5, none⟩ = some (.bool b5) ∧ W.cell? ⟨w.heap.size + 1, 6, none⟩ = some (.bool b6) ∧ W.cell? ⟨w.heap.size + 1, 7, none⟩ = some (.bool b7) ∧ W.cell? ⟨w.heap.size + 1, 8, none⟩ = some (.bool b8) ∧ W.cell? ⟨w.heap.size + 1, 9, none⟩ = some (.bool b9) ∧ W.cell? ⟨w.heap.size + 1, 10, none⟩ = some (.bool b10) ∧ W.cell? ⟨w.heap.size + 1, 11, none⟩ = some (.bool b11) ∧ W.cell? ⟨w.heap.size + 1, 12, none⟩ = some (.int .u64 F)) ?_ ?_
  · refine ⟨?_, ?_, ?_, ?_, ?_, ?_, ?_, ?_, ?_, ?_, ?_, ?_, ?_, ?_, ?_, ?_, ?_, ?_⟩
    · repeat (first | with_reducible assumption | with_reducible exact Below.refl _ _ | with_reducible refine Below.drew ?_ | with_reducible refine below_drewN ?_ _ | with_reducible refine bw_alloc ?_ _ | (with_reducible refine bw_set ?_ ?_ _; focus (dsimp only; omega)) | (with_reducible apply bw_behind; with_reducible assumption))
    · repeat (first | with_reducible assumption | with_reducible refine k_dr _ ?_ | with_reducible refine k_d1 ?_ | exact row_new (by simp) rfl | with_reducible refine k_al _ ?_ | (with_reducible refine k_set ?_ ?_; focus (dsimp only; omega)) | (with_reducible apply k_be; with_reducible assumption))
    · simp
    all_goals (first | with_reducible assumption | ((repeat (first | with_reducible assumption | with_reducible refine c_dr _ ?_ | with_reducible refine c_d1 ?_ | with_reducible refine c_al _ ?_ | (with_reducible refine c_set ?_ ?_; focus (dsimp only; omega)) | (with_reducible apply c_be; with_reducible assumption))); done) | ((repeat (first | with_reducible assumption | with_reducible refine o_dr _ ?_ | with_reducible refine o_d1 ?_ | with_reducible refine o_set ?_ | (with_reducible refine o_new ?_ ?_; (focus (simp)); (focus (simp))) | with_reducible refine o_al _ ?_ | (with_reducible apply o_be; with_reducible assumption))); done) | ((repeat (first | with_reducible assumption | with_reducible exact Below.refl _ _ | with_reducible refine Below.drew ?_ | with_reducible refine below_drewN ?_ _ | with_reducible refine bw_alloc ?_ _ | (with_reducible refine bw_set ?_ ?_ _; focus (dsimp only; omega)) | (with_reducible apply bw_behind; with_reducible assumption))); done) | (simp [go_sem, *]; omega) | (simp (maxDischargeDepth := 4) [go_sem, *]; done))
  rintro w0 ⟨hB0, hRow0, hs0, z0, z1, z2, z3, z4, z5, z6, z7, z8, z9, z10, z11, z12, z13, z14⟩
  have HR0 := hide hRow0
  clear hRow0
  go_upto_block 0 with fail
  go_cut [8] (fun s8 wx => Hid (wx.ownsRow w0.heap.size 54 15 s8 (l.take 40).length (cells2 (l.take 40))) ∧ Below w0.heap.size w0 wx)
  case first =>
    go_wp2_with fail
    go_loopw [8, 9] (fun s i wr => ∃ k : Nat, k ≤ l.length ∧ k ≤ 40 ∧ i = .int .i64 (k : Int) ∧ Hid (wr.ownsRow w0.heap.size 54 15 s k (cells2 (l.take k))) ∧ Below w0.heap.size w0 wr) (fun _ i _ => 40 - (intOf i).toNat)
    case atStart => exact ⟨0, by omega, by omega, rfl, hide (World.ownsRow_nil _ _ _ _), Below.refl _ _⟩
    case round s =>
      obtain ⟨k, hk, hk40, rfl, HO, hB⟩ := hrel
      have hsz := hB.size
      by_cases hlt : k < l.length ∧ k < 40
      · obtain ⟨hk1, hk2⟩ := hlt
        obtain ⟨d, hd⟩ : ∃ d, l[k]? = some d := ⟨_, List.getElem?_eq_getElem hk1⟩
        obtain ⟨b, off, rfl, hcell⟩ := HL.out k d hd
        have y0 : wr.cell? ⟨b, off + k * 15, none⟩ = some (.int .i64 d.f) := c_be hB (c_be hB0 (hcell 0 _ rfl))
        have y1 := c_be hB (c_be hB0 (hcell 1 _ rfl))
        have y2 := c_be hB (c_be hB0 (hcell 2 _ rfl))
        have y3 := c_be hB (c_be hB0 (hcell 3 _ rfl))
        have y4 := c_be hB (c_be hB0 (hcell 4 _ rfl))
        have y5 := c_be hB (c_be hB0 (hcell 5 _ rfl))
        have y6 := c_be hB (c_be hB0 (hcell 6 _ rfl))
        have y7 := c_be hB (c_be hB0 (hcell 7 _ rfl))
        have y8 := c_be hB (c_be hB0 (hcell 8 _ rfl))
        have y9 := c_be hB (c_be hB0 (hcell 9 _ rfl))
        have y10 := c_be hB (c_be hB0 (hcell 10 _ rfl))
        have y11 := c_be hB (c_be hB0 (hcell 11 _ rfl))
        have y12 := c_be hB (c_be hB0 (hcell 12 _ rfl))
        have y13 := c_be hB (c_be hB0 (hcell 13 _ rfl))
        have y14 := c_be hB (c_be hB0 (hcell 14 _ rfl))
        have HH : Hid (cells2 (l.take (k + 1)) = cells2 (l.take k) ++ [.int .i64 2, .int .i64 d.i, .bool d.b0, .bool d.b1, .bool d.b2, .bool d.b3, .bool d.b4, .bool d.b5, .bool d.b6, .bool d.b7, .bool d.b8, .bool d.b9, .bool d.b10, .bool d.b11, .int .u64 (d.F.toNat : Int)]) := hide (by rw [List.take_add_one, hd]; exact cells2_add _ d)
        have g1 : (k : Int) < (l.length : Int) := by omega
        have g2 : (k : Int) < 40 := by omega
        have g3 : (0 : Int) ≤ (k : Int) := by omega
        clear hcell
        generalize d.f = DF0 at *
        generalize d.i = DI at *
        generalize d.b0 = a0 at *
        generalize d.b1 = a1 at *
        generalize d.b2 = a2 at *
        generalize d.b3 = a3 at *
        generalize d.b4 = a4 at *
        generalize d.b5 = a5 at *
        generalize d.b6 = a6 at *
        generalize d.b7 = a7 at *
        generalize d.b8 = a8 at *
        generalize d.b9 = a9 at *
        generalize d.b10 = a10 at *
        generalize d.b11 = a11 at *
        generalize (d.F.toNat : Int) = DF at *
        clear HL z0 z1 z2 z3 z4 z5 z6 z7 z8 z9 z10 z11 z12 z13 z14
        go_wp2_with (at_builtin; refine wpList_append_own _ rfl _ _ 22 rfl w0.heap.size 54 iL (.agg #[.int .i64 0, .int .i64 0, .bool false, .bool false, .bool false, .bool false, .bool false, .bool false, .bool false, .bool false, .bool false, .bool false, .bool false, .bool false, .int .u64 0]) 15 40 Tryd.underlying22 hiL hiL0 hiL1 hiL2 rfl (by decide) _ _ _ rfl (owns_be (by repeat (first | with_reducible assumption | with_reducible exact Below.refl _ _ | with_reducible refine Below.drew ?_ | with_reducible refine below_drewN ?_ _ | with_reducible refine bw_alloc ?_ _ | (with_reducible refine bw_set ?_ ?_ _; focus (dsimp only; omega)) | (with_reducible apply bw_behind; with_reducible assumption))) HO.out) _ 1 1 [.int .i64 2, .int .i64 DI, .bool a0, .bool a1, .bool a2, .bool a3, .bool a4, .bool a5, .bool a6, .bool a7, .bool a8, .bool a9, .bool a10, .bool a11, .int .u64 DF] rfl rfl (row_one (by repeat (first | with_reducible assumption | with_reducible refine k_dr _ ?_ | with_reducible refine k_d1 ?_ | exact row_new (by simp) rfl | with_reducible refine k_al _ ?_ | (with_reducible refine k_set ?_ ?_; focus (dsimp only; omega)) | (with_reducible apply k_be; with_reducible assumption))) rfl) (by simp [Value.oneCell']) (by unfold maxLen; omega) (by omega) (by first | omega | (simp; omega)) ?_; intro v3 w3 hown3 hgrow3 _)
        go_roundw
        case rel =>
          refine ⟨k + 1, by omega, by omega, by go_num, ?_, ?_⟩
          · rw [HH.out]
            exact hide hown3
          · refine Below.grown ?_ hgrow3 (by simp; omega) (fun j ej => own_base HO.out j ej.symm)
            repeat (first | with_reducible assumption | with_reducible exact Below.refl _ _ | with_reducible refine Below.drew ?_ | with_reducible refine below_drewN ?_ _ | with_reducible refine bw_alloc ?_ _ | (with_reducible refine bw_set ?_ ?_ _; focus (dsimp only; omega)) | (with_reducible apply bw_behind; with_reducible assumption))
        case measure => simp [intOf]; omega
      · have ht : l.take 40 = l.take k := by
          rcases Nat.lt_or_ge k 40 with h | h
          · rw [List.take_of_length_le (by omega), List.take_of_length_le (by omega)]
          · rw [show k = 40 by omega]
        have hlen : (l.take k).length = k := by rw [List.length_take]; omega
        have HTK := hide ht
        have HLE := hide hlen
        clear ht hlen HL Cc1 z0 z1 z2 z3 z4 z5 z6 z7 z8 z9 z10 z11 z12 z13 z14
        rcases Nat.lt_or_ge k l.length with h | h
        · have g1 : (k : Int) < (l.length : Int) := by omega
          have g2 : ¬ ((k : Int) < 40) := by omega
          go_wp2_with fail
          go_meet
          refine ⟨?_, hB⟩
          rw [HTK.out, HLE.out]
          exact HO
        · have g1 : ¬ ((k : Int) < (l.length : Int)) := by omega
          go_wp2_with fail
          go_meet
          refine ⟨?_, hB⟩
          rw [HTK.out, HLE.out]
          exact HO
  case rest =>
    obtain ⟨HO, hBc⟩ := hcut
    have hn40 : (l.take 40).length ≤ 40 := by rw [List.length_take]; omega
    have HRc : Hid (Row wc (w.heap.size + 1 + 1) [.int .i64 0, .int .i64 0, .bool true, .bool false, .bool false, .bool false, .bool false, .bool false, .bool false, .bool false, .bool false, .bool false, .bool false, .bool false, .int .u64 1, .int .i64 1, .int .i64 0, .bool true, .bool false, .bool false, .bool false, .bool false, .bool false, .bool false, .bool false, .bool false, .bool false, .bool false, .bool false, .int .u64 2]) := hide (k_be hBc HR0.out)
    have hsc := hBc.size
    clear HL HR0
    generalize (l.take 40).length = n at *
    generalize cells2 (l.take 40) = XS at *
    go_upto_region 10 with (at_builtin; refine wpList_append_own _ rfl _ _ 22 rfl w0.heap.size 54 iL (.agg #[.int .i64 0, .int .i64 0, .bool false, .bool false, .bool false, .bool false, .bool false, .bool false, .bool false, .bool false, .bool false, .bool false, .bool false, .bool false, .int .u64 0]) 15 40 Tryd.underlying22 hiL hiL0 hiL1 hiL2 rfl (by decide) _ _ _ rfl HO.out _ 2 2 [.int .i64 0, .int .i64 0, .bool true, .bool false, .bool false, .bool false, .bool false, .bool false, .bool false, .bool false, .bool false, .bool false, .bool false, .bool false, .int .u64 1, .int .i64 1, .int .i64 0, .bool true, .bool false, .bool false, .bool false, .bool false, .bool false, .bool false, .bool false, .bool false, .bool false, .bool false, .bool false, .int .u64 2] rfl rfl (row_one (k_be (by repeat (first | with_reducible assumption | with_reducible exact Below.refl _ _ | with_reducible refine Below.drew ?_ | with_reducible refine below_drewN ?_ _ | with_reducible refine bw_alloc ?_ _ | (with_reducible refine bw_set ?_ ?_ _; focus (dsimp only; omega)) | (with_reducible apply bw_behind; with_reducible assumption))) HRc.out) rfl) (by simp [Value.oneCell']) (by unfold maxLen; omega) (by omega) (by first | omega | (simp; omega)) ?_; intro v3 w3 hown3 hgrow3 _)
    obtain ⟨g, cp, hv3⟩ := ownsRow_succ hown3
    have hv3 : v3 = .slice (some ⟨g, 0, none⟩) (n + 2) cp := hv3
    subst hv3
    have hB3 : Below w0.heap.size w0 w3 := by
      refine Below.grown ?_ hgrow3 (by first | omega | (simp; omega)) (fun j ej => own_base HO.out j ej.symm)
      repeat (first | with_reducible assumption | with_reducible exact Below.refl _ _ | with_reducible refine Below.drew ?_ | with_reducible refine below_drewN ?_ _ | with_reducible refine bw_alloc ?_ _ | (with_reducible refine bw_set ?_ ?_ _; focus (dsimp only; omega)) | (with_reducible apply bw_behind; with_reducible assumption))
    have HX : Hid (Row w3 g (XS ++ [.int .i64 0, .int .i64 0, .bool true, .bool false, .bool false, .bool false, .bool false, .bool false, .bool false, .bool false, .bool false, .bool false, .bool false, .bool false, .int .u64 1, .int .i64 1, .int .i64 0, .bool true, .bool false, .bool false, .bool false, .bool false, .bool false, .bool false, .bool false, .bool false, .bool false, .bool false, .bool false, .int .u64 2])) := hide (fun j u hj => by have := hown3.cells (g := g) rfl j u hj; rwa [add_at] at this)
    refine wp_abs (fun W => Below w.heap.size w W ∧ Hid (Row W g (XS ++ [.int .i64 0, .int .i64 0, .bool true, .bool false, .bool false, .bool false, .bool false, .bool false, .bool false, .bool false, .bool false, .bool false, .bool false, .bool false, .int .u64 1, .int .i64 1, .int .i64 0, .bool true, .bool false, .bool false, .bool false, .bool false, .bool false, .bool false, .bool false, .bool false, .bool false, .bool false, .bool false, .int .u64 2])) ∧ W.cell? ⟨w.heap.size, 0, none⟩ = some (.int .i64 A0) ∧ W.cell? ⟨w.heap.size, 1, none⟩ = some (.int .i64 A1) ∧ W.cell? ⟨w.heap.size + 1, 0, none⟩ = some (.bool b0) ∧ W.cell? ⟨w.heap.size + 1, 1, none⟩ = some (.bool b1) ∧ W.cell? ⟨w.heap.size + 1, 2, none⟩ = some (.bool b2) ∧ W.cell? ⟨w.heap.size + 1, 3, none⟩ = some (.bool b3) ∧ W.cell? ⟨w.heap.size + 1, 4, none⟩ = some (.bool b4) ∧ W.cell? ⟨w.heap.size + 1, 5, none⟩ = some (.bool b5) ∧ W.cell? ⟨w.heap.size + 1, 6, none⟩ = some (.bool b6) ∧ W.cell? ⟨w.heap.size + 1, 7, none⟩ = some (.bool b7) ∧ W.cell? ⟨w.heap.size + 1, 8, none⟩ = some (.bool b8) ∧ W.cell? ⟨w.heap.size + 1, 9, none⟩ = some (.bool b9) ∧ W.cell? ⟨w.heap.size + 1, 10, none⟩ = some (.bool b10) ∧ W.cell? ⟨w.heap.size + 1, 11, none⟩ = some (.bool b11) ∧ W.cell? ⟨w.heap.size + 1, 12, none⟩ = some (.int .u64 F)) ?_ ?_
    · refine ⟨hB0.trans (hB3.mono hB0.size), HX, ?_, ?_, ?_, ?_, ?_, ?_, ?_, ?_, ?_, ?_, ?_, ?_, ?_, ?_, ?_⟩
      all_goals exact c_be hB3 (by assumption)
    clear HX HO hown3 hgrow3 hB3 hBc HRc hsc z0 z1 z2 z3 z4 z5 z6 z7 z8 z9 z10 z11 z12 z13 z14
    clear hB0 hs0 iL hiL hiL0 hiL1 hiL2
    rintro w1 ⟨hB1, HX, z0, z1, z2, z3, z4, z5, z6, z7, z8, z9, z10, z11, z12, z13, z14⟩
    have qa : ltB w.heap.size w1.heap.size = true := decide_eq_true (World.block_lt_of_cell? w1 _ z0)
    have qe : ltB (w.heap.size + 1) w1.heap.size = true := decide_eq_true (World.block_lt_of_cell? w1 _ z2)
    clear w3 w0
    go_upto_region 11 with (first | (go_at_call 8; (with_reducible refine (Cc1.out _ _ _ ?_ ?_).mono ?_); (refine hT.behind ?_; repeat (first | with_reducible assumption | with_reducible exact Below.refl _ _ | with_reducible refine Below.drew ?_ | with_reducible refine below_drewN ?_ _ | with_reducible refine bw_alloc ?_ _ | (with_reducible refine bw_set ?_ ?_ _; focus (dsimp only; omega)) | (with_reducible apply bw_behind; with_reducible assumption))); (focus (repeat (first | with_reducible exact HX.out | with_reducible refine k_dr _ ?_ | with_reducible refine k_d1 ?_ | with_reducible refine k_al _ ?_))); rintro _ w2 ⟨R1, N1, sa1, na1, ca1, sb1, nb1, cb1, rfl, hM2, hb2, hR1, hN1⟩; have hr2 := below_reads hb2; have hh2 := below_holds hb2; obtain ⟨m2, hs2⟩ := below_grew hb2))
    go_quiet (fail)
    go_upto_region 13 with (first | (go_at_call 9; (first | ((with_reducible refine (Cc2.out _ N1 _ ?_ ?_).mono ?_); (refine hT.behind ?_; repeat (first | with_reducible assumption | with_reducible exact Below.refl _ _ | with_reducible refine Below.drew ?_ | with_reducible refine below_drewN ?_ _ | with_reducible refine bw_alloc ?_ _ | (with_reducible refine bw_set ?_ ?_ _; focus (dsimp only; omega)) | (with_reducible apply bw_behind; with_reducible assumption))); (focus (repeat (first | with_reducible assumption | with_reducible refine mw_dr _ ?_ | with_reducible refine mw_d1 ?_ | with_reducible refine mw_al _ ?_ | (with_reducible apply mw_be; with_reducible assumption)))))); rintro _ w3 ⟨rfl, hb3⟩; have hr3 := below_reads hb3; have hh3 := below_holds hb3; obtain ⟨m3, hs3⟩ := below_grew hb3))
    have hNl : N1 < w2.heap.size := by
      obtain ⟨B, S, hm, _⟩ := hM2
      exact (hm.page 0 (by omega)).here
    refine wp_abs (fun W => MemW W R1 N1 8 M ∧ Below w.heap.size w W ∧ W.cell? ⟨w.heap.size + 1, 0, none⟩ = some (.bool b0) ∧ W.cell? ⟨w.heap.size + 1, 1, none⟩ = some (.bool b1) ∧ W.cell? ⟨w.heap.size + 1, 2, none⟩ = some (.bool b2) ∧ W.cell? ⟨w.heap.size + 1, 3, none⟩ = some (.bool b3) ∧ W.cell? ⟨w.heap.size + 1, 4, none⟩ = some (.bool b4) ∧ W.cell? ⟨w.heap.size + 1, 5, none⟩ = some (.bool b5) ∧ W.cell? ⟨w.heap.size + 1, 6, none⟩ = some (.bool b6) ∧ W.cell? ⟨w.heap.size + 1, 7, none⟩ = some (.bool b7) ∧ W.cell? ⟨w.heap.size + 1, 8, none⟩ = some (.bool b8) ∧ W.cell? ⟨w.heap.size + 1, 9, none⟩ = some (.bool b9) ∧ W.cell? ⟨w.heap.size + 1, 10, none⟩ = some (.bool b10) ∧ W.cell? ⟨w.heap.size + 1, 11, none⟩ = some (.bool b11) ∧ W.cell? ⟨w.heap.size + 1, 12, none⟩ = some (.int .u64 F) ∧ W.cell? ⟨w1.heap.size + m2 + 1 + m3, 0, none⟩ = some (.bool f0) ∧ W.cell? ⟨w1.heap.size + m2 + 1 + m3, 1, none⟩ = some (.bool f1) ∧ W.cell? ⟨w1.heap.size + m2 + 1 + m3, 2, none⟩ = some (.bool f2) ∧ W.cell? ⟨w1.heap.size + m2 + 1 + m3, 3, none⟩ = some (.bool f3) ∧ W.cell? ⟨w1.heap.size + m2 + 1 + m3, 4, none⟩ = some (.bool f4) ∧ W.cell? ⟨w1.heap.size + m2 + 1 + m3, 5, none⟩ = some (.bool f5) ∧ W.cell? ⟨w1.heap.size + m2 + 1 + m3, 6, none⟩ = some (.bool f6) ∧ W.cell? ⟨w1.heap.size + m2 + 1 + m3, 7, none⟩ = some (.bool f7) ∧ W.cell? ⟨w1.heap.size + m2 + 1 + m3, 8, none⟩ = some (.bool f8) ∧ W.cell? ⟨w1.heap.size + m2 + 1 + m3, 9, none⟩ = some (.bool f9) ∧ W.cell? ⟨w1.heap.size + m2 + 1 + m3, 10, none⟩ = some (.bool f10) ∧ W.cell? ⟨w1.heap.size + m2 + 1 + m3, 11, none⟩ = some (.bool f11) ∧ W.cell? ⟨w1.heap.size + m2 + 1 + m3, 12, none⟩ = some (.int .u64 FF) ∧ W.cell? ⟨w1.heap.size + m2 + 1 + m3, 13, none⟩ = some (.int .u64 FA)) ?_ ?_
    · refine ⟨?_, ?_, ?_, ?_, ?_, ?_, ?_, ?_, ?_, ?_, ?_, ?_, ?_, ?_, ?_, ?_, ?_, ?_, ?_, ?_, ?_, ?_, ?_, ?_, ?_, ?_, ?_, ?_, ?_⟩
      · repeat (first | with_reducible assumption | with_reducible refine mw_dr _ ?_ | with_reducible refine mw_d1 ?_ | with_reducible refine mw_al _ ?_ | (with_reducible apply mw_be; with_reducible assumption))
      all_goals (first | with_reducible assumption | ((repeat (first | with_reducible assumption | with_reducible refine c_dr _ ?_ | with_reducible refine c_d1 ?_ | with_reducible refine c_al _ ?_ | (with_reducible refine c_set ?_ ?_; focus (dsimp only; omega)) | (with_reducible apply c_be; with_reducible assumption))); done) | ((repeat (first | with_reducible assumption | with_reducible refine o_dr _ ?_ | with_reducible refine o_d1 ?_ | with_reducible refine o_set ?_ | (with_reducible refine o_new ?_ ?_; (focus (simp)); (focus (simp))) | with_reducible refine o_al _ ?_ | (with_reducible apply o_be; with_reducible assumption))); done) | ((repeat (first | with_reducible assumption | with_reducible exact Below.refl _ _ | with_reducible refine Below.drew ?_ | with_reducible refine below_drewN ?_ _ | with_reducible refine bw_alloc ?_ _ | (with_reducible refine bw_set ?_ ?_ _; focus (dsimp only; omega)) | (with_reducible apply bw_behind; with_reducible assumption))); done) | (simp [go_sem, *]; omega) | (simp (maxDischargeDepth := 4) [go_sem, *]; done))
    have hNh : w.heap.size + 1 < N1 := by have := of_decide_eq_true qe; omega
    have hNf : N1 < w1.heap.size + m2 + 1 + m3 := by omega
    clear qa qe hM2 hb2 hr2 hh2 hs2 hR1 hN1 hb3 hr3 hh3 hs3 hNl z2 z3 z4 z5 z6 z7 z8 z9 z10 z11 z12 z13 z14 z0 z1
    clear HX hB1
    rintro wf ⟨hMf, hBf, e0, e1, e2, e3, e4, e5, e6, e7, e8, e9, e10, e11, e12, x0, x1, x2, x3, x4, x5, x6, x7, x8, x9, x10, x11, x12, x13⟩
    have qe : ltB (w.heap.size + 1) wf.heap.size = true := decide_eq_true (World.block_lt_of_cell? wf _ e0)
    have qf : ltB (w1.heap.size + m2 + 1 + m3) wf.heap.size = true := decide_eq_true (World.block_lt_of_cell? wf _ x0)
    generalize w1.heap.size + m2 + 1 + m3 = fb at *
    clear w3 w2
    go_upto_region 14 with (first | (go_at_call 20; (first | ((with_reducible refine (Ccw.out _ ?_).mono ?_); (refine hT.behind ?_; repeat (first | with_reducible assumption | with_reducible exact Below.refl _ _ | with_reducible refine Below.drew ?_ | with_reducible refine below_drewN ?_ _ | with_reducible refine bw_alloc ?_ _ | (with_reducible refine bw_set ?_ ?_ _; focus (dsimp only; omega)) | (with_reducible apply bw_behind; with_reducible assumption))))); rintro _ w4 ⟨rfl, hb4⟩; have hr4 := below_reads hb4; have hh4 := below_holds hb4; obtain ⟨m4, hs4⟩ := below_grew hb4) | (go_at_call 19; (with_reducible refine (Ccs.out _ N1 _ ?_).mono ?_); (focus (repeat (first | with_reducible assumption | with_reducible refine mw_dr _ ?_ | with_reducible refine mw_d1 ?_ | with_reducible refine mw_al _ ?_ | (with_reducible apply mw_be; with_reducible assumption)))); rintro _ w5 ⟨rfl, hM5, ho5⟩))
    refine wp_abs (fun W => MemW W R1 N1 8 M2 ∧ Below w.heap.size w W ∧ W.cell? ⟨w.heap.size + 1, 0, none⟩ = some (.bool b0) ∧ W.cell? ⟨w.heap.size + 1, 1, none⟩ = some (.bool b1) ∧ W.cell? ⟨w.heap.size + 1, 2, none⟩ = some (.bool b2) ∧ W.cell? ⟨w.heap.size + 1, 3, none⟩ = some (.bool b3) ∧ W.cell? ⟨w.heap.size + 1, 4, none⟩ = some (.bool b4) ∧ W.cell? ⟨w.heap.size + 1, 5, none⟩ = some (.bool b5) ∧ W.cell? ⟨w.heap.size + 1, 6, none⟩ = some (.bool b6) ∧ W.cell? ⟨w.heap.size + 1, 7, none⟩ = some (.bool b7) ∧ W.cell? ⟨w.heap.size + 1, 8, none⟩ = some (.bool b8) ∧ W.cell? ⟨w.heap.size + 1, 9, none⟩ = some (.bool b9) ∧ W.cell? ⟨w.heap.size + 1, 10, none⟩ = some (.bool b10) ∧ W.cell? ⟨w.heap.size + 1, 11, none⟩ = some (.bool b11) ∧ W.cell? ⟨w.heap.size + 1, 12, none⟩ = some (.int .u64 F) ∧ W.cell? ⟨fb, 0, none⟩ = some (.bool f0) ∧ W.cell? ⟨fb, 1, none⟩ = some (.bool f1) ∧ W.cell? ⟨fb, 2, none⟩ = some (.bool f2) ∧ W.cell? ⟨fb, 3, none⟩ = some (.bool f3) ∧ W.cell? ⟨fb, 4, none⟩ = some (.bool f4) ∧ W.cell? ⟨fb, 5, none⟩ = some (.bool f5) ∧ W.cell? ⟨fb, 6, none⟩ = some (.bool f6) ∧ W.cell? ⟨fb, 7, none⟩ = some (.bool f7) ∧ W.cell? ⟨fb, 8, none⟩ = some (.bool f8) ∧ W.cell? ⟨fb, 9, none⟩ = some (.bool f9) ∧ W.cell? ⟨fb, 10, none⟩ = some (.bool f10) ∧ W.cell? ⟨fb, 11, none⟩ = some (.bool f11) ∧ W.cell? ⟨fb, 12, none⟩ = some (.int .u64 FF) ∧ W.cell? ⟨fb, 13, none⟩ = some (.int .u64 FA)) ?_ ?_
    · refine ⟨?_, ?_, ?_, ?_, ?_, ?_, ?_, ?_, ?_, ?_, ?_, ?_, ?_, ?_, ?_, ?_, ?_, ?_, ?_, ?_, ?_, ?_, ?_, ?_, ?_, ?_, ?_, ?_, ?_⟩
      · repeat (first | with_reducible assumption | with_reducible refine mw_dr _ ?_ | with_reducible refine mw_d1 ?_ | with_reducible refine mw_al _ ?_ | (with_reducible apply mw_be; with_reducible assumption))
      · have hf : Below w.heap.size w w4 := by
          repeat (first | with_reducible assumption | with_reducible exact Below.refl _ _ | with_reducible refine Below.drew ?_ | with_reducible refine below_drewN ?_ _ | with_reducible refine bw_alloc ?_ _ | (with_reducible refine bw_set ?_ ?_ _; focus (dsimp only; omega)) | (with_reducible apply bw_behind; with_reducible assumption))
        have hg : Below w.heap.size w w5 := hf.trans (ho5.below (by omega) hf.size)
        clear hf
        repeat (first | with_reducible assumption | with_reducible exact Below.refl _ _ | with_reducible refine Below.drew ?_ | with_reducible refine below_drewN ?_ _ | with_reducible refine bw_alloc ?_ _ | (with_reducible refine bw_set ?_ ?_ _; focus (dsimp only; omega)) | (with_reducible apply bw_behind; with_reducible assumption))
      all_goals first | ((repeat (first | with_reducible assumption | with_reducible refine c_dr _ ?_ | with_reducible refine c_d1 ?_ | with_reducible refine c_al _ ?_ | (with_reducible refine c_set ?_ ?_; focus (dsimp only; omega)) | (with_reducible apply c_be; with_reducible assumption) | (with_reducible refine Out.reads (by with_reducible assumption) ?_ ?_; (focus (dsimp only; omega))))); done) | (first | with_reducible assumption | ((repeat (first | with_reducible assumption | with_reducible refine c_dr _ ?_ | with_reducible refine c_d1 ?_ | with_reducible refine c_al _ ?_ | (with_reducible refine c_set ?_ ?_; focus (dsimp only; omega)) | (with_reducible apply c_be; with_reducible assumption))); done) | ((repeat (first | with_reducible assumption | with_reducible refine o_dr _ ?_ | with_reducible refine o_d1 ?_ | with_reducible refine o_set ?_ | (with_reducible refine o_new ?_ ?_; (focus (simp)); (focus (simp))) | with_reducible refine o_al _ ?_ | (with_reducible apply o_be; with_reducible assumption))); done) | ((repeat (first | with_reducible assumption | with_reducible exact Below.refl _ _ | with_reducible refine Below.drew ?_ | with_reducible refine below_drewN ?_ _ | with_reducible refine bw_alloc ?_ _ | (with_reducible refine bw_set ?_ ?_ _; focus (dsimp only; omega)) | (with_reducible apply bw_behind; with_reducible assumption))); done) | (simp [go_sem, *]; omega) | (simp (maxDischargeDepth := 4) [go_sem, *]; done))
    clear qe qf
    rintro wj ⟨hMj, hBj, d0, d1, d2, d3, d4, d5, d6, d7, d8, d9, d10, d11, d12, y0, y1, y2, y3, y4, y5, y6, y7, y8, y9, y10, y11, y12, y13⟩
    clear hb4 hr4 hh4 hs4 hM5 ho5 hMf hBf e0 e1 e2 e3 e4 e5 e6 e7 e8 e9 e10 e11 e12 x0 x1 x2 x3 x4 x5 x6 x7 x8 x9 x10 x11 x12 x13
    have qe : ltB (w.heap.size + 1) wj.heap.size = true := decide_eq_true (World.block_lt_of_cell? wj _ d0)
    have qf : ltB fb wj.heap.size = true := decide_eq_true (World.block_lt_of_cell? wj _ y0)
    clear w5 w4 wf
    go_wp2_with (first | (go_at_call 9; (first | ((with_reducible refine (Cc3.out _ N1 _ ?_ ?_).mono ?_); (refine hT.behind ?_; repeat (first | with_reducible assumption | with_reducible exact Below.refl _ _ | with_reducible refine Below.drew ?_ | with_reducible refine below_drewN ?_ _ | with_reducible refine bw_alloc ?_ _ | (with_reducible refine bw_set ?_ ?_ _; focus (dsimp only; omega)) | (with_reducible apply bw_behind; with_reducible assumption))); (focus (repeat (first | with_reducible assumption | with_reducible refine mw_dr _ ?_ | with_reducible refine mw_d1 ?_ | with_reducible refine mw_al _ ?_ | (with_reducible apply mw_be; with_reducible assumption)))))); rintro _ w6 ⟨rfl, hb6⟩; have hr6 := below_reads hb6; have hh6 := below_holds hb6; obtain ⟨m6, hs6⟩ := below_grew hb6) | (go_at_call 9; (first | ((with_reducible refine (Cc4.out _ N1 _ ?_ ?_).mono ?_); (refine hT.behind ?_; repeat (first | with_reducible assumption | with_reducible exact Below.refl _ _ | with_reducible refine Below.drew ?_ | with_reducible refine below_drewN ?_ _ | with_reducible refine bw_alloc ?_ _ | (with_reducible refine bw_set ?_ ?_ _; focus (dsimp only; omega)) | (with_reducible apply bw_behind; with_reducible assumption))); (focus (repeat (first | with_reducible assumption | with_reducible refine mw_dr _ ?_ | with_reducible refine mw_d1 ?_ | with_reducible refine mw_al _ ?_ | (with_reducible apply mw_be; with_reducible assumption)))))); rintro _ w7 ⟨rfl, hb7⟩; have hr7 := below_reads hb7; have hh7 := below_holds hb7; obtain ⟨m7, hs7⟩ := below_grew hb7) | (go_at_call 20; (first | ((with_reducible refine (Ccw.out _ ?_).mono ?_); (refine hT.behind ?_; repeat (first | with_reducible assumption | with_reducible exact Below.refl _ _ | with_reducible refine Below.drew ?_ | with_reducible refine below_drewN ?_ _ | with_reducible refine bw_alloc ?_ _ | (with_reducible refine bw_set ?_ ?_ _; focus (dsimp only; omega)) | (with_reducible apply bw_behind; with_reducible assumption))))); rintro _ w8 ⟨rfl, hb8⟩; have hr8 := below_reads hb8; have hh8 := below_holds hb8; obtain ⟨m8, hs8⟩ := below_grew hb8) | (go_at_call 21; (first | ((with_reducible refine (Cc5.out _ ?_).mono ?_); (refine hT.behind ?_; repeat (first | with_reducible assumption | with_reducible exact Below.refl _ _ | with_reducible refine Below.drew ?_ | with_reducible refine below_drewN ?_ _ | with_reducible refine bw_alloc ?_ _ | (with_reducible refine bw_set ?_ ?_ _; focus (dsimp only; omega)) | (with_reducible apply bw_behind; with_reducible assumption))))); rintro _ w9 ⟨rfl, hb9⟩; have hr9 := below_reads hb9; have hh9 := below_holds hb9; obtain ⟨m9, hs9⟩ := below_grew hb9) | (go_at_call 22; (with_reducible first | refine (Cc6.out _).mono ?_); rintro _ w10 ⟨rfl, hb10⟩; have hr10 := below_reads hb10; have hh10 := below_holds hb10; obtain ⟨m10, hs10⟩ := below_grew hb10) | (go_at_call 18; (first | ((with_reducible refine (Cc7.out _ ?_).mono ?_); (refine hT.behind ?_; repeat (first | with_reducible assumption | with_reducible exact Below.refl _ _ | with_reducible refine Below.drew ?_ | with_reducible refine below_drewN ?_ _ | with_reducible refine bw_alloc ?_ _ | (with_reducible refine bw_set ?_ ?_ _; focus (dsimp only; omega)) | (with_reducible apply bw_behind; with_reducible assumption))))); rintro _ w11 ⟨rfl, hb11⟩; have hr11 := below_reads hb11; have hh11 := below_holds hb11; obtain ⟨m11, hs11⟩ := below_grew hb11) | (go_at_call 11; (with_reducible refine (Co.out _ ?_).mono ?_); (refine hT.behind ?_; repeat (first | with_reducible assumption | with_reducible exact Below.refl _ _ | with_reducible refine Below.drew ?_ | with_reducible refine below_drewN ?_ _ | with_reducible refine bw_alloc ?_ _ | (with_reducible refine bw_set ?_ ?_ _; focus (dsimp only; omega)) | (with_reducible apply bw_behind; with_reducible assumption))); rintro _ w12 ⟨rfl, hb12⟩; have hr12 := below_reads hb12; have hh12 := below_holds hb12; obtain ⟨m12, hs12⟩ := below_grew hb12))
    go_ret
    refine ⟨rfl, ?_⟩
    repeat (first | with_reducible assumption | with_reducible exact Below.refl _ _ | with_reducible refine Below.drew ?_ | with_reducible refine below_drewN ?_ _ | with_reducible refine bw_alloc ?_ _ | (with_reducible refine bw_set ?_ ?_ _; focus (dsimp only; omega)) | (with_reducible apply bw_behind; with_reducible assumption))

set_option maxRecDepth 100000 in
set_option maxHeartbeats 16000000 in
theorem way_far_ne (b0 b1 b2 b3 b4 b5 b6 b7 b8 b9 b10 b11 f0 f1 f2 f3 f4 f5 f6 f7 f8 f9 f10 f11 : Bool) (F XF A0 A1 I K VK Z AI VI WV FF FA was : Int) (o : Nat) (M M2 : Nat → Nat → BitVec 64) (sa : Option Addr) (cap : Nat) (l : List LayD) (c1 : ∀ g cp W, Tab W → Row W g (cells2 (l.take 40) ++ [.int .i64 0, .int .i64 0, .bool true, .bool false, .bool false, .bool false, .bool false, .bool false, .bool false, .bool false, .bool false, .bool false, .bool false, .bool false, .int .u64 1, .int .i64 1, .int .i64 0, .bool true, .bool false, .bool false, .bool false, .bool false, .bool false, .bool false, .bool false, .bool false, .bool false, .bool false, .bool false, .int .u64 2]) → Calls Tryd.prog 8 #[.slice (some ⟨g, 0, none⟩) ((l.take 40).length + 2) cp] W (fun e W' => ∃ R N sa na ca sb nb cb, e = .returned (.tuple #[.pointer (some ⟨R, 0, none⟩), .agg #[.int .i64 8, .slice sa na ca, .slice sb nb cb, .slice none 0 0]]) ∧ MemW W' R N 8 M ∧ Below W.heap.size W W' ∧ W.heap.size ≤ R ∧ W.heap.size ≤ N)) (c2 : ∀ R N W, Tab W → MemW W R N 8 M → Calls Tryd.prog 9 #[.pointer (some ⟨R, 0, none⟩), .int .u64 0, .int .u64 VK] W (Makes (.tuple #[.agg #[.bool f0, .bool f1, .bool f2, .bool f3, .bool f4, .bool f5, .bool f6, .bool f7, .bool f8, .bool f9, .bool f10, .bool f11, .int .u64 FF, .int .u64 FA], .int .i64 was]) W)) (cw : ∀ W, Tab W → Calls Tryd.prog 20 #[.agg #[.bool b0, .bool b1, .bool b2, .bool b3, .bool b4, .bool b5, .bool b6, .bool b7, .bool b8, .bool b9, .bool b10, .bool b11, .int .u64 F]] W (Makes (.int .u64 WV) W)) (cs : ∀ R N W, MemW W R N 8 M → Calls Tryd.prog 19 #[.pointer (some ⟨R, 0, none⟩), .int .u64 AI, .int .i64 8, .int .u64 WV] W fun e w' => e = .returned (.int .i64 0) ∧ MemW w' R N 8 M2 ∧ Out N o W w') (c3 : ∀ R N W, Tab W → MemW W R N 8 M2 → Calls Tryd.prog 9 #[.pointer (some ⟨R, 0, none⟩), .int .u64 0, .int .u64 VK] W (Makes (.tuple #[.agg #[.bool f0, .bool f1, .bool f2, .bool f3, .bool f4, .bool f5, .bool f6, .bool f7, .bool f8, .bool f9, .bool f10, .bool f11, .int .u64 FF, .int .u64 FA], .int .i64 was]) W)) (c4 : ∀ R N W, Tab W → MemW W R N 8 M2 → Calls Tryd.prog 9 #[.pointer (some ⟨R, 0, none⟩), .int .u64 0, .int .u64 VI] W (Makes (.tuple #[.agg #[.bool false, .bool false, .bool false, .bool false, .bool false, .bool false, .bool false, .bool false, .bool false, .bool false, .bool false, .bool false, .int .u64 0, .int .u64 0], .int .i64 1]) W)) (c5 : ∀ W, Tab W → Calls Tryd.prog 21 #[.int .u64 WV] W (Makes (.agg #[.bool b0, .bool b1, .bool b2, .bool b3, .bool b4, .bool b5, .bool b6, .bool b7, .bool b8, .bool b9, .bool b10, .bool b11, .int .u64 XF]) W)) (c6 : ∀ W, Calls Tryd.prog 22 #[.agg #[.bool b0, .bool b1, .bool b2, .bool b3, .bool b4, .bool b5, .bool b6, .bool b7, .bool b8, .bool b9, .bool b10, .bool b11, .int .u64 XF]] W (Makes (.bool true) W)) (c7 : ∀ W, Tab W → Calls Tryd.prog 18 #[.agg #[.bool b0, .bool b1, .bool b2, .bool b3, .bool b4, .bool b5, .bool b6, .bool b7, .bool b8, .bool b9, .bool b10, .bool b11, .int .u64 XF]] W (Makes (.bool true) W)) (co : ∀ W, Tab W → Calls Tryd.prog 11 #[] W (Makes (.bool true) W)) (k0 : bits .and .i64 A0 511 = I) (k1 : bits .and .i64 A1 511 = K) (u0 : IntKind.u64.wrap I = I) (u1 : IntKind.u64.wrap K = K) (u2 : IntKind.u64.wrap (K * 4096) = VK) (u3 : IntKind.u64.wrap (8 * I) = Z) (u4 : IntKind.u64.wrap (8192 + Z) = AI) (u5 : IntKind.u64.wrap (I * 4096) = VI) (hd : (I != K) = true) (hx : decide (XF < 8) = false) (w : World) (hT : Tab w) (hl : ∀ k d, l[k]? = some d → ∃ b off, sa = some ⟨b, off, none⟩ ∧ ∀ j v, d.cells[j]? = some v → w.cell? ⟨b, off + k * 15 + j, none⟩ = some v) :
    Calls Tryd.prog 6 #[.slice sa l.length cap, .agg #[.int .i64 A0, .int .i64 A1], .agg #[.bool b0, .bool b1, .bool b2, .bool b3, .bool b4, .bool b5, .bool b6, .bool b7, .bool b8, .bool b9, .bool b10, .bool b11, .int .u64 F]] w (Makes (.bool true) w) := by
  have SS := cell_same
  have LB' := ltB_add
  have LS := ltB_self
  have LA' := alloc_reads
  have LH := alloc_holds
  have HL := hide hl
  have Co := hide co
  have Cc1 := hide c1
  have Cc2 := hide c2
  have Ccw := hide cw
  have Ccs := hide cs
  have Cc3 := hide c3
  have Cc4 := hide c4
  have Cc5 := hide c5
  have Cc6 := hide c6
  have Cc7 := hide c7
  clear c2 cw cs c3 c4 c5 c6 c7
  clear hl co c1
  obtain ⟨iL, hiL, hiL0, hiL1, hiL2⟩ := info_parts info_lay
  go_enter Tryd.func6, Tryd.ntmps6
  go_upto_region 2 with fail
  refine wp_abs (fun W => Below w.heap.size w W ∧ Row W (w.heap.size + 1 + 1) [.int .i64 0, .int .i64 0, .bool true, .bool false, .bool false, .bool false, .bool false, .bool false, .bool false, .bool false, .bool false, .bool false, .bool false, .bool false, .int .u64 1, .int .i64 1, .int .i64 0, .bool true, .bool false, .bool false, .bool false, .bool false, .bool false, .bool false, .bool false, .bool false, .bool false, .bool false, .bool false, .int .u64 2] ∧ w.heap.size + 1 + 1 < W.heap.size ∧ W.cell? ⟨w.heap.size, 0, none⟩ = some (.int .i64 A0) ∧ W.cell? ⟨w.heap.size, 1, none⟩ = some (.int .i64 A1) ∧ W.cell? ⟨w.heap.size + 1, 0, none⟩ = some (.bool b0) ∧ W.cell? ⟨w.heap.size + 1, 1, none⟩ = some (.bool b1) ∧ W.cell? ⟨w.heap.size + 1, 2, none⟩ = some (.bool b2) ∧ W.cell? ⟨w.heap.size + 1, 3, none⟩ = some (.bool b3) ∧ W.cell? ⟨w.heap.size + 1, 4, none⟩ = some (.bool b4) ∧ W.cell? ⟨w.heap.size + 1, 5, none⟩ = some (.bool b5) ∧ W.cell? ⟨w.heap.size + 1, 6, none⟩ = some (.bool b6) ∧ W.cell? ⟨w.heap.size + 1, 7, none⟩ = some (.bool b7) ∧ W.cell? ⟨w.heap.size + 1, 8, none⟩ = some (.bool b8) ∧ W.cell? ⟨w.heap.size + 1, 9, none⟩ = some (.bool b9) ∧ W.cell? ⟨w.heap.size + 1, 10, none⟩ = some (.bool b10) ∧ W.cell? ⟨w.heap.size + 1, 11, none⟩ = some (.bool b11) ∧ W.cell? ⟨w.heap.size + 1, 12, none⟩ = some (.int .u64 F)) ?_ ?_
  · refine ⟨?_, ?_, ?_, ?_, ?_, ?_, ?_, ?_, ?_, ?_, ?_, ?_, ?_, ?_, ?_, ?_, ?_, ?_⟩
    · repeat (first | with_reducible assumption | with_reducible exact Below.refl _ _ | with_reducible refine Below.drew ?_ | with_reducible refine below_drewN ?_ _ | with_reducible refine bw_alloc ?_ _ | (with_reducible refine bw_set ?_ ?_ _; focus (dsimp only; omega)) | (with_reducible apply bw_behind; with_reducible assumption))
    · repeat (first | with_reducible assumption | with_reducible refine k_dr _ ?_ | with_reducible refine k_d1 ?_ | exact row_new (by simp) rfl | with_reducible refine k_al _ ?_ | (with_reducible refine k_set ?_ ?_; focus (dsimp only; omega)) | (with_reducible apply k_be; with_reducible assumption))
    · simp
    all_goals (first | with_reducible assumption | ((repeat (first | with_reducible assumption | with_reducible refine c_dr _ ?_ | with_reducible refine c_d1 ?_ | with_reducible refine c_al _ ?_ | (with_reducible refine c_set ?_ ?_; focus (dsimp only; omega)) | (with_reducible apply c_be; with_reducible assumption))); done) | ((repeat (first | with_reducible assumption | with_reducible refine o_dr _ ?_ | with_reducible refine o_d1 ?_ | with_reducible refine o_set ?_ | (with_reducible refine o_new ?_ ?_; (focus (simp)); (focus (simp))) | with_reducible refine o_al _ ?_ | (with_reducible apply o_be; with_reducible assumption))); done) | ((repeat (first | with_reducible assumption | with_reducible exact Below.refl _ _ | with_reducible refine Below.drew ?_ | with_reducible refine below_drewN ?_ _ | with_reducible refine bw_alloc ?_ _ | (with_reducible refine bw_set ?_ ?_ _; focus (dsimp only; omega)) | (with_reducible apply bw_behind; with_reducible assumption))); done) | (simp [go_sem, *]; omega) | (simp (maxDischargeDepth := 4) [go_sem, *]; done))
  rintro w0 ⟨hB0, hRow0, hs0, z0, z1, z2, z3, z4, z5, z6, z7, z8, z9, z10, z11, z12, z13, z14⟩
  have HR0 := hide hRow0
  clear hRow0
  go_upto_block 0 with fail
  go_cut [8] (fun s8 wx => Hid (wx.ownsRow w0.heap.size 54 15 s8 (l.take 40).length (cells2 (l.take 40))) ∧ Below w0.heap.size w0 wx)
  case first =>
    go_wp2_with fail
    go_loopw [8, 9] (fun s i wr => ∃ k : Nat, k ≤ l.length ∧ k ≤ 40 ∧ i = .int .i64 (k : Int) ∧ Hid (wr.ownsRow w0.heap.size 54 15 s k (cells2 (l.take k))) ∧ Below w0.heap.size w0 wr) (fun _ i _ => 40 - (intOf i).toNat)
    case atStart => exact ⟨0, by omega, by omega, rfl, hide (World.ownsRow_nil _ _ _ _), Below.refl _ _⟩
    case round s =>
      obtain ⟨k, hk, hk40, rfl, HO, hB⟩ := hrel
      have hsz := hB.size
      by_cases hlt : k < l.length ∧ k < 40
      · obtain ⟨hk1, hk2⟩ := hlt
        obtain ⟨d, hd⟩ : ∃ d, l[k]? = some d := ⟨_, List.getElem?_eq_getElem hk1⟩
        obtain ⟨b, off, rfl, hcell⟩ := HL.out k d hd
        have y0 : wr.cell? ⟨b, off + k * 15, none⟩ = some (.int .i64 d.f) := c_be hB (c_be hB0 (hcell 0 _ rfl))
        have y1 := c_be hB (c_be hB0 (hcell 1 _ rfl))
        have y2 := c_be hB (c_be hB0 (hcell 2 _ rfl))
        have y3 := c_be hB (c_be hB0 (hcell 3 _ rfl))
        have y4 := c_be hB (c_be hB0 (hcell 4 _ rfl))
        have y5 := c_be hB (c_be hB0 (hcell 5 _ rfl))
        have y6 := c_be hB (c_be hB0 (hcell 6 _ rfl))
        have y7 := c_be hB (c_be hB0 (hcell 7 _ rfl))
        have y8 := c_be hB (c_be hB0 (hcell 8 _ rfl))
        have y9 := c_be hB (c_be hB0 (hcell 9 _ rfl))
        have y10 := c_be hB (c_be hB0 (hcell 10 _ rfl))
        have y11 := c_be hB (c_be hB0 (hcell 11 _ rfl))
        have y12 := c_be hB (c_be hB0 (hcell 12 _ rfl))
        have y13 := c_be hB (c_be hB0 (hcell 13 _ rfl))
        have y14 := c_be hB (c_be hB0 (hcell 14 _ rfl))
        have HH : Hid (cells2 (l.take (k + 1)) = cells2 (l.take k) ++ [.int .i64 2, .int .i64 d.i, .bool d.b0, .bool d.b1, .bool d.b2, .bool d.b3, .bool d.b4, .bool d.b5, .bool d.b6, .bool d.b7, .bool d.b8, .bool d.b9, .bool d.b10, .bool d.b11, .int .u64 (d.F.toNat : Int)]) := hide (by rw [List.take_add_one, hd]; exact cells2_add _ d)
        have g1 : (k : Int) < (l.length : Int) := by omega
        have g2 : (k : Int) < 40 := by omega
        have g3 : (0 : Int) ≤ (k : Int) := by omega
        clear hcell
        generalize d.f = DF0 at *
        generalize d.i = DI at *
        generalize d.b0 = a0 at *
        generalize d.b1 = a1 at *
        generalize d.b2 = a2 at *
        generalize d.b3 = a3 at *
        generalize d.b4 = a4 at *
        generalize d.b5 = a5 at *
        generalize d.b6 = a6 at *
        generalize d.b7 = a7 at *
        generalize d.b8 = a8 at *
        generalize d.b9 = a9 at *
        generalize d.b10 = a10 at *
        generalize d.b11 = a11 at *
        generalize (d.F.toNat : Int) = DF at *
        clear HL z0 z1 z2 z3 z4 z5 z6 z7 z8 z9 z10 z11 z12 z13 z14
        go_wp2_with (at_builtin; refine wpList_append_own _ rfl _ _ 22 rfl w0.heap.size 54 iL (.agg #[.int .i64 0, .int .i64 0, .bool false, .bool false, .bool false, .bool false, .bool false, .bool false, .bool false, .bool false, .bool false, .bool false, .bool false, .bool false, .int .u64 0]) 15 40 Tryd.underlying22 hiL hiL0 hiL1 hiL2 rfl (by decide) _ _ _ rfl (owns_be (by repeat (first | with_reducible assumption | with_reducible exact Below.refl _ _ | with_reducible refine Below.drew ?_ | with_reducible refine below_drewN ?_ _ | with_reducible refine bw_alloc ?_ _ | (with_reducible refine bw_set ?_ ?_ _; focus (dsimp only; omega)) | (with_reducible apply bw_behind; with_reducible assumption))) HO.out) _ 1 1 [.int .i64 2, .int .i64 DI, .bool a0, .bool a1, .bool a2, .bool a3, .bool a4, .bool a5, .bool a6, .bool a7, .bool a8, .bool a9, .bool a10, .bool a11, .int .u64 DF] rfl rfl (row_one (by repeat (first | with_reducible assumption | with_reducible refine k_dr _ ?_ | with_reducible refine k_d1 ?_ | exact row_new (by simp) rfl | with_reducible refine k_al _ ?_ | (with_reducible refine k_set ?_ ?_; focus (dsimp only; omega)) | (with_reducible apply k_be; with_reducible assumption))) rfl) (by simp [Value.oneCell']) (by unfold maxLen; omega) (by omega) (by first | omega | (simp; omega)) ?_; intro v3 w3 hown3 hgrow3 _)
        go_roundw
        case rel =>
          refine ⟨k + 1, by omega, by omega, by go_num, ?_, ?_⟩
          · rw [HH.out]
            exact hide hown3
          · refine Below.grown ?_ hgrow3 (by simp; omega) (fun j ej => own_base HO.out j ej.symm)
            repeat (first | with_reducible assumption | with_reducible exact Below.refl _ _ | with_reducible refine Below.drew ?_ | with_reducible refine below_drewN ?_ _ | with_reducible refine bw_alloc ?_ _ | (with_reducible refine bw_set ?_ ?_ _; focus (dsimp only; omega)) | (with_reducible apply bw_behind; with_reducible assumption))
        case measure => simp [intOf]; omega
      · have ht : l.take 40 = l.take k := by
          rcases Nat.lt_or_ge k 40 with h | h
          · rw [List.take_of_length_le (by omega), List.take_of_length_le (by omega)]
          · rw [show k = 40 by omega]
        have hlen : (l.take k).length = k := by rw [List.length_take]; omega
        have HTK := hide ht
        have HLE := hide hlen
        clear ht hlen HL Cc1 z0 z1 z2 z3 z4 z5 z6 z7 z8 z9 z10 z11 z12 z13 z14
        rcases Nat.lt_or_ge k l.length with h | h
        · have g1 : (k : Int) < (l.length : Int) := by omega
          have g2 : ¬ ((k : Int) < 40) := by omega
          go_wp2_with fail
          go_meet
          refine ⟨?_, hB⟩
          rw [HTK.out, HLE.out]
          exact HO
        · have g1 : ¬ ((k : Int) < (l.length : Int)) := by omega
          go_wp2_with fail
          go_meet
          refine ⟨?_, hB⟩
          rw [HTK.out, HLE.out]
          exact HO
  case rest =>
    obtain ⟨HO, hBc⟩ := hcut
    have hn40 : (l.take 40).length ≤ 40 := by rw [List.length_take]; omega
    have HRc : Hid (Row wc (w.heap.size + 1 + 1) [.int .i64 0, .int .i64 0, .bool true, .bool false, .bool false, .bool false, .bool false, .bool false, .bool false, .bool false, .bool false, .bool false, .bool false, .bool false, .int .u64 1, .int .i64 1, .int .i64 0, .bool true, .bool false, .bool false, .bool false, .bool false, .bool false, .bool false, .bool false, .bool false, .bool false, .bool false, .bool false, .int .u64 2]) := hide (k_be hBc HR0.out)
    have hsc := hBc.size
    clear HL HR0
    generalize (l.take 40).length = n at *
    generalize cells2 (l.take 40) = XS at *
    go_upto_region 10 with (at_builtin; refine wpList_append_own _ rfl _ _ 22 rfl w0.heap.size 54 iL (.agg #[.int .i64 0, .int .i64 0, .bool false, .bool false, .bool false, .bool false, .bool false, .bool false, .bool false, .bool false, .bool false, .bool false, .bool false, .bool false, .int .u64 0]) 15 40 Tryd.underlying22 hiL hiL0 hiL1 hiL2 rfl (by decide) _ _ _ rfl HO.out _ 2 2 [.int .i64 0, .int .i64 0, .bool true, .bool false, .bool false, .bool false, .bool false, .bool false, .bool false, .bool false, .bool false, .bool false, .bool false, .bool false, .int .u64 1, .int .i64 1, .int .i64 0, .bool true, .bool false, .bool false, .bool false, .bool false, .bool false, .bool false, .bool false, .bool false, .bool false, .bool false, .bool false, .int .u64 2] rfl rfl (row_one (k_be (by repeat (first | with_reducible assumption | with_reducible exact Below.refl _ _ | with_reducible refine Below.drew ?_ | with_reducible refine below_drewN ?_ _ | with_reducible refine bw_alloc ?_ _ | (with_reducible refine bw_set ?_ ?_ _; focus (dsimp only; omega)) | (with_reducible apply bw_behind; with_reducible assumption))) HRc.out) rfl) (by simp [Value.oneCell']) (by unfold maxLen; omega) (by omega) (by first | omega | (simp; omega)) ?_; intro v3 w3 hown3 hgrow3 _)
    obtain ⟨g, cp, hv3⟩ := ownsRow_succ hown3
    have hv3 : v3 = .slice (some ⟨g, 0, none⟩) (n + 2) cp := hv3
    subst hv3
    have hB3 : Below w0.heap.size w0 w3 := by
      refine Below.grown ?_ hgrow3 (by first | omega | (simp; omega)) (fun j ej => own_base HO.out j ej.symm)
      repeat (first | with_reducible assumption | with_reducible exact Below.refl _ _ | with_reducible refine Below.drew ?_ | with_reducible refine below_drewN ?_ _ | with_reducible refine bw_alloc ?_ _ | (with_reducible refine bw_set ?_ ?_ _; focus (dsimp only; omega)) | (with_reducible apply bw_behind; with_reducible assumption))
    have HX : Hid (Row w3 g (XS ++ [.int .i64 0, .int .i64 0, .bool true, .bool false, .bool false, .bool false, .bool false, .bool false, .bool false, .bool false, .bool false, .bool false, .bool false, .bool false, .int .u64 1, .int .i64 1, .int .i64 0, .bool true, .bool false, .bool false, .bool false, .bool false, .bool false, .bool false, .bool false, .bool false, .bool false, .bool false, .bool false, .int .u64 2])) := hide (fun j u hj => by have := hown3.cells (g := g) rfl j u hj; rwa [add_at] at this)
    refine wp_abs (fun W => Below w.heap.size w W ∧ Hid (Row W g (XS ++ [.int .i64 0, .int .i64 0, .bool true, .bool false, .bool false, .bool false, .bool false, .bool false, .bool false, .bool false, .bool false, .bool false, .bool false, .bool false, .int .u64 1, .int .i64 1, .int .i64 0, .bool true, .bool false, .bool false, .bool false, .bool false, .bool false, .bool false, .bool false, .bool false, .bool false, .bool false, .bool false, .int .u64 2])) ∧ W.cell? ⟨w.heap.size, 0, none⟩ = some (.int .i64 A0) ∧ W.cell? ⟨w.heap.size, 1, none⟩ = some (.int .i64 A1) ∧ W.cell? ⟨w.heap.size + 1, 0, none⟩ = some (.bool b0) ∧ W.cell? ⟨w.heap.size + 1, 1, none⟩ = some (.bool b1) ∧ W.cell? ⟨w.heap.size + 1, 2, none⟩ = some (.bool b2) ∧ W.cell? ⟨w.heap.size + 1, 3, none⟩ = some (.bool b3) ∧ W.cell? ⟨w.heap.size + 1, 4, none⟩ = some (.bool b4) ∧ W.cell? ⟨w.heap.size + 1, 5, none⟩ = some (.bool b5) ∧ W.cell? ⟨w.heap.size + 1, 6, none⟩ = some (.bool b6) ∧ W.cell? ⟨w.heap.size + 1, 7, none⟩ = some (.bool b7) ∧ W.cell? ⟨w.heap.size + 1, 8, none⟩ = some (.bool b8) ∧ W.cell? ⟨w.heap.size + 1, 9, none⟩ = some (.bool b9) ∧ W.cell? ⟨w.heap.size + 1, 10, none⟩ = some (.bool b10) ∧ W.cell? ⟨w.heap.size + 1, 11, none⟩ = some (.bool b11) ∧ W.cell? ⟨w.heap.size + 1, 12, none⟩ = some (.int .u64 F)) ?_ ?_
    · refine ⟨hB0.trans (hB3.mono hB0.size), HX, ?_, ?_, ?_, ?_, ?_, ?_, ?_, ?_, ?_, ?_, ?_, ?_, ?_, ?_, ?_⟩
      all_goals exact c_be hB3 (by assumption)
    clear HX HO hown3 hgrow3 hB3 hBc HRc hsc z0 z1 z2 z3 z4 z5 z6 z7 z8 z9 z10 z11 z12 z13 z14
    clear hB0 hs0 iL hiL hiL0 hiL1 hiL2
    rintro w1 ⟨hB1, HX, z0, z1, z2, z3, z4, z5, z6, z7, z8, z9, z10, z11, z12, z13, z14⟩
    have qa : ltB w.heap.size w1.heap.size = true := decide_eq_true (World.block_lt_of_cell? w1 _ z0)
    have qe : ltB (w.heap.size + 1) w1.heap.size = true := decide_eq_true (World.block_lt_of_cell? w1 _ z2)
    clear w3 w0
    go_upto_region 11 with (first | (go_at_call 8; (with_reducible refine (Cc1.out _ _ _ ?_ ?_).mono ?_); (refine hT.behind ?_; repeat (first | with_reducible assumption | with_reducible exact Below.refl _ _ | with_reducible refine Below.drew ?_ | with_reducible refine below_drewN ?_ _ | with_reducible refine bw_alloc ?_ _ | (with_reducible refine bw_set ?_ ?_ _; focus (dsimp only; omega)) | (with_reducible apply bw_behind; with_reducible assumption))); (focus (repeat (first | with_reducible exact HX.out | with_reducible refine k_dr _ ?_ | with_reducible refine k_d1 ?_ | with_reducible refine k_al _ ?_))); rintro _ w2 ⟨R1, N1, sa1, na1, ca1, sb1, nb1, cb1, rfl, hM2, hb2, hR1, hN1⟩; have hr2 := below_reads hb2; have hh2 := below_holds hb2; obtain ⟨m2, hs2⟩ := below_grew hb2))
    go_quiet (fail)
    go_upto_region 13 with (first | (go_at_call 9; (first | ((with_reducible refine (Cc2.out _ N1 _ ?_ ?_).mono ?_); (refine hT.behind ?_; repeat (first | with_reducible assumption | with_reducible exact Below.refl _ _ | with_reducible refine Below.drew ?_ | with_reducible refine below_drewN ?_ _ | with_reducible refine bw_alloc ?_ _ | (with_reducible refine bw_set ?_ ?_ _; focus (dsimp only; omega)) | (with_reducible apply bw_behind; with_reducible assumption))); (focus (repeat (first | with_reducible assumption | with_reducible refine mw_dr _ ?_ | with_reducible refine mw_d1 ?_ | with_reducible refine mw_al _ ?_ | (with_reducible apply mw_be; with_reducible assumption)))))); rintro _ w3 ⟨rfl, hb3⟩; have hr3 := below_reads hb3; have hh3 := below_holds hb3; obtain ⟨m3, hs3⟩ := below_grew hb3))
    have hNl : N1 < w2.heap.size := by
      obtain ⟨B, S, hm, _⟩ := hM2
      exact (hm.page 0 (by omega)).here
    refine wp_abs (fun W => MemW W R1 N1 8 M ∧ Below w.heap.size w W ∧ W.cell? ⟨w.heap.size + 1, 0, none⟩ = some (.bool b0) ∧ W.cell? ⟨w.heap.size + 1, 1, none⟩ = some (.bool b1) ∧ W.cell? ⟨w.heap.size + 1, 2, none⟩ = some (.bool b2) ∧ W.cell? ⟨w.heap.size + 1, 3, none⟩ = some (.bool b3) ∧ W.cell? ⟨w.heap.size + 1, 4, none⟩ = some (.bool b4) ∧ W.cell? ⟨w.heap.size + 1, 5, none⟩ = some (.bool b5) ∧ W.cell? ⟨w.heap.size + 1, 6, none⟩ = some (.bool b6) ∧ W.cell? ⟨w.heap.size + 1, 7, none⟩ = some (.bool b7) ∧ W.cell? ⟨w.heap.size + 1, 8, none⟩ = some (.bool b8) ∧ W.cell? ⟨w.heap.size + 1, 9, none⟩ = some (.bool b9) ∧ W.cell? ⟨w.heap.size + 1, 10, none⟩ = some (.bool b10) ∧ W.cell? ⟨w.heap.size + 1, 11, none⟩ = some (.bool b11) ∧ W.cell? ⟨w.heap.size + 1, 12, none⟩ = some (.int .u64 F) ∧ W.cell? ⟨w1.heap.size + m2 + 1 + m3, 0, none⟩ = some (.bool f0) ∧ W.cell? ⟨w1.heap.size + m2 + 1 + m3, 1, none⟩ = some (.bool f1) ∧ W.cell? ⟨w1.heap.size + m2 + 1 + m3, 2, none⟩ = some (.bool f2) ∧ W.cell? ⟨w1.heap.size + m2 + 1 + m3, 3, none⟩ = some (.bool f3) ∧ W.cell? ⟨w1.heap.size + m2 + 1 + m3, 4, none⟩ = some (.bool f4) ∧ W.cell? ⟨w1.heap.size + m2 + 1 + m3, 5, none⟩ = some (.bool f5) ∧ W.cell? ⟨w1.heap.size + m2 + 1 + m3, 6, none⟩ = some (.bool f6) ∧ W.cell? ⟨w1.heap.size + m2 + 1 + m3, 7, none⟩ = some (.bool f7) ∧ W.cell? ⟨w1.heap.size + m2 + 1 + m3, 8, none⟩ = some (.bool f8) ∧ W.cell? ⟨w1.heap.size + m2 + 1 + m3, 9, none⟩ = some (.bool f9) ∧ W.cell? ⟨w1.heap.size + m2 + 1 + m3, 10, none⟩ = some (.bool f10) ∧ W.cell? ⟨w1.heap.size + m2 + 1 + m3, 11, none⟩ = some (.bool f11) ∧ W.cell? ⟨w1.heap.size + m2 + 1 + m3, 12, none⟩ = some (.int .u64 FF) ∧ W.cell? ⟨w1.heap.size + m2 + 1 + m3, 13, none⟩ = some (.int .u64 FA)) ?_ ?_
    · refine ⟨?_, ?_, ?_, ?_, ?_, ?_, ?_, ?_, ?_, ?_, ?_, ?_, ?_, ?_, ?_, ?_, ?_, ?_, ?_, ?_, ?_, ?_, ?_, ?_, ?_, ?_, ?_, ?_, ?_⟩
      · repeat (first | with_reducible assumption | with_reducible refine mw_dr _ ?_ | with_reducible refine mw_d1 ?_ | with_reducible refine mw_al _ ?_ | (with_reducible apply mw_be; with_reducible assumption))
      all_goals (first | with_reducible assumption | ((repeat (first | with_reducible assumption | with_reducible refine c_dr _ ?_ | with_reducible refine c_d1 ?_ | with_reducible refine c_al _ ?_ | (with_reducible refine c_set ?_ ?_; focus (dsimp only; omega)) | (with_reducible apply c_be; with_reducible assumption))); done) | ((repeat (first | with_reducible assumption | with_reducible refine o_dr _ ?_ | with_reducible refine o_d1 ?_ | with_reducible refine o_set ?_ | (with_reducible refine o_new ?_ ?_; (focus (simp)); (focus (simp))) | with_reducible refine o_al _ ?_ | (with_reducible apply o_be; with_reducible assumption))); done) | ((repeat (first | with_reducible assumption | with_reducible exact Below.refl _ _ | with_reducible refine Below.drew ?_ | with_reducible refine below_drewN ?_ _ | with_reducible refine bw_alloc ?_ _ | (with_reducible refine bw_set ?_ ?_ _; focus (dsimp only; omega)) | (with_reducible apply bw_behind; with_reducible assumption))); done) | (simp [go_sem, *]; omega) | (simp (maxDischargeDepth := 4) [go_sem, *]; done))
    have hNh : w.heap.size + 1 < N1 := by have := of_decide_eq_true qe; omega
    have hNf : N1 < w1.heap.size + m2 + 1 + m3 := by omega
    clear qa qe hM2 hb2 hr2 hh2 hs2 hR1 hN1 hb3 hr3 hh3 hs3 hNl z2 z3 z4 z5 z6 z7 z8 z9 z10 z11 z12 z13 z14 z0 z1
    clear HX hB1
    rintro wf ⟨hMf, hBf, e0, e1, e2, e3, e4, e5, e6, e7, e8, e9, e10, e11, e12, x0, x1, x2, x3, x4, x5, x6, x7, x8, x9, x10, x11, x12, x13⟩
    have qe : ltB (w.heap.size + 1) wf.heap.size = true := decide_eq_true (World.block_lt_of_cell? wf _ e0)
    have qf : ltB (w1.heap.size + m2 + 1 + m3) wf.heap.size = true := decide_eq_true (World.block_lt_of_cell? wf _ x0)
    generalize w1.heap.size + m2 + 1 + m3 = fb at *
    clear w3 w2
    go_upto_region 14 with (first | (go_at_call 20; (first | ((with_reducible refine (Ccw.out _ ?_).mono ?_); (refine hT.behind ?_; repeat (first | with_reducible assumption | with_reducible exact Below.refl _ _ | with_reducible refine Below.drew ?_ | with_reducible refine below_drewN ?_ _ | with_reducible refine bw_alloc ?_ _ | (with_reducible refine bw_set ?_ ?_ _; focus (dsimp only; omega)) | (with_reducible apply bw_behind; with_reducible assumption))))); rintro _ w4 ⟨rfl, hb4⟩; have hr4 := below_reads hb4; have hh4 := below_holds hb4; obtain ⟨m4, hs4⟩ := below_grew hb4) | (go_at_call 19; (with_reducible refine (Ccs.out _ N1 _ ?_).mono ?_); (focus (repeat (first | with_reducible assumption | with_reducible refine mw_dr _ ?_ | with_reducible refine mw_d1 ?_ | with_reducible refine mw_al _ ?_ | (with_reducible apply mw_be; with_reducible assumption)))); rintro _ w5 ⟨rfl, hM5, ho5⟩))
    refine wp_abs (fun W => MemW W R1 N1 8 M2 ∧ Below w.heap.size w W ∧ W.cell? ⟨w.heap.size + 1, 0, none⟩ = some (.bool b0) ∧ W.cell? ⟨w.heap.size + 1, 1, none⟩ = some (.bool b1) ∧ W.cell? ⟨w.heap.size + 1, 2, none⟩ = some (.bool b2) ∧ W.cell? ⟨w.heap.size + 1, 3, none⟩ = some (.bool b3) ∧ W.cell? ⟨w.heap.size + 1, 4, none⟩ = some (.bool b4) ∧ W.cell? ⟨w.heap.size + 1, 5, none⟩ = some (.bool b5) ∧ W.cell? ⟨w.heap.size + 1, 6, none⟩ = some (.bool b6) ∧ W.cell? ⟨w.heap.size + 1, 7, none⟩ = some (.bool b7) ∧ W.cell? ⟨w.heap.size + 1, 8, none⟩ = some (.bool b8) ∧ W.cell? ⟨w.heap.size + 1, 9, none⟩ = some (.bool b9) ∧ W.cell? ⟨w.heap.size + 1, 10, none⟩ = some (.bool b10) ∧ W.cell? ⟨w.heap.size + 1, 11, none⟩ = some (.bool b11) ∧ W.cell? ⟨w.heap.size + 1, 12, none⟩ = some (.int .u64 F) ∧ W.cell? ⟨fb, 0, none⟩ = some (.bool f0) ∧ W.cell? ⟨fb, 1, none⟩ = some (.bool f1) ∧ W.cell? ⟨fb, 2, none⟩ = some (.bool f2) ∧ W.cell? ⟨fb, 3, none⟩ = some (.bool f3) ∧ W.cell? ⟨fb, 4, none⟩ = some (.bool f4) ∧ W.cell? ⟨fb, 5, none⟩ = some (.bool f5) ∧ W.cell? ⟨fb, 6, none⟩ = some (.bool f6) ∧ W.cell? ⟨fb, 7, none⟩ = some (.bool f7) ∧ W.cell? ⟨fb, 8, none⟩ = some (.bool f8) ∧ W.cell? ⟨fb, 9, none⟩ = some (.bool f9) ∧ W.cell? ⟨fb, 10, none⟩ = some (.bool f10) ∧ W.cell? ⟨fb, 11, none⟩ = some (.bool f11) ∧ W.cell? ⟨fb, 12, none⟩ = some (.int .u64 FF) ∧ W.cell? ⟨fb, 13, none⟩ = some (.int .u64 FA)) ?_ ?_
    · refine ⟨?_, ?_, ?_, ?_, ?_, ?_, ?_, ?_, ?_, ?_, ?_, ?_, ?_, ?_, ?_, ?_, ?_, ?_, ?_, ?_, ?_, ?_, ?_, ?_, ?_, ?_, ?_, ?_, ?_⟩
      · repeat (first | with_reducible assumption | with_reducible refine mw_dr _ ?_ | with_reducible refine mw_d1 ?_ | with_reducible refine mw_al _ ?_ | (with_reducible apply mw_be; with_reducible assumption))
      · have hf : Below w.heap.size w w4 := by
          repeat (first | with_reducible assumption | with_reducible exact Below.refl _ _ | with_reducible refine Below.drew ?_ | with_reducible refine below_drewN ?_ _ | with_reducible refine bw_alloc ?_ _ | (with_reducible refine bw_set ?_ ?_ _; focus (dsimp only; omega)) | (with_reducible apply bw_behind; with_reducible assumption))
        have hg : Below w.heap.size w w5 := hf.trans (ho5.below (by omega) hf.size)
        clear hf
        repeat (first | with_reducible assumption | with_reducible exact Below.refl _ _ | with_reducible refine Below.drew ?_ | with_reducible refine below_drewN ?_ _ | with_reducible refine bw_alloc ?_ _ | (with_reducible refine bw_set ?_ ?_ _; focus (dsimp only; omega)) | (with_reducible apply bw_behind; with_reducible assumption))
      all_goals first | ((repeat (first | with_reducible assumption | with_reducible refine c_dr _ ?_ | with_reducible refine c_d1 ?_ | with_reducible refine c_al _ ?_ | (with_reducible refine c_set ?_ ?_; focus (dsimp only; omega)) | (with_reducible apply c_be; with_reducible assumption) | (with_reducible refine Out.reads (by with_reducible assumption) ?_ ?_; (focus (dsimp only; omega))))); done) | (first | with_reducible assumption | ((repeat (first | with_reducible assumption | with_reducible refine c_dr _ ?_ | with_reducible refine c_d1 ?_ | with_reducible refine c_al _ ?_ | (with_reducible refine c_set ?_ ?_; focus (dsimp only; omega)) | (with_reducible apply c_be; with_reducible assumption))); done) | ((repeat (first | with_reducible assumption | with_reducible refine o_dr _ ?_ | with_reducible refine o_d1 ?_ | with_reducible refine o_set ?_ | (with_reducible refine o_new ?_ ?_; (focus (simp)); (focus (simp))) | with_reducible refine o_al _ ?_ | (with_reducible apply o_be; with_reducible assumption))); done) | ((repeat (first | with_reducible assumption | with_reducible exact Below.refl _ _ | with_reducible refine Below.drew ?_ | with_reducible refine below_drewN ?_ _ | with_reducible refine bw_alloc ?_ _ | (with_reducible refine bw_set ?_ ?_ _; focus (dsimp only; omega)) | (with_reducible apply bw_behind; with_reducible assumption))); done) | (simp [go_sem, *]; omega) | (simp (maxDischargeDepth := 4) [go_sem, *]; done))
    clear qe qf
    rintro wj ⟨hMj, hBj, d0, d1, d2, d3, d4, d5, d6, d7, d8, d9, d10, d11, d12, y0, y1, y2, y3, y4, y5, y6, y7, y8, y9, y10, y11, y12, y13⟩
    clear hb4 hr4 hh4 hs4 hM5 ho5 hMf hBf e0 e1 e2 e3 e4 e5 e6 e7 e8 e9 e10 e11 e12 x0 x1 x2 x3 x4 x5 x6 x7 x8 x9 x10 x11 x12 x13
    have qe : ltB (w.heap.size + 1) wj.heap.size = true := decide_eq_true (World.block_lt_of_cell? wj _ d0)
    have qf : ltB fb wj.heap.size = true := decide_eq_true (World.block_lt_of_cell? wj _ y0)
    clear w5 w4 wf
    have NEF : ∀ W, (binOp .neq 34 (.agg #[.bool f0, .bool f1, .bool f2, .bool f3, .bool f4, .bool f5, .bool f6, .bool f7, .bool f8, .bool f9, .bool f10, .bool f11, .int .u64 FF, .int .u64 FA]) (.agg #[.bool f0, .bool f1, .bool f2, .bool f3, .bool f4, .bool f5, .bool f6, .bool f7, .bool f8, .bool f9, .bool f10, .bool f11, .int .u64 FF, .int .u64 FA])).run Tryd.prog W = .ok (.bool false) W := fun W => by rw [run_neq_struct, eqi_found f0 f1 f2 f3 f4 f5 f6 f7 f8 f9 f10 f11 FF FA]; rfl
    go_wp2_with (first | (go_at_call 9; (first | ((with_reducible refine (Cc3.out _ N1 _ ?_ ?_).mono ?_); (refine hT.behind ?_; repeat (first | with_reducible assumption | with_reducible exact Below.refl _ _ | with_reducible refine Below.drew ?_ | with_reducible refine below_drewN ?_ _ | with_reducible refine bw_alloc ?_ _ | (with_reducible refine bw_set ?_ ?_ _; focus (dsimp only; omega)) | (with_reducible apply bw_behind; with_reducible assumption))); (focus (repeat (first | with_reducible assumption | with_reducible refine mw_dr _ ?_ | with_reducible refine mw_d1 ?_ | with_reducible refine mw_al _ ?_ | (with_reducible apply mw_be; with_reducible assumption)))))); rintro _ w6 ⟨rfl, hb6⟩; have hr6 := below_reads hb6; have hh6 := below_holds hb6; obtain ⟨m6, hs6⟩ := below_grew hb6) | (go_at_call 9; (first | ((with_reducible refine (Cc4.out _ N1 _ ?_ ?_).mono ?_); (refine hT.behind ?_; repeat (first | with_reducible assumption | with_reducible exact Below.refl _ _ | with_reducible refine Below.drew ?_ | with_reducible refine below_drewN ?_ _ | with_reducible refine bw_alloc ?_ _ | (with_reducible refine bw_set ?_ ?_ _; focus (dsimp only; omega)) | (with_reducible apply bw_behind; with_reducible assumption))); (focus (repeat (first | with_reducible assumption | with_reducible refine mw_dr _ ?_ | with_reducible refine mw_d1 ?_ | with_reducible refine mw_al _ ?_ | (with_reducible apply mw_be; with_reducible assumption)))))); rintro _ w7 ⟨rfl, hb7⟩; have hr7 := below_reads hb7; have hh7 := below_holds hb7; obtain ⟨m7, hs7⟩ := below_grew hb7) | (go_at_call 20; (first | ((with_reducible refine (Ccw.out _ ?_).mono ?_); (refine hT.behind ?_; repeat (first | with_reducible assumption | with_reducible exact Below.refl _ _ | with_reducible refine Below.drew ?_ | with_reducible refine below_drewN ?_ _ | with_reducible refine bw_alloc ?_ _ | (with_reducible refine bw_set ?_ ?_ _; focus (dsimp only; omega)) | (with_reducible apply bw_behind; with_reducible assumption))))); rintro _ w8 ⟨rfl, hb8⟩; have hr8 := below_reads hb8; have hh8 := below_holds hb8; obtain ⟨m8, hs8⟩ := below_grew hb8) | (go_at_call 21; (first | ((with_reducible refine (Cc5.out _ ?_).mono ?_); (refine hT.behind ?_; repeat (first | with_reducible assumption | with_reducible exact Below.refl _ _ | with_reducible refine Below.drew ?_ | with_reducible refine below_drewN ?_ _ | with_reducible refine bw_alloc ?_ _ | (with_reducible refine bw_set ?_ ?_ _; focus (dsimp only; omega)) | (with_reducible apply bw_behind; with_reducible assumption))))); rintro _ w9 ⟨rfl, hb9⟩; have hr9 := below_reads hb9; have hh9 := below_holds hb9; obtain ⟨m9, hs9⟩ := below_grew hb9) | (go_at_call 22; (with_reducible first | refine (Cc6.out _).mono ?_); rintro _ w10 ⟨rfl, hb10⟩; have hr10 := below_reads hb10; have hh10 := below_holds hb10; obtain ⟨m10, hs10⟩ := below_grew hb10) | (go_at_call 18; (first | ((with_reducible refine (Cc7.out _ ?_).mono ?_); (refine hT.behind ?_; repeat (first | with_reducible assumption | with_reducible exact Below.refl _ _ | with_reducible refine Below.drew ?_ | with_reducible refine below_drewN ?_ _ | with_reducible refine bw_alloc ?_ _ | (with_reducible refine bw_set ?_ ?_ _; focus (dsimp only; omega)) | (with_reducible apply bw_behind; with_reducible assumption))))); rintro _ w11 ⟨rfl, hb11⟩; have hr11 := below_reads hb11; have hh11 := below_holds hb11; obtain ⟨m11, hs11⟩ := below_grew hb11) | (go_at_call 11; (with_reducible refine (Co.out _ ?_).mono ?_); (refine hT.behind ?_; repeat (first | with_reducible assumption | with_reducible exact Below.refl _ _ | with_reducible refine Below.drew ?_ | with_reducible refine below_drewN ?_ _ | with_reducible refine bw_alloc ?_ _ | (with_reducible refine bw_set ?_ ?_ _; focus (dsimp only; omega)) | (with_reducible apply bw_behind; with_reducible assumption))); rintro _ w12 ⟨rfl, hb12⟩; have hr12 := below_reads hb12; have hh12 := below_holds hb12; obtain ⟨m12, hs12⟩ := below_grew hb12))
    go_ret
    refine ⟨rfl, ?_⟩
    repeat (first | with_reducible assumption | with_reducible exact Below.refl _ _ | with_reducible refine Below.drew ?_ | with_reducible refine below_drewN ?_ _ | with_reducible refine bw_alloc ?_ _ | (with_reducible refine bw_set ?_ ?_ _; focus (dsimp only; omega)) | (with_reducible apply bw_behind; with_reducible assumption))

set_option maxRecDepth 100000 in
set_option maxHeartbeats 16000000 in
theorem way_far_eq (b0 b1 b2 b3 b4 b5 b6 b7 b8 b9 b10 b11 f0 f1 f2 f3 f4 f5 f6 f7 f8 f9 f10 f11 g0 g1 g2 g3 g4 g5 g6 g7 g8 g9 g10 g11 : Bool) (F XF A0 A1 I K VK Z AI VI WV FF FA was GG GA now : Int) (o : Nat) (M M2 : Nat → Nat → BitVec 64) (sa : Option Addr) (cap : Nat) (l : List LayD) (c1 : ∀ g cp W, Tab W → Row W g (cells2 (l.take 40) ++ [.int .i64 0, .int .i64 0, .bool true, .bool false, .bool false, .bool false, .bool false, .bool false, .bool false, .bool false, .bool false, .bool false, .bool false, .bool false, .int .u64 1, .int .i64 1, .int .i64 0, .bool true, .bool false, .bool false, .bool false, .bool false, .bool false, .bool false, .bool false, .bool false, .bool false, .bool false, .bool false, .int .u64 2]) → Calls Tryd.prog 8 #[.slice (some ⟨g, 0, none⟩) ((l.take 40).length + 2) cp] W (fun e W' => ∃ R N sa na ca sb nb cb, e = .returned (.tuple #[.pointer (some ⟨R, 0, none⟩), .agg #[.int .i64 8, .slice sa na ca, .slice sb nb cb, .slice none 0 0]]) ∧ MemW W' R N 8 M ∧ Below W.heap.size W W' ∧ W.heap.size ≤ R ∧ W.heap.size ≤ N)) (c2 : ∀ R N W, Tab W → MemW W R N 8 M → Calls Tryd.prog 9 #[.pointer (some ⟨R, 0, none⟩), .int .u64 0, .int .u64 VK] W (Makes (.tuple #[.agg #[.bool f0, .bool f1, .bool f2, .bool f3, .bool f4, .bool f5, .bool f6, .bool f7, .bool f8, .bool f9, .bool f10, .bool f11, .int .u64 FF, .int .u64 FA], .int .i64 was]) W)) (cw : ∀ W, Tab W → Calls Tryd.prog 20 #[.agg #[.bool b0, .bool b1, .bool b2, .bool b3, .bool b4, .bool b5, .bool b6, .bool b7, .bool b8, .bool b9, .bool b10, .bool b11, .int .u64 F]] W (Makes (.int .u64 WV) W)) (cs : ∀ R N W, MemW W R N 8 M → Calls Tryd.prog 19 #[.pointer (some ⟨R, 0, none⟩), .int .u64 AI, .int .i64 8, .int .u64 WV] W fun e w' => e = .returned (.int .i64 0) ∧ MemW w' R N 8 M2 ∧ Out N o W w') (c3 : ∀ R N W, Tab W → MemW W R N 8 M2 → Calls Tryd.prog 9 #[.pointer (some ⟨R, 0, none⟩), .int .u64 0, .int .u64 VK] W (Makes (.tuple #[.agg #[.bool g0, .bool g1, .bool g2, .bool g3, .bool g4, .bool g5, .bool g6, .bool g7, .bool g8, .bool g9, .bool g10, .bool g11, .int .u64 GG, .int .u64 GA], .int .i64 now]) W)) (c4 : ∀ R N W, Tab W → MemW W R N 8 M2 → Calls Tryd.prog 9 #[.pointer (some ⟨R, 0, none⟩), .int .u64 0, .int .u64 VI] W (Makes (.tuple #[.agg #[.bool false, .bool false, .bool false, .bool false, .bool false, .bool false, .bool false, .bool false, .bool false, .bool false, .bool false, .bool false, .int .u64 0, .int .u64 0], .int .i64 1]) W)) (c5 : ∀ W, Tab W → Calls Tryd.prog 21 #[.int .u64 WV] W (Makes (.agg #[.bool b0, .bool b1, .bool b2, .bool b3, .bool b4, .bool b5, .bool b6, .bool b7, .bool b8, .bool b9, .bool b10, .bool b11, .int .u64 XF]) W)) (c6 : ∀ W, Calls Tryd.prog 22 #[.agg #[.bool b0, .bool b1, .bool b2, .bool b3, .bool b4, .bool b5, .bool b6, .bool b7, .bool b8, .bool b9, .bool b10, .bool b11, .int .u64 XF]] W (Makes (.bool true) W)) (c7 : ∀ W, Tab W → Calls Tryd.prog 18 #[.agg #[.bool b0, .bool b1, .bool b2, .bool b3, .bool b4, .bool b5, .bool b6, .bool b7, .bool b8, .bool b9, .bool b10, .bool b11, .int .u64 XF]] W (Makes (.bool true) W)) (co : ∀ W, Tab W → Calls Tryd.prog 11 #[] W (Makes (.bool true) W)) (k0 : bits .and .i64 A0 511 = I) (k1 : bits .and .i64 A1 511 = K) (u0 : IntKind.u64.wrap I = I) (u1 : IntKind.u64.wrap K = K) (u2 : IntKind.u64.wrap (K * 4096) = VK) (u3 : IntKind.u64.wrap (8 * I) = Z) (u4 : IntKind.u64.wrap (8192 + Z) = AI) (u5 : IntKind.u64.wrap (I * 4096) = VI) (hd : (I != K) = false) (hx : decide (XF < 8) = false) (w : World) (hT : Tab w) (hl : ∀ k d, l[k]? = some d → ∃ b off, sa = some ⟨b, off, none⟩ ∧ ∀ j v, d.cells[j]? = some v → w.cell? ⟨b, off + k * 15 + j, none⟩ = some v) :
    Calls Tryd.prog 6 #[.slice sa l.length cap, .agg #[.int .i64 A0, .int .i64 A1], .agg #[.bool b0, .bool b1, .bool b2, .bool b3, .bool b4, .bool b5, .bool b6, .bool b7, .bool b8, .bool b9, .bool b10, .bool b11, .int .u64 F]] w (Makes (.bool true) w) := by
  have SS := cell_same
  have LB' := ltB_add
  have LS := ltB_self
  have LA' := alloc_reads
  have LH := alloc_holds
  have HL := hide hl
  have Co := hide co
  have Cc1 := hide c1
  have Cc2 := hide c2
  have Ccw := hide cw
  have Ccs := hide cs
  have Cc3 := hide c3
  have Cc4 := hide c4
  have Cc5 := hide c5
  have Cc6 := hide c6
  have Cc7 := hide c7
  clear c2 cw cs c3 c4 c5 c6 c7
  clear hl co c1
  obtain ⟨iL, hiL, hiL0, hiL1, hiL2⟩ := info_parts info_lay
  go_enter Tryd.func6, Tryd.ntmps6
  go_upto_region 2 with fail
  refine wp_abs (fun W => Below w.heap.size w W ∧ Row W (w.heap.size + 1 + 1) [.int .i64 0, .int .i64 0, .bool true, .bool false, .bool false, .bool false, .bool false, .bool false, .bool false, .bool false, .bool false, .bool false, .bool false, .bool false, .int .u64 1, .int .i64 1, .int .i64 0, .bool true, .bool false, .bool false, .bool false, .bool false, .bool false, .bool false, .bool false, .bool false, .bool false, .bool false, .bool false, .int .u64 2] ∧ w.heap.size + 1 + 1 < W.heap.size ∧ W.cell? ⟨w.heap.size, 0, none⟩ = some (.int .i64 A0) ∧ W.cell? ⟨w.heap.size, 1, none⟩ = some (.int .i64 A1) ∧ W.cell? ⟨w.heap.size + 1, 0, none⟩ = some (.bool b0) ∧ W.cell? ⟨w.heap.size + 1, 1, none⟩ = some (.bool b1) ∧ W.cell? ⟨w.heap.size + 1, 2, none⟩ = some (.bool b2) ∧ W.cell? ⟨w.heap.size + 1, 3, none⟩ = some (.bool b3) ∧ W.cell? ⟨w.heap.size + 1, 4, none⟩ = some (.bool b4) ∧ W.cell? ⟨w.heap.size + 1, 5, none⟩ = some (.bool b5) ∧ W.cell? ⟨w.heap.size + 1, 6, none⟩ = some (.bool b6) ∧ W.cell? ⟨w.heap.size + 1, 7, none⟩ = some (.bool b7) ∧ W.cell? ⟨w.heap.size + 1, 8, none⟩ = some (.bool b8) ∧ W.cell? ⟨w.heap.size + 1, 9, none⟩ = some (.bool b9) ∧ W.cell? ⟨w.heap.size + 1, 10, none⟩ = some (.bool b10) ∧ W.cell? ⟨w.heap.size + 1, 11, none⟩ = some (.bool b11) ∧ W.cell? ⟨w.heap.size + 1, 12, none⟩ = some (.int .u64 F)) ?_ ?_
  · refine ⟨?_, ?_, ?_, ?_, ?_, ?_, ?_, ?_, ?_, ?_, ?_, ?_, ?_, ?_, ?_, ?_, ?_, ?_⟩
    · repeat (first | with_reducible assumption | with_reducible exact Below.refl _ _ | with_reducible refine Below.drew ?_ | with_reducible refine below_drewN ?_ _ | with_reducible refine bw_alloc ?_ _ | (with_reducible refine bw_set ?_ ?_ _; focus (dsimp only; omega)) | (with_reducible apply bw_behind; with_reducible assumption))
    · repeat (first | with_reducible assumption | with_reducible refine k_dr _ ?_ | with_reducible refine k_d1 ?_ | exact row_new (by simp) rfl | with_reducible refine k_al _ ?_ | (with_reducible refine k_set ?_ ?_; focus (dsimp only; omega)) | (with_reducible apply k_be; with_reducible assumption))
    · simp
    all_goals (first | with_reducible assumption | ((repeat (first | with_reducible assumption | with_reducible refine c_dr _ ?_ | with_reducible refine c_d1 ?_ | with_reducible refine c_al _ ?_ | (with_reducible refine c_set ?_ ?_; focus (dsimp only; omega)) | (with_reducible apply c_be; with_reducible assumption))); done) | ((repeat (first | with_reducible assumption | with_reducible refine o_dr _ ?_ | with_reducible refine o_d1 ?_ | with_reducible refine o_set ?_ | (with_reducible refine o_new ?_ ?_; (focus (simp)); (focus (simp))) | with_reducible refine o_al _ ?_ | (with_reducible apply o_be; with_reducible assumption))); done) | ((repeat (first | with_reducible assumption | with_reducible exact Below.refl _ _ | with_reducible refine Below.drew ?_ | with_reducible refine below_drewN ?_ _ | with_reducible refine bw_alloc ?_ _ | (with_reducible refine bw_set ?_ ?_ _; focus (dsimp only; omega)) | (with_reducible apply bw_behind; with_reducible assumption))); done) | (simp [go_sem, *]; omega) | (simp (maxDischargeDepth := 4) [go_sem, *]; done))
  rintro w0 ⟨hB0, hRow0, hs0, z0, z1, z2, z3, z4, z5, z6, z7, z8, z9, z10, z11, z12, z13, z14⟩
  have HR0 := hide hRow0
  clear hRow0
  go_upto_block 0 with fail
  go_cut [8] (fun s8 wx => Hid (wx.ownsRow w0.heap.size 54 15 s8 (l.take 40).length (cells2 (l.take 40))) ∧ Below w0.heap.size w0 wx)
  case first =>
    go_wp2_with fail
    go_loopw [8, 9] (fun s i wr => ∃ k : Nat, k ≤ l.length ∧ k ≤ 40 ∧ i = .int .i64 (k : Int) ∧ Hid (wr.ownsRow w0.heap.size 54 15 s k (cells2 (l.take k))) ∧ Below w0.heap.size w0 wr) (fun _ i _ => 40 - (intOf i).toNat)
    case atStart => exact ⟨0, by omega, by omega, rfl, hide (World.ownsRow_nil _ _ _ _), Below.refl _ _⟩
    case round s =>
      obtain ⟨k, hk, hk40, rfl, HO, hB⟩ := hrel
      have hsz := hB.size
      by_cases hlt : k < l.length ∧ k < 40
      · obtain ⟨hk1, hk2⟩ := hlt
        obtain ⟨d, hd⟩ : ∃ d, l[k]? = some d := ⟨_, List.getElem?_eq_getElem hk1⟩
        obtain ⟨b, off, rfl, hcell⟩ := HL.out k d hd
        have y0 : wr.cell? ⟨b, off + k * 15, none⟩ = some (.int .i64 d.f) := c_be hB (c_be hB0 (hcell 0 _ rfl))
        have y1 := c_be hB (c_be hB0 (hcell 1 _ rfl))
        have y2 := c_be hB (c_be hB0 (hcell 2 _ rfl))
        have y3 := c_be hB (c_be hB0 (hcell 3 _ rfl))
        have y4 := c_be hB (c_be hB0 (hcell 4 _ rfl))
        have y5 := c_be hB (c_be hB0 (hcell 5 _ rfl))
        have y6 := c_be hB (c_be hB0 (hcell 6 _ rfl))
        have y7 := c_be hB (c_be hB0 (hcell 7 _ rfl))
        have y8 := c_be hB (c_be hB0 (hcell 8 _ rfl))
        have y9 := c_be hB (c_be hB0 (hcell 9 _ rfl))
        have y10 := c_be hB (c_be hB0 (hcell 10 _ rfl))
        have y11 := c_be hB (c_be hB0 (hcell 11 _ rfl))
        have y12 := c_be hB (c_be hB0 (hcell 12 _ rfl))
        have y13 := c_be hB (c_be hB0 (hcell 13 _ rfl))
        have y14 := c_be hB (c_be hB0 (hcell 14 _ rfl))
        have HH : Hid (cells2 (l.take (k + 1)) = cells2 (l.take k) ++ [.int .i64 2, .int .i64 d.i, .bool d.b0, .bool d.b1, .bool d.b2, .bool d.b3, .bool d.b4, .bool d.b5, .bool d.b6, .bool d.b7, .bool d.b8, .bool d.b9, .bool d.b10, .bool d.b11, .int .u64 (d.F.toNat : Int)]) := hide (by rw [List.take_add_one, hd]; exact cells2_add _ d)
        have g1 : (k : Int) < (l.length : Int) := by omega
        have g2 : (k : Int) < 40 := by omega
        have g3 : (0 : Int) ≤ (k : Int) := by omega
        clear hcell
        generalize d.f = DF0 at *
        generalize d.i = DI at *
        generalize d.b0 = a0 at *
        generalize d.b1 = a1 at *
        generalize d.b2 = a2 at *
        generalize d.b3 = a3 at *
        generalize d.b4 = a4 at *
        generalize d.b5 = a5 at *
        generalize d.b6 = a6 at *
        generalize d.b7 = a7 at *
        generalize d.b8 = a8 at *
        generalize d.b9 = a9 at *
        generalize d.b10 = a10 at *
        generalize d.b11 = a11 at *
        generalize (d.F.toNat : Int) = DF at *
        clear HL z0 z1 z2 z3 z4 z5 z6 z7 z8 z9 z10 z11 z12 z13 z14
        go_wp2_with (at_builtin; refine wpList_append_own _ rfl _ _ 22 rfl w0.heap.size 54 iL (.agg #[.int .i64 0, .int .i64 0, .bool false, .bool false, .bool false, .bool false, .bool false, .bool false, .bool false, .bool false, .bool false, .bool false, .bool false, .bool false, .int .u64 0]) 15 40 Tryd.underlying22 hiL hiL0 hiL1 hiL2 rfl (by decide) _ _ _ rfl (owns_be (by repeat (first | with_reducible assumption | with_reducible exact Below.refl _ _ | with_reducible refine Below.drew ?_ | with_reducible refine below_drewN ?_ _ | with_reducible refine bw_alloc ?_ _ | (with_reducible refine bw_set ?_ ?_ _; focus (dsimp only; omega)) | (with_reducible apply bw_behind; with_reducible assumption))) HO.out) _ 1 1 [.int .i64 2, .int .i64 DI, .bool a0, .bool a1, .bool a2, .bool a3, .bool a4, .bool a5, .bool a6, .bool a7, .bool a8, .bool a9, .bool a10, .bool a11, .int .u64 DF] rfl rfl (row_one (by repeat (first | with_reducible assumption | with_reducible refine k_dr _ ?_ | with_reducible refine k_d1 ?_ | exact row_new (by simp) rfl | with_reducible refine k_al _ ?_ | (with_reducible refine k_set ?_ ?_; focus (dsimp only; omega)) | (with_reducible apply k_be; with_reducible assumption))) rfl) (by simp [Value.oneCell']) (by unfold maxLen; omega) (by omega) (by first | omega | (simp; omega)) ?_; intro v3 w3 hown3 hgrow3 _)
        go_roundw
        case rel =>
          refine ⟨k + 1, by omega, by omega, by go_num, ?_, ?_⟩
          · rw [HH.out]
            exact hide hown3
          · refine Below.grown ?_ hgrow3 (by simp; omega) (fun j ej => own_base HO.out j ej.symm)
            repeat (first | with_reducible assumption | with_reducible exact Below.refl _ _ | with_reducible refine Below.drew ?_ | with_reducible refine below_drewN ?_ _ | with_reducible refine bw_alloc ?_ _ | (with_reducible refine bw_set ?_ ?_ _; focus (dsimp only; omega)) | (with_reducible apply bw_behind; with_reducible assumption))
        case measure => simp [intOf]; omega
      · have ht : l.take 40 = l.take k := by
          rcases Nat.lt_or_ge k 40 with h | h
          · rw [List.take_of_length_le (by omega), List.take_of_length_le (by omega)]
          · rw [show k = 40 by omega]
        have hlen : (l.take k).length = k := by rw [List.length_take]; omega
        have HTK := hide ht
        have HLE := hide hlen
        clear ht hlen HL Cc1 z0 z1 z2 z3 z4 z5 z6 z7 z8 z9 z10 z11 z12 z13 z14
        rcases Nat.lt_or_ge k l.length with h | h
        · have g1 : (k : Int) < (l.length : Int) := by omega
          have g2 : ¬ ((k : Int) < 40) := by omega
          go_wp2_with fail
          go_meet
          refine ⟨?_, hB⟩
          rw [HTK.out, HLE.out]
          exact HO
        · have g1 : ¬ ((k : Int) < (l.length : Int)) := by omega
          go_wp2_with fail
          go_meet
          refine ⟨?_, hB⟩
          rw [HTK.out, HLE.out]
          exact HO
  case rest =>
    obtain ⟨HO, hBc⟩ := hcut
    have hn40 : (l.take 40).length ≤ 40 := by rw [List.length_take]; omega
    have HRc : Hid (Row wc (w.heap.size + 1 + 1) [.int .i64 0, .int .i64 0, .bool true, .bool false, .bool false, .bool false, .bool false, .bool false, .bool false, .bool false, .bool false, .bool false, .bool false, .bool false, .int .u64 1, .int .i64 1, .int .i64 0, .bool true, .bool false, .bool false, .bool false, .bool false, .bool false, .bool false, .bool false, .bool false, .bool false, .bool false, .bool false, .int .u64 2]) := hide (k_be hBc HR0.out)
    have hsc := hBc.size
    clear HL HR0
    generalize (l.take 40).length = n at *
    generalize cells2 (l.take 40) = XS at *
    go_upto_region 10 with (at_builtin; refine wpList_append_own _ rfl _ _ 22 rfl w0.heap.size 54 iL (.agg #[.int .i64 0, .int .i64 0, .bool false, .bool false, .bool false, .bool false, .bool false, .bool false, .bool false, .bool false, .bool false, .bool false, .bool false, .bool false, .int .u64 0]) 15 40 Tryd.underlying22 hiL hiL0 hiL1 hiL2 rfl (by decide) _ _ _ rfl HO.out _ 2 2 [.int .i64 0, .int .i64 0, .bool true, .bool false, .bool false, .bool false, .bool false, .bool false, .bool false, .bool false, .bool false, .bool false, .bool false, .bool false, .int .u64 1, .int .i64 1, .int .i64 0, .bool true, .bool false, .bool false, .bool false, .bool false, .bool false, .bool false, .bool false, .bool false, .bool false, .bool false, .bool false, .int .u64 2] rfl rfl (row_one (k_be (by repeat (first | with_reducible assumption | with_reducible exact Below.refl _ _ | with_reducible refine Below.drew ?_ | with_reducible refine below_drewN ?_ _ | with_reducible refine bw_alloc ?_ _ | (with_reducible refine bw_set ?_ ?_ _; focus (dsimp only; omega)) | (with_reducible apply bw_behind; with_reducible assumption))) HRc.out) rfl) (by simp [Value.oneCell']) (by unfold maxLen; omega) (by omega) (by first | omega | (simp; omega)) ?_; intro v3 w3 hown3 hgrow3 _)
    obtain ⟨g, cp, hv3⟩ := ownsRow_succ hown3
    have hv3 : v3 = .slice (some ⟨g, 0, none⟩) (n + 2) cp := hv3
    subst hv3
    have hB3 : Below w0.heap.size w0 w3 := by
      refine Below.grown ?_ hgrow3 (by first | omega | (simp; omega)) (fun j ej => own_base HO.out j ej.symm)
      repeat (first | with_reducible assumption | with_reducible exact Below.refl _ _ | with_reducible refine Below.drew ?_ | with_reducible refine below_drewN ?_ _ | with_reducible refine bw_alloc ?_ _ | (with_reducible refine bw_set ?_ ?_ _; focus (dsimp only; omega)) | (with_reducible apply bw_behind; with_reducible assumption))
    have HX : Hid (Row w3 g (XS ++ [.int .i64 0, .int .i64 0, .bool true, .bool false, .bool false, .bool false, .bool false, .bool false, .bool false, .bool false, .bool false, .bool false, .bool false, .bool false, .int .u64 1, .int .i64 1, .int .i64 0, .bool true, .bool false, .bool false, .bool false, .bool false, .bool false, .bool false, .bool false, .bool false, .bool false, .bool false, .bool false, .int .u64 2])) := hide (fun j u hj => by have := hown3.cells (g := g) rfl j u hj; rwa [add_at] at this)
    refine wp_abs (fun W => Below w.heap.size w W ∧ Hid (Row W g (XS ++ [.int .i64 0, .int .i64 0, .bool true, .bool false, .bool false, .bool false, .bool false, .bool false, .bool false, .bool false, .bool false, .bool false, .bool false, .bool false, .int .u64 1, .int .i64 1, .int .i64 0, .bool true, .bool false, .bool false, .bool false, .bool false, .bool false, .bool false, .bool false, .bool false, .bool false, .bool false, .bool false, .int .u64 2])) ∧ W.cell? ⟨w.heap.size, 0, none⟩ = some (.int .i64 A0) ∧ W.cell? ⟨w.heap.size, 1, none⟩ = some (.int .i64 A1) ∧ W.cell? ⟨w.heap.size + 1, 0, none⟩ = some (.bool b0) ∧ W.cell? ⟨w.heap.size + 1, 1, none⟩ = some (.bool b1) ∧ W.cell? ⟨w.heap.size + 1, 2, none⟩ = some (.bool b2) ∧ W.cell? ⟨w.heap.size + 1, 3, none⟩ = some (.bool b3) ∧ W.cell? ⟨w.heap.size + 1, 4, none⟩ = some (.bool b4) ∧ W.cell? ⟨w.heap.size + 1, 5, none⟩ = some (.bool b5) ∧ W.cell? ⟨w.heap.size + 1, 6, none⟩ = some (.bool b6) ∧ W.cell? ⟨w.heap.size + 1, 7, none⟩ = some (.bool b7) ∧ W.cell? ⟨w.heap.size + 1, 8, none⟩ = some (.bool b8) ∧ W.cell? ⟨w.heap.size + 1, 9, none⟩ = some (.bool b9) ∧ W.cell? ⟨w.heap.size + 1, 10, none⟩ = some (.bool b10) ∧ W.cell? ⟨w.heap.size + 1, 11, none⟩ = some (.bool b11) ∧ W.cell? ⟨w.heap.size + 1, 12, none⟩ = some (.int .u64 F)) ?_ ?_
    · refine ⟨hB0.trans (hB3.mono hB0.size), HX, ?_, ?_, ?_, ?_, ?_, ?_, ?_, ?_, ?_, ?_, ?_, ?_, ?_, ?_, ?_⟩
      all_goals exact c_be hB3 (by assumption)
    clear HX HO hown3 hgrow3 hB3 hBc HRc hsc z0 z1 z2 z3 z4 z5 z6 z7 z8 z9 z10 z11 z12 z13 z14
    clear hB0 hs0 iL hiL hiL0 hiL1 hiL2
    rintro w1 ⟨hB1, HX, z0, z1, z2, z3, z4, z5, z6, z7, z8, z9, z10, z11, z12, z13, z14⟩
    have qa : ltB w.heap.size w1.heap.size = true := decide_eq_true (World.block_lt_of_cell? w1 _ z0)
    have qe : ltB (w.heap.size + 1) w1.heap.size = true := decide_eq_true (World.block_lt_of_cell? w1 _ z2)
    clear w3 w0
    go_upto_region 11 with (first | (go_at_call 8; (with_reducible refine (Cc1.out _ _ _ ?_ ?_).mono ?_); (refine hT.behind ?_; repeat (first | with_reducible assumption | with_reducible exact Below.refl _ _ | with_reducible refine Below.drew ?_ | with_reducible refine below_drewN ?_ _ | with_reducible refine bw_alloc ?_ _ | (with_reducible refine bw_set ?_ ?_ _; focus (dsimp only; omega)) | (with_reducible apply bw_behind; with_reducible assumption))); (focus (repeat (first | with_reducible exact HX.out | with_reducible refine k_dr _ ?_ | with_reducible refine k_d1 ?_ | with_reducible refine k_al _ ?_))); rintro _ w2 ⟨R1, N1, sa1, na1, ca1, sb1, nb1, cb1, rfl, hM2, hb2, hR1, hN1⟩; have hr2 := below_reads hb2; have hh2 := below_holds hb2; obtain ⟨m2, hs2⟩ := below_grew hb2))
    go_quiet (fail)
    go_upto_region 13 with (first | (go_at_call 9; (first | ((with_reducible refine (Cc2.out _ N1 _ ?_ ?_).mono ?_); (refine hT.behind ?_; repeat (first | with_reducible assumption | with_reducible exact Below.refl _ _ | with_reducible refine Below.drew ?_ | with_reducible refine below_drewN ?_ _ | with_reducible refine bw_alloc ?_ _ | (with_reducible refine bw_set ?_ ?_ _; focus (dsimp only; omega)) | (with_reducible apply bw_behind; with_reducible assumption))); (focus (repeat (first | with_reducible assumption | with_reducible refine mw_dr _ ?_ | with_reducible refine mw_d1 ?_ | with_reducible refine mw_al _ ?_ | (with_reducible apply mw_be; with_reducible assumption)))))); rintro _ w3 ⟨rfl, hb3⟩; have hr3 := below_reads hb3; have hh3 := below_holds hb3; obtain ⟨m3, hs3⟩ := below_grew hb3))
    have hNl : N1 < w2.heap.size := by
      obtain ⟨B, S, hm, _⟩ := hM2
      exact (hm.page 0 (by omega)).here
    refine wp_abs (fun W => MemW W R1 N1 8 M ∧ Below w.heap.size w W ∧ W.cell? ⟨w.heap.size + 1, 0, none⟩ = some (.bool b0) ∧ W.cell? ⟨w.heap.size + 1, 1, none⟩ = some (.bool b1) ∧ W.cell? ⟨w.heap.size + 1, 2, none⟩ = some (.bool b2) ∧ W.cell? ⟨w.heap.size + 1, 3, none⟩ = some (.bool b3) ∧ W.cell? ⟨w.heap.size + 1, 4, none⟩ = some (.bool b4) ∧ W.cell? ⟨w.heap.size + 1, 5, none⟩ = some (.bool b5) ∧ W.cell? ⟨w.heap.size + 1, 6, none⟩ = some (.bool b6) ∧ W.cell? ⟨w.heap.size + 1, 7, none⟩ = some (.bool b7) ∧ W.cell? ⟨w.heap.size + 1, 8, none⟩ = some (.bool b8) ∧ W.cell? ⟨w.heap.size + 1, 9, none⟩ = some (.bool b9) ∧ W.cell? ⟨w.heap.size + 1, 10, none⟩ = some (.bool b10) ∧ W.cell? ⟨w.heap.size + 1, 11, none⟩ = some (.bool b11) ∧ W.cell? ⟨w.heap.size + 1, 12, none⟩ = some (.int .u64 F) ∧ W.cell? ⟨w1.heap.size + m2 + 1 + m3, 0, none⟩ = some (.bool f0) ∧ W.cell? ⟨w1.heap.size + m2 + 1 + m3, 1, none⟩ = some (.bool f1) ∧ W.cell? ⟨w1.heap.size + m2 + 1 + m3, 2, none⟩ = some (.bool f2) ∧ W.cell? ⟨w1.heap.size + m2 + 1 + m3, 3, none⟩ = some (.bool f3) ∧ W.cell? ⟨w1.heap.size + m2 + 1 + m3, 4, none⟩ = some (.bool f4) ∧ W.cell? ⟨w1.heap.size + m2 + 1 + m3, 5, none⟩ = some (.bool f5) ∧ W.cell? ⟨w1.heap.size + m2 + 1 + m3, 6, none⟩ = some (.bool f6) ∧ W.cell? ⟨w1.heap.size + m2 + 1 + m3, 7, none⟩ = some (.bool f7) ∧ W.cell? ⟨w1.heap.size + m2 + 1 + m3, 8, none⟩ = some (.bool f8) ∧ W.cell? ⟨w1.heap.size + m2 + 1 + m3, 9, none⟩ = some (.bool f9) ∧ W.cell? ⟨w1.heap.size + m2 + 1 + m3, 10, none⟩ = some (.bool f10) ∧ W.cell? ⟨w1.heap.size + m2 + 1 + m3, 11, none⟩ = some (.bool f11) ∧ W.cell? ⟨w1.heap.size + m2 + 1 + m3, 12, none⟩ = some (.int .u64 FF) ∧ W.cell? ⟨w1.heap.size + m2 + 1 + m3, 13, none⟩ = some (.int .u64 FA)) ?_ ?_
    · refine ⟨?_, ?_, ?_, ?_, ?_, ?_, ?_, ?_, ?_, ?_, ?_, ?_, ?_, ?_, ?_, ?_, ?_, ?_, ?_, ?_, ?_, ?_, ?_, ?_, ?_, ?_, ?_, ?_, ?_⟩
      · repeat (first | with_reducible assumption | with_reducible refine mw_dr _ ?_ | with_reducible refine mw_d1 ?_ | with_reducible refine mw_al _ ?_ | (with_reducible apply mw_be; with_reducible assumption))
      all_goals (first | with_reducible assumption | ((repeat (first | with_reducible assumption | with_reducible refine c_dr _ ?_ | with_reducible refine c_d1 ?_ | with_reducible refine c_al _ ?_ | (with_reducible refine c_set ?_ ?_; focus (dsimp only; omega)) | (with_reducible apply c_be; with_reducible assumption))); done) | ((repeat (first | with_reducible assumption | with_reducible refine o_dr _ ?_ | with_reducible refine o_d1 ?_ | with_reducible refine o_set ?_ | (with_reducible refine o_new ?_ ?_; (focus (simp)); (focus (simp))) | with_reducible refine o_al _ ?_ | (with_reducible apply o_be; with_reducible assumption))); done) | ((repeat (first | with_reducible assumption | with_reducible exact Below.refl _ _ | with_reducible refine Below.drew ?_ | with_reducible refine below_drewN ?_ _ | with_reducible refine bw_alloc ?_ _ | (with_reducible refine bw_set ?_ ?_ _; focus (dsimp only; omega)) | (with_reducible apply bw_behind; with_reducible assumption))); done) | (simp [go_sem, *]; omega) | (simp (maxDischargeDepth := 4) [go_sem, *]; done))
    have hNh : w.heap.size + 1 < N1 := by have := of_decide_eq_true qe; omega
    have hNf : N1 < w1.heap.size + m2 + 1 + m3 := by omega
    clear qa qe hM2 hb2 hr2 hh2 hs2 hR1 hN1 hb3 hr3 hh3 hs3 hNl z2 z3 z4 z5 z6 z7 z8 z9 z10 z11 z12 z13 z14 z0 z1
    clear HX hB1
    rintro wf ⟨hMf, hBf, e0, e1, e2, e3, e4, e5, e6, e7, e8, e9, e10, e11, e12, x0, x1, x2, x3, x4, x5, x6, x7, x8, x9, x10, x11, x12, x13⟩
    have qe : ltB (w.heap.size + 1) wf.heap.size = true := decide_eq_true (World.block_lt_of_cell? wf _ e0)
    have qf : ltB (w1.heap.size + m2 + 1 + m3) wf.heap.size = true := decide_eq_true (World.block_lt_of_cell? wf _ x0)
    generalize w1.heap.size + m2 + 1 + m3 = fb at *
    clear w3 w2
    go_upto_region 14 with (first | (go_at_call 20; (first | ((with_reducible refine (Ccw.out _ ?_).mono ?_); (refine hT.behind ?_; repeat (first | with_reducible assumption | with_reducible exact Below.refl _ _ | with_reducible refine Below.drew ?_ | with_reducible refine below_drewN ?_ _ | with_reducible refine bw_alloc ?_ _ | (with_reducible refine bw_set ?_ ?_ _; focus (dsimp only; omega)) | (with_reducible apply bw_behind; with_reducible assumption))))); rintro _ w4 ⟨rfl, hb4⟩; have hr4 := below_reads hb4; have hh4 := below_holds hb4; obtain ⟨m4, hs4⟩ := below_grew hb4) | (go_at_call 19; (with_reducible refine (Ccs.out _ N1 _ ?_).mono ?_); (focus (repeat (first | with_reducible assumption | with_reducible refine mw_dr _ ?_ | with_reducible refine mw_d1 ?_ | with_reducible refine mw_al _ ?_ | (with_reducible apply mw_be; with_reducible assumption)))); rintro _ w5 ⟨rfl, hM5, ho5⟩))
    refine wp_abs (fun W => MemW W R1 N1 8 M2 ∧ Below w.heap.size w W ∧ W.cell? ⟨w.heap.size + 1, 0, none⟩ = some (.bool b0) ∧ W.cell? ⟨w.heap.size + 1, 1, none⟩ = some (.bool b1) ∧ W.cell? ⟨w.heap.size + 1, 2, none⟩ = some (.bool b2) ∧ W.cell? ⟨w.heap.size + 1, 3, none⟩ = some (.bool b3) ∧ W.cell? ⟨w.heap.size + 1, 4, none⟩ = some (.bool b4) ∧ W.cell? ⟨w.heap.size + 1, 5, none⟩ = some (.bool b5) ∧ W.cell? ⟨w.heap.size + 1, 6, none⟩ = some (.bool b6) ∧ W.cell? ⟨w.heap.size + 1, 7, none⟩ = some (.bool b7) ∧ W.cell? ⟨w.heap.size + 1, 8, none⟩ = some (.bool b8) ∧ W.cell? ⟨w.heap.size + 1, 9, none⟩ = some (.bool b9) ∧ W.cell? ⟨w.heap.size + 1, 10, none⟩ = some (.bool b10) ∧ W.cell? ⟨w.heap.size + 1, 11, none⟩ = some (.bool b11) ∧ W.cell? ⟨w.heap.size + 1, 12, none⟩ = some (.int .u64 F) ∧ W.cell? ⟨fb, 0, none⟩ = some (.bool f0) ∧ W.cell? ⟨fb, 1, none⟩ = some (.bool f1) ∧ W.cell? ⟨fb, 2, none⟩ = some (.bool f2) ∧ W.cell? ⟨fb, 3, none⟩ = some (.bool f3) ∧ W.cell? ⟨fb, 4, none⟩ = some (.bool f4) ∧ W.cell? ⟨fb, 5, none⟩ = some (.bool f5) ∧ W.cell? ⟨fb, 6, none⟩ = some (.bool f6) ∧ W.cell? ⟨fb, 7, none⟩ = some (.bool f7) ∧ W.cell? ⟨fb, 8, none⟩ = some (.bool f8) ∧ W.cell? ⟨fb, 9, none⟩ = some (.bool f9) ∧ W.cell? ⟨fb, 10, none⟩ = some (.bool f10) ∧ W.cell? ⟨fb, 11, none⟩ = some (.bool f11) ∧ W.cell? ⟨fb, 12, none⟩ = some (.int .u64 FF) ∧ W.cell? ⟨fb, 13, none⟩ = some (.int .u64 FA)) ?_ ?_
    · refine ⟨?_, ?_, ?_, ?_, ?_, ?_, ?_, ?_, ?_, ?_, ?_, ?_, ?_, ?_, ?_, ?_, ?_, ?_, ?_, ?_, ?_, ?_, ?_, ?_, ?_, ?_, ?_, ?_, ?_⟩
      · repeat (first | with_reducible assumption | with_reducible refine mw_dr _ ?_ | with_reducible refine mw_d1 ?_ | with_reducible refine mw_al _ ?_ | (with_reducible apply mw_be; with_reducible assumption))
      · have hf : Below w.heap.size w w4 := by
          repeat (first | with_reducible assumption | with_reducible exact Below.refl _ _ | with_reducible refine Below.drew ?_ | with_reducible refine below_drewN ?_ _ | with_reducible refine bw_alloc ?_ _ | (with_reducible refine bw_set ?_ ?_ _; focus (dsimp only; omega)) | (with_reducible apply bw_behind; with_reducible assumption))
        have hg : Below w.heap.size w w5 := hf.trans (ho5.below (by omega) hf.size)
        clear hf
        repeat (first | with_reducible assumption | with_reducible exact Below.refl _ _ | with_reducible refine Below.drew ?_ | with_reducible refine below_drewN ?_ _ | with_reducible refine bw_alloc ?_ _ | (with_reducible refine bw_set ?_ ?_ _; focus (dsimp only; omega)) | (with_reducible apply bw_behind; with_reducible assumption))
      all_goals first | ((repeat (first | with_reducible assumption | with_reducible refine c_dr _ ?_ | with_reducible refine c_d1 ?_ | with_reducible refine c_al _ ?_ | (with_reducible refine c_set ?_ ?_; focus (dsimp only; omega)) | (with_reducible apply c_be; with_reducible assumption) | (with_reducible refine Out.reads (by with_reducible assumption) ?_ ?_; (focus (dsimp only; omega))))); done) | (first | with_reducible assumption | ((repeat (first | with_reducible assumption | with_reducible refine c_dr _ ?_ | with_reducible refine c_d1 ?_ | with_reducible refine c_al _ ?_ | (with_reducible refine c_set ?_ ?_; focus (dsimp only; omega)) | (with_reducible apply c_be; with_reducible assumption))); done) | ((repeat (first | with_reducible assumption | with_reducible refine o_dr _ ?_ | with_reducible refine o_d1 ?_ | with_reducible refine o_set ?_ | (with_reducible refine o_new ?_ ?_; (focus (simp)); (focus (simp))) | with_reducible refine o_al _ ?_ | (with_reducible apply o_be; with_reducible assumption))); done) | ((repeat (first | with_reducible assumption | with_reducible exact Below.refl _ _ | with_reducible refine Below.drew ?_ | with_reducible refine below_drewN ?_ _ | with_reducible refine bw_alloc ?_ _ | (with_reducible refine bw_set ?_ ?_ _; focus (dsimp only; omega)) | (with_reducible apply bw_behind; with_reducible assumption))); done) | (simp [go_sem, *]; omega) | (simp (maxDischargeDepth := 4) [go_sem, *]; done))
    clear qe qf
    rintro wj ⟨hMj, hBj, d0, d1, d2, d3, d4, d5, d6, d7, d8, d9, d10, d11, d12, y0, y1, y2, y3, y4, y5, y6, y7, y8, y9, y10, y11, y12, y13⟩
    clear hb4 hr4 hh4 hs4 hM5 ho5 hMf hBf e0 e1 e2 e3 e4 e5 e6 e7 e8 e9 e10 e11 e12 x0 x1 x2 x3 x4 x5 x6 x7 x8 x9 x10 x11 x12 x13
    have qe : ltB (w.heap.size + 1) wj.heap.size = true := decide_eq_true (World.block_lt_of_cell? wj _ d0)
    have qf : ltB fb wj.heap.size = true := decide_eq_true (World.block_lt_of_cell? wj _ y0)
    clear w5 w4 wf
    go_wp2_with (first | (go_at_call 9; (first | ((with_reducible refine (Cc3.out _ N1 _ ?_ ?_).mono ?_); (refine hT.behind ?_; repeat (first | with_reducible assumption | with_reducible exact Below.refl _ _ | with_reducible refine Below.drew ?_ | with_reducible refine below_drewN ?_ _ | with_reducible refine bw_alloc ?_ _ | (with_reducible refine bw_set ?_ ?_ _; focus (dsimp only; omega)) | (with_reducible apply bw_behind; with_reducible assumption))); (focus (repeat (first | with_reducible assumption | with_reducible refine mw_dr _ ?_ | with_reducible refine mw_d1 ?_ | with_reducible refine mw_al _ ?_ | (with_reducible apply mw_be; with_reducible assumption)))))); rintro _ w6 ⟨rfl, hb6⟩; have hr6 := below_reads hb6; have hh6 := below_holds hb6; obtain ⟨m6, hs6⟩ := below_grew hb6) | (go_at_call 9; (first | ((with_reducible refine (Cc4.out _ N1 _ ?_ ?_).mono ?_); (refine hT.behind ?_; repeat (first | with_reducible assumption | with_reducible exact Below.refl _ _ | with_reducible refine Below.drew ?_ | with_reducible refine below_drewN ?_ _ | with_reducible refine bw_alloc ?_ _ | (with_reducible refine bw_set ?_ ?_ _; focus (dsimp only; omega)) | (with_reducible apply bw_behind; with_reducible assumption))); (focus (repeat (first | with_reducible assumption | with_reducible refine mw_dr _ ?_ | with_reducible refine mw_d1 ?_ | with_reducible refine mw_al _ ?_ | (with_reducible apply mw_be; with_reducible assumption)))))); rintro _ w7 ⟨rfl, hb7⟩; have hr7 := below_reads hb7; have hh7 := below_holds hb7; obtain ⟨m7, hs7⟩ := below_grew hb7) | (go_at_call 20; (first | ((with_reducible refine (Ccw.out _ ?_).mono ?_); (refine hT.behind ?_; repeat (first | with_reducible assumption | with_reducible exact Below.refl _ _ | with_reducible refine Below.drew ?_ | with_reducible refine below_drewN ?_ _ | with_reducible refine bw_alloc ?_ _ | (with_reducible refine bw_set ?_ ?_ _; focus (dsimp only; omega)) | (with_reducible apply bw_behind; with_reducible assumption))))); rintro _ w8 ⟨rfl, hb8⟩; have hr8 := below_reads hb8; have hh8 := below_holds hb8; obtain ⟨m8, hs8⟩ := below_grew hb8) | (go_at_call 21; (first | ((with_reducible refine (Cc5.out _ ?_).mono ?_); (refine hT.behind ?_; repeat (first | with_reducible assumption | with_reducible exact Below.refl _ _ | with_reducible refine Below.drew ?_ | with_reducible refine below_drewN ?_ _ | with_reducible refine bw_alloc ?_ _ | (with_reducible refine bw_set ?_ ?_ _; focus (dsimp only; omega)) | (with_reducible apply bw_behind; with_reducible assumption))))); rintro _ w9 ⟨rfl, hb9⟩; have hr9 := below_reads hb9; have hh9 := below_holds hb9; obtain ⟨m9, hs9⟩ := below_grew hb9) | (go_at_call 22; (with_reducible first | refine (Cc6.out _).mono ?_); rintro _ w10 ⟨rfl, hb10⟩; have hr10 := below_reads hb10; have hh10 := below_holds hb10; obtain ⟨m10, hs10⟩ := below_grew hb10) | (go_at_call 18; (first | ((with_reducible refine (Cc7.out _ ?_).mono ?_); (refine hT.behind ?_; repeat (first | with_reducible assumption | with_reducible exact Below.refl _ _ | with_reducible refine Below.drew ?_ | with_reducible refine below_drewN ?_ _ | with_reducible refine bw_alloc ?_ _ | (with_reducible refine bw_set ?_ ?_ _; focus (dsimp only; omega)) | (with_reducible apply bw_behind; with_reducible assumption))))); rintro _ w11 ⟨rfl, hb11⟩; have hr11 := below_reads hb11; have hh11 := below_holds hb11; obtain ⟨m11, hs11⟩ := below_grew hb11) | (go_at_call 11; (with_reducible refine (Co.out _ ?_).mono ?_); (refine hT.behind ?_; repeat (first | with_reducible assumption | with_reducible exact Below.refl _ _ | with_reducible refine Below.drew ?_ | with_reducible refine below_drewN ?_ _ | with_reducible refine bw_alloc ?_ _ | (with_reducible refine bw_set ?_ ?_ _; focus (dsimp only; omega)) | (with_reducible apply bw_behind; with_reducible assumption))); rintro _ w12 ⟨rfl, hb12⟩; have hr12 := below_reads hb12; have hh12 := below_holds hb12; obtain ⟨m12, hs12⟩ := below_grew hb12))
    go_ret
    refine ⟨rfl, ?_⟩
    repeat (first | with_reducible assumption | with_reducible exact Below.refl _ _ | with_reducible refine Below.drew ?_ | with_reducible refine below_drewN ?_ _ | with_reducible refine bw_alloc ?_ _ | (with_reducible refine bw_set ?_ ?_ _; focus (dsimp only; omega)) | (with_reducible apply bw_behind; with_reducible assumption))
end Go.Proofs.YtnookalplejneaaDoor.WalkApart
