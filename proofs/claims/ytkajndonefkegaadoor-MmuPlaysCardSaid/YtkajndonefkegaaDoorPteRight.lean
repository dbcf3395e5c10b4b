/-
  What Right answers.
-/
import Derived.Test.YtkajndonefkegaaDoorGPteB
import Derived.Test.YtkajndonefkegaaDoorPteRef
import Derived.Deep.DeepCutAuto
set_option maxRecDepth 100000
set_option maxHeartbeats 64000000
namespace Go.Proofs.YtkajndonefkegaaDoor
open Go.RowKit Words FieldMath PteMath

theorem behind_call {P : Program} {f : FuncId} {args : Array Value} {v : Value} {w0 : World} (c : ∀ W : World, Tab W -> Calls P f args W (Makes v W)) (hT : Tab w0) (y : Behind w0.heap.size w0) :
    Calls P f args y.world fun e w'' => e = .returned v /\ ∃ z : Behind w0.heap.size w0, w'' = z.world :=
  (c _ (hT.behind y.below)).mono fun _ _ ⟨he, hb⟩ => ⟨he, ⟨_, y.below.trans (hb.mono y.below.size)⟩, rfl⟩

theorem ofword_any (b0 b1 b2 b3 b4 b5 b6 b7 b8 b9 b10 b11 : Bool) (F : BitVec 64) (w : World) (hT : Tab w) : Calls Tryd.prog 26 #[.int .u64 ((wk (bs b0 b1 b2 b3 b4 b5 b6 b7 b8 b9 b10 b11) F 12).toNat : Int)] w (Makes (.agg #[.bool b0, .bool b1, .bool b2, .bool b3, .bool b4, .bool b5, .bool b6, .bool b7, .bool b8, .bool b9, .bool b10, .bool b11, .int .u64 ((F.toNat % 17592186044416 : Nat) : Int)]) w) := by
  have h := of_any (wk (bs b0 b1 b2 b3 b4 b5 b6 b7 b8 b9 b10 b11) F 12) w hT
  have hf := fun j hj => word_flag (bs b0 b1 b2 b3 b4 b5 b6 b7 b8 b9 b10 b11) F j hj
  have g0 : (wk (bs b0 b1 b2 b3 b4 b5 b6 b7 b8 b9 b10 b11) F 12).getLsbD 0 = b0 := hf 0 (by omega)
  have g1 : (wk (bs b0 b1 b2 b3 b4 b5 b6 b7 b8 b9 b10 b11) F 12).getLsbD 1 = b1 := hf 1 (by omega)
  have g2 : (wk (bs b0 b1 b2 b3 b4 b5 b6 b7 b8 b9 b10 b11) F 12).getLsbD 2 = b2 := hf 2 (by omega)
  have g3 : (wk (bs b0 b1 b2 b3 b4 b5 b6 b7 b8 b9 b10 b11) F 12).getLsbD 3 = b3 := hf 3 (by omega)
  have g4 : (wk (bs b0 b1 b2 b3 b4 b5 b6 b7 b8 b9 b10 b11) F 12).getLsbD 4 = b4 := hf 4 (by omega)
  have g5 : (wk (bs b0 b1 b2 b3 b4 b5 b6 b7 b8 b9 b10 b11) F 12).getLsbD 5 = b5 := hf 5 (by omega)
  have g6 : (wk (bs b0 b1 b2 b3 b4 b5 b6 b7 b8 b9 b10 b11) F 12).getLsbD 6 = b6 := hf 6 (by omega)
  have g7 : (wk (bs b0 b1 b2 b3 b4 b5 b6 b7 b8 b9 b10 b11) F 12).getLsbD 7 = b7 := hf 7 (by omega)
  have g8 : (wk (bs b0 b1 b2 b3 b4 b5 b6 b7 b8 b9 b10 b11) F 12).getLsbD 58 = b8 := hf 8 (by omega)
  have g9 : (wk (bs b0 b1 b2 b3 b4 b5 b6 b7 b8 b9 b10 b11) F 12).getLsbD 59 = b9 := hf 9 (by omega)
  have g10 : (wk (bs b0 b1 b2 b3 b4 b5 b6 b7 b8 b9 b10 b11) F 12).getLsbD 60 = b10 := hf 10 (by omega)
  have g11 : (wk (bs b0 b1 b2 b3 b4 b5 b6 b7 b8 b9 b10 b11) F 12).getLsbD 61 = b11 := hf 11 (by omega)
  rw [g0, g1, g2, g3, g4, g5, g6, g7, g8, g9, g10, g11, word_frame, frame_nat] at h
  exact h

theorem right_let (b0 b1 b2 b3 b4 b5 b6 b7 b8 b9 b10 b11 V L : Bool) (N M X : Int) (c1 : ∀ W, Calls Tryd.prog 75 #[.agg #[.bool b0, .bool b1, .bool b2, .bool b3, .bool b4, .bool b5, .bool b6, .bool b7, .bool b8, .bool b9, .bool b10, .bool b11, .int .u64 N]] W (Makes (.bool L) W)) (c2 : ∀ W, Tab W -> Calls Tryd.prog 12 #[.agg #[.bool b0, .bool b1, .bool b2, .bool b3, .bool b4, .bool b5, .bool b6, .bool b7, .bool b8, .bool b9, .bool b10, .bool b11, .int .u64 N]] W (Makes (.int .u64 X) W)) (c3 : ∀ W, Tab W -> Calls Tryd.prog 26 #[.int .u64 X] W (Makes (.agg #[.bool b0, .bool b1, .bool b2, .bool b3, .bool b4, .bool b5, .bool b6, .bool b7, .bool b8, .bool b9, .bool b10, .bool b11, .int .u64 M]) W)) (hL : (b0 && (b1 || b2 || b3)) = L) (hNM : decide (N = M) = V) (hV : decide (17592186044416 ≤ N) = !V) (w : World) (hT : Tab w) : Calls Tryd.prog 74 #[.agg #[.bool b0, .bool b1, .bool b2, .bool b3, .bool b4, .bool b5, .bool b6, .bool b7, .bool b8, .bool b9, .bool b10, .bool b11, .int .u64 N]] w (Makes (.bool (rightQ b0 b1 b2 b3 b4 b5 b6 b7 b8 b9 b10 b11 N)) w) := by
  have Cc1 := hide c1
  have Cc2 := hide c2
  have Cc3 := hide c3
  clear c1 c2 c3
  obtain ⟨SS, LB', LS, LA', LH⟩ := rules5
  have NE := ne_e b0 b1 b2 b3 b4 b5 b6 b7 b8 b9 b10 b11 N M
  have EI := eqi_e b0 b1 b2 b3 b4 b5 b6 b7 b8 b9 b10 b11 N M
  have ET := eq_table b4 b5 b6 b7 b8 b9 b10 b11 N
  rw [hNM] at NE EI
  have HVV := hide hV
  clear hV hNM
  cases b0 with
  | false =>
    have HV := HVV
    clear HVV
    clear hL
    go_enter Tryd.func74, Tryd.ntmps74
    go_wp2_with fail
    go_ret
    refine ⟨ret_bool (by simp [rightQ, HV.out] <;> (intros; simp [*])), ?_⟩
    repeat (with_reducible first | assumption | exact Below.refl _ _ | refine Below.drew ?_ | refine below_drewN ?_ _ | refine bw_alloc ?_ _ | (refine bw_set ?_ ?_ _; focus (dsimp only; omega)) | (apply bw_behind; assumption))
  | true =>
    cases V with
    | false =>
      have HV := HVV
      clear HVV
      clear hL
      go_enter Tryd.func74, Tryd.ntmps74
      go_upto_region 4 with fail
      refine wp_abs (fun W => Tab W /\ Below w.heap.size w W /\ W.cell? ⟨w.heap.size, 0, none⟩ = some (.bool true) /\ W.cell? ⟨w.heap.size, 1, none⟩ = some (.bool b1) /\ W.cell? ⟨w.heap.size, 2, none⟩ = some (.bool b2) /\ W.cell? ⟨w.heap.size, 3, none⟩ = some (.bool b3) /\ W.cell? ⟨w.heap.size, 4, none⟩ = some (.bool b4) /\ W.cell? ⟨w.heap.size, 5, none⟩ = some (.bool b5) /\ W.cell? ⟨w.heap.size, 6, none⟩ = some (.bool b6) /\ W.cell? ⟨w.heap.size, 7, none⟩ = some (.bool b7) /\ W.cell? ⟨w.heap.size, 8, none⟩ = some (.bool b8) /\ W.cell? ⟨w.heap.size, 9, none⟩ = some (.bool b9) /\ W.cell? ⟨w.heap.size, 10, none⟩ = some (.bool b10) /\ W.cell? ⟨w.heap.size, 11, none⟩ = some (.bool b11) /\ W.cell? ⟨w.heap.size, 12, none⟩ = some (.int .u64 N)) ?_ ?_
      · refine ⟨?_, ?_, ?_, ?_, ?_, ?_, ?_, ?_, ?_, ?_, ?_, ?_, ?_, ?_, ?_⟩
        all_goals (first | with_reducible assumption | ((repeat (with_reducible first | assumption | refine c_dr _ ?_ | refine c_d1 ?_ | refine c_al _ ?_ | (refine c_set ?_ ?_; focus (dsimp only; omega)) | (apply c_be; assumption))); done) | ((repeat (first | (with_reducible first | assumption | refine o_dr _ ?_ | refine o_d1 ?_ | refine o_set ?_) | (with_reducible refine o_new ?_ ?_; (focus (simp)); (focus (simp))) | (with_reducible first | refine o_al _ ?_ | (apply o_be; assumption)))); done) | ((repeat (with_reducible first | assumption | exact Below.refl _ _ | refine Below.drew ?_ | refine below_drewN ?_ _ | refine bw_alloc ?_ _ | (refine bw_set ?_ ?_ _; focus (dsimp only; omega)) | (apply bw_behind; assumption))); done) | (refine hT.behind ?_; (repeat (with_reducible first | assumption | exact Below.refl _ _ | refine Below.drew ?_ | refine below_drewN ?_ _ | refine bw_alloc ?_ _ | (refine bw_set ?_ ?_ _; focus (dsimp only; omega)) | (apply bw_behind; assumption))); done) | (simp [go_sem, *]; omega) | (simp (maxDischargeDepth := 4) [go_sem, *]; done))
      rintro w0 ⟨hT0, hB0, c0, c1, c2, c3, c4, c5, c6, c7, c8, c9, c10, c11, c12⟩
      have y0 := behind_cell0 c0
      have y1 := behind_cell0 c1
      have y2 := behind_cell0 c2
      have y3 := behind_cell0 c3
      have y4 := behind_cell0 c4
      have y5 := behind_cell0 c5
      have y6 := behind_cell0 c6
      have y7 := behind_cell0 c7
      have y8 := behind_cell0 c8
      have y9 := behind_cell0 c9
      have y10 := behind_cell0 c10
      have y11 := behind_cell0 c11
      have y12 := behind_cell0 c12
      have hsome := Behind.any w0
      clear c0 c1 c2 c3 c4 c5 c6 c7 c8 c9 c10 c11 c12
      refine wp_region_behind w0 (by kernel_rfl) (by kernel_rfl) (Below.refl _ _) ?_
      repeat (go_big_quiet_step (first | (go_at_call 12; with_reducible first | exact behind_call Cc2.out hT0 _) | (go_at_call 26; with_reducible first | exact behind_call Cc3.out hT0 _)))
      refine wpQuiet_nil ?_
      rintro _ ⟨y, rfl⟩
      have hTy := hT0.behind y.below
      have hBy := bw_behind y.below hB0
      have x0 := y0 y
      have x1 := y1 y
      have x2 := y2 y
      have x3 := y3 y
      have x4 := y4 y
      have x5 := y5 y
      have x6 := y6 y
      have x7 := y7 y
      have x8 := y8 y
      have x9 := y9 y
      have x10 := y10 y
      have x11 := y11 y
      have x12 := y12 y
      clear hsome y0 y1 y2 y3 y4 y5 y6 y7 y8 y9 y10 y11 y12
      obtain ⟨w1, hw1⟩ : ∃ W, W = y.world := ⟨_, rfl⟩
      rw [← hw1] at hTy hBy x0 x1 x2 x3 x4 x5 x6 x7 x8 x9 x10 x11 x12 ⊢
      clear hw1 y hT0 hB0
      have hlt := World.block_lt_of_cell? w1 _ x0
      obtain ⟨k1, hk1⟩ : ∃ k, w1.heap.size = w.heap.size + 1 + k := ⟨w1.heap.size - (w.heap.size + 1), by dsimp only at hlt; omega⟩
      clear hlt
      go_wp2_with (first | (go_at_call 75; (with_reducible refine (Cc1.out _).mono ?_); rintro e w2 ⟨rfl, hb2⟩; obtain ⟨hr2, hh2, m2, hs2⟩ := bl_all hb2))
      go_ret
      refine ⟨ret_bool (by simp [rightQ, HV.out] <;> (intros; simp [*])), ?_⟩
      repeat (with_reducible first | assumption | exact Below.refl _ _ | refine Below.drew ?_ | refine below_drewN ?_ _ | refine bw_alloc ?_ _ | (refine bw_set ?_ ?_ _; focus (dsimp only; omega)) | (apply bw_behind; assumption))
    | true =>
      cases b1 with
      | false =>
        cases b2 with
        | false =>
          cases b3 with
          | false =>
            have HV := HVV
            clear HVV
            obtain rfl : L = false := by simpa using hL.symm
            clear hL
            go_enter Tryd.func74, Tryd.ntmps74
            go_upto_region 4 with fail
            refine wp_abs (fun W => Tab W /\ Below w.heap.size w W /\ W.cell? ⟨w.heap.size, 0, none⟩ = some (.bool true) /\ W.cell? ⟨w.heap.size, 1, none⟩ = some (.bool false) /\ W.cell? ⟨w.heap.size, 2, none⟩ = some (.bool false) /\ W.cell? ⟨w.heap.size, 3, none⟩ = some (.bool false) /\ W.cell? ⟨w.heap.size, 4, none⟩ = some (.bool b4) /\ W.cell? ⟨w.heap.size, 5, none⟩ = some (.bool b5) /\ W.cell? ⟨w.heap.size, 6, none⟩ = some (.bool b6) /\ W.cell? ⟨w.heap.size, 7, none⟩ = some (.bool b7) /\ W.cell? ⟨w.heap.size, 8, none⟩ = some (.bool b8) /\ W.cell? ⟨w.heap.size, 9, none⟩ = some (.bool b9) /\ W.cell? ⟨w.heap.size, 10, none⟩ = some (.bool b10) /\ W.cell? ⟨w.heap.size, 11, none⟩ = some (.bool b11) /\ W.cell? ⟨w.heap.size, 12, none⟩ = some (.int .u64 N)) ?_ ?_
            · refine ⟨?_, ?_, ?_, ?_, ?_, ?_, ?_, ?_, ?_, ?_, ?_, ?_, ?_, ?_, ?_⟩
              all_goals (first | with_reducible assumption | ((repeat (with_reducible first | assumption | refine c_dr _ ?_ | refine c_d1 ?_ | refine c_al _ ?_ | (refine c_set ?_ ?_; focus (dsimp only; omega)) | (apply c_be; assumption))); done) | ((repeat (first | (with_reducible first | assumption | refine o_dr _ ?_ | refine o_d1 ?_ | refine o_set ?_) | (with_reducible refine o_new ?_ ?_; (focus (simp)); (focus (simp))) | (with_reducible first | refine o_al _ ?_ | (apply o_be; assumption)))); done) | ((repeat (with_reducible first | assumption | exact Below.refl _ _ | refine Below.drew ?_ | refine below_drewN ?_ _ | refine bw_alloc ?_ _ | (refine bw_set ?_ ?_ _; focus (dsimp only; omega)) | (apply bw_behind; assumption))); done) | (refine hT.behind ?_; (repeat (with_reducible first | assumption | exact Below.refl _ _ | refine Below.drew ?_ | refine below_drewN ?_ _ | refine bw_alloc ?_ _ | (refine bw_set ?_ ?_ _; focus (dsimp only; omega)) | (apply bw_behind; assumption))); done) | (simp [go_sem, *]; omega) | (simp (maxDischargeDepth := 4) [go_sem, *]; done))
            rintro w0 ⟨hT0, hB0, c0, c1, c2, c3, c4, c5, c6, c7, c8, c9, c10, c11, c12⟩
            have y0 := behind_cell0 c0
            have y1 := behind_cell0 c1
            have y2 := behind_cell0 c2
            have y3 := behind_cell0 c3
            have y4 := behind_cell0 c4
            have y5 := behind_cell0 c5
            have y6 := behind_cell0 c6
            have y7 := behind_cell0 c7
            have y8 := behind_cell0 c8
            have y9 := behind_cell0 c9
            have y10 := behind_cell0 c10
            have y11 := behind_cell0 c11
            have y12 := behind_cell0 c12
            have hsome := Behind.any w0
            clear c0 c1 c2 c3 c4 c5 c6 c7 c8 c9 c10 c11 c12
            refine wp_region_behind w0 (by kernel_rfl) (by kernel_rfl) (Below.refl _ _) ?_
            repeat (go_big_quiet_step (first | (go_at_call 12; with_reducible first | exact behind_call Cc2.out hT0 _) | (go_at_call 26; with_reducible first | exact behind_call Cc3.out hT0 _)))
            refine wpQuiet_nil ?_
            rintro _ ⟨y, rfl⟩
            have hTy := hT0.behind y.below
            have hBy := bw_behind y.below hB0
            have x0 := y0 y
            have x1 := y1 y
            have x2 := y2 y
            have x3 := y3 y
            have x4 := y4 y
            have x5 := y5 y
            have x6 := y6 y
            have x7 := y7 y
            have x8 := y8 y
            have x9 := y9 y
            have x10 := y10 y
            have x11 := y11 y
            have x12 := y12 y
            clear hsome y0 y1 y2 y3 y4 y5 y6 y7 y8 y9 y10 y11 y12
            obtain ⟨w1, hw1⟩ : ∃ W, W = y.world := ⟨_, rfl⟩
            rw [← hw1] at hTy hBy x0 x1 x2 x3 x4 x5 x6 x7 x8 x9 x10 x11 x12 ⊢
            clear hw1 y hT0 hB0
            have hlt := World.block_lt_of_cell? w1 _ x0
            obtain ⟨k1, hk1⟩ : ∃ k, w1.heap.size = w.heap.size + 1 + k := ⟨w1.heap.size - (w.heap.size + 1), by dsimp only at hlt; omega⟩
            clear hlt
            go_wp2_with (first | (go_at_call 75; (with_reducible refine (Cc1.out _).mono ?_); rintro e w2 ⟨rfl, hb2⟩; obtain ⟨hr2, hh2, m2, hs2⟩ := bl_all hb2))
            go_ret
            refine ⟨ret_bool (by simp [rightQ, HV.out] <;> (intros; simp [*])), ?_⟩
            repeat (with_reducible first | assumption | exact Below.refl _ _ | refine Below.drew ?_ | refine below_drewN ?_ _ | refine bw_alloc ?_ _ | (refine bw_set ?_ ?_ _; focus (dsimp only; omega)) | (apply bw_behind; assumption))
          | true =>
            cases b9 with
            | false =>
              have HV := HVV
              clear HVV
              obtain rfl : L = true := by simpa using hL.symm
              clear hL
              go_enter Tryd.func74, Tryd.ntmps74
              go_upto_region 4 with fail
              refine wp_abs (fun W => Tab W /\ Below w.heap.size w W /\ W.cell? ⟨w.heap.size, 0, none⟩ = some (.bool true) /\ W.cell? ⟨w.heap.size, 1, none⟩ = some (.bool false) /\ W.cell? ⟨w.heap.size, 2, none⟩ = some (.bool false) /\ W.cell? ⟨w.heap.size, 3, none⟩ = some (.bool true) /\ W.cell? ⟨w.heap.size, 4, none⟩ = some (.bool b4) /\ W.cell? ⟨w.heap.size, 5, none⟩ = some (.bool b5) /\ W.cell? ⟨w.heap.size, 6, none⟩ = some (.bool b6) /\ W.cell? ⟨w.heap.size, 7, none⟩ = some (.bool b7) /\ W.cell? ⟨w.heap.size, 8, none⟩ = some (.bool b8) /\ W.cell? ⟨w.heap.size, 9, none⟩ = some (.bool false) /\ W.cell? ⟨w.heap.size, 10, none⟩ = some (.bool b10) /\ W.cell? ⟨w.heap.size, 11, none⟩ = some (.bool b11) /\ W.cell? ⟨w.heap.size, 12, none⟩ = some (.int .u64 N)) ?_ ?_
              · refine ⟨?_, ?_, ?_, ?_, ?_, ?_, ?_, ?_, ?_, ?_, ?_, ?_, ?_, ?_, ?_⟩
                all_goals (first | with_reducible assumption | ((repeat (with_reducible first | assumption | refine c_dr _ ?_ | refine c_d1 ?_ | refine c_al _ ?_ | (refine c_set ?_ ?_; focus (dsimp only; omega)) | (apply c_be; assumption))); done) | ((repeat (first | (with_reducible first | assumption | refine o_dr _ ?_ | refine o_d1 ?_ | refine o_set ?_) | (with_reducible refine o_new ?_ ?_; (focus (simp)); (focus (simp))) | (with_reducible first | refine o_al _ ?_ | (apply o_be; assumption)))); done) | ((repeat (with_reducible first | assumption | exact Below.refl _ _ | refine Below.drew ?_ | refine below_drewN ?_ _ | refine bw_alloc ?_ _ | (refine bw_set ?_ ?_ _; focus (dsimp only; omega)) | (apply bw_behind; assumption))); done) | (refine hT.behind ?_; (repeat (with_reducible first | assumption | exact Below.refl _ _ | refine Below.drew ?_ | refine below_drewN ?_ _ | refine bw_alloc ?_ _ | (refine bw_set ?_ ?_ _; focus (dsimp only; omega)) | (apply bw_behind; assumption))); done) | (simp [go_sem, *]; omega) | (simp (maxDischargeDepth := 4) [go_sem, *]; done))
              rintro w0 ⟨hT0, hB0, c0, c1, c2, c3, c4, c5, c6, c7, c8, c9, c10, c11, c12⟩
              have y0 := behind_cell0 c0
              have y1 := behind_cell0 c1
              have y2 := behind_cell0 c2
              have y3 := behind_cell0 c3
              have y4 := behind_cell0 c4
              have y5 := behind_cell0 c5
              have y6 := behind_cell0 c6
              have y7 := behind_cell0 c7
              have y8 := behind_cell0 c8
              have y9 := behind_cell0 c9
              have y10 := behind_cell0 c10
              have y11 := behind_cell0 c11
              have y12 := behind_cell0 c12
              have hsome := Behind.any w0
              clear c0 c1 c2 c3 c4 c5 c6 c7 c8 c9 c10 c11 c12
              refine wp_region_behind w0 (by kernel_rfl) (by kernel_rfl) (Below.refl _ _) ?_
              repeat (go_big_quiet_step (first | (go_at_call 12; with_reducible first | exact behind_call Cc2.out hT0 _) | (go_at_call 26; with_reducible first | exact behind_call Cc3.out hT0 _)))
              refine wpQuiet_nil ?_
              rintro _ ⟨y, rfl⟩
              have hTy := hT0.behind y.below
              have hBy := bw_behind y.below hB0
              have x0 := y0 y
              have x1 := y1 y
              have x2 := y2 y
              have x3 := y3 y
              have x4 := y4 y
              have x5 := y5 y
              have x6 := y6 y
              have x7 := y7 y
              have x8 := y8 y
              have x9 := y9 y
              have x10 := y10 y
              have x11 := y11 y
              have x12 := y12 y
              clear hsome y0 y1 y2 y3 y4 y5 y6 y7 y8 y9 y10 y11 y12
              obtain ⟨w1, hw1⟩ : ∃ W, W = y.world := ⟨_, rfl⟩
              rw [← hw1] at hTy hBy x0 x1 x2 x3 x4 x5 x6 x7 x8 x9 x10 x11 x12 ⊢
              clear hw1 y hT0 hB0
              have hlt := World.block_lt_of_cell? w1 _ x0
              obtain ⟨k1, hk1⟩ : ∃ k, w1.heap.size = w.heap.size + 1 + k := ⟨w1.heap.size - (w.heap.size + 1), by dsimp only at hlt; omega⟩
              clear hlt
              go_wp2_with (first | (go_at_call 75; (with_reducible refine (Cc1.out _).mono ?_); rintro e w2 ⟨rfl, hb2⟩; obtain ⟨hr2, hh2, m2, hs2⟩ := bl_all hb2))
              go_ret
              refine ⟨ret_bool (by simp [rightQ, HV.out] <;> (intros; simp [*])), ?_⟩
              repeat (with_reducible first | assumption | exact Below.refl _ _ | refine Below.drew ?_ | refine below_drewN ?_ _ | refine bw_alloc ?_ _ | (refine bw_set ?_ ?_ _; focus (dsimp only; omega)) | (apply bw_behind; assumption))
            | true =>
              have HV := HVV
              clear HVV
              obtain rfl : L = true := by simpa using hL.symm
              clear hL
              go_enter Tryd.func74, Tryd.ntmps74
              go_upto_region 4 with fail
              refine wp_abs (fun W => Tab W /\ Below w.heap.size w W /\ W.cell? ⟨w.heap.size, 0, none⟩ = some (.bool true) /\ W.cell? ⟨w.heap.size, 1, none⟩ = some (.bool false) /\ W.cell? ⟨w.heap.size, 2, none⟩ = some (.bool false) /\ W.cell? ⟨w.heap.size, 3, none⟩ = some (.bool true) /\ W.cell? ⟨w.heap.size, 4, none⟩ = some (.bool b4) /\ W.cell? ⟨w.heap.size, 5, none⟩ = some (.bool b5) /\ W.cell? ⟨w.heap.size, 6, none⟩ = some (.bool b6) /\ W.cell? ⟨w.heap.size, 7, none⟩ = some (.bool b7) /\ W.cell? ⟨w.heap.size, 8, none⟩ = some (.bool b8) /\ W.cell? ⟨w.heap.size, 9, none⟩ = some (.bool true) /\ W.cell? ⟨w.heap.size, 10, none⟩ = some (.bool b10) /\ W.cell? ⟨w.heap.size, 11, none⟩ = some (.bool b11) /\ W.cell? ⟨w.heap.size, 12, none⟩ = some (.int .u64 N)) ?_ ?_
              · refine ⟨?_, ?_, ?_, ?_, ?_, ?_, ?_, ?_, ?_, ?_, ?_, ?_, ?_, ?_, ?_⟩
                all_goals (first | with_reducible assumption | ((repeat (with_reducible first | assumption | refine c_dr _ ?_ | refine c_d1 ?_ | refine c_al _ ?_ | (refine c_set ?_ ?_; focus (dsimp only; omega)) | (apply c_be; assumption))); done) | ((repeat (first | (with_reducible first | assumption | refine o_dr _ ?_ | refine o_d1 ?_ | refine o_set ?_) | (with_reducible refine o_new ?_ ?_; (focus (simp)); (focus (simp))) | (with_reducible first | refine o_al _ ?_ | (apply o_be; assumption)))); done) | ((repeat (with_reducible first | assumption | exact Below.refl _ _ | refine Below.drew ?_ | refine below_drewN ?_ _ | refine bw_alloc ?_ _ | (refine bw_set ?_ ?_ _; focus (dsimp only; omega)) | (apply bw_behind; assumption))); done) | (refine hT.behind ?_; (repeat (with_reducible first | assumption | exact Below.refl _ _ | refine Below.drew ?_ | refine below_drewN ?_ _ | refine bw_alloc ?_ _ | (refine bw_set ?_ ?_ _; focus (dsimp only; omega)) | (apply bw_behind; assumption))); done) | (simp [go_sem, *]; omega) | (simp (maxDischargeDepth := 4) [go_sem, *]; done))
              rintro w0 ⟨hT0, hB0, c0, c1, c2, c3, c4, c5, c6, c7, c8, c9, c10, c11, c12⟩
              have y0 := behind_cell0 c0
              have y1 := behind_cell0 c1
              have y2 := behind_cell0 c2
              have y3 := behind_cell0 c3
              have y4 := behind_cell0 c4
              have y5 := behind_cell0 c5
              have y6 := behind_cell0 c6
              have y7 := behind_cell0 c7
              have y8 := behind_cell0 c8
              have y9 := behind_cell0 c9
              have y10 := behind_cell0 c10
              have y11 := behind_cell0 c11
              have y12 := behind_cell0 c12
              have hsome := Behind.any w0
              clear c0 c1 c2 c3 c4 c5 c6 c7 c8 c9 c10 c11 c12
              refine wp_region_behind w0 (by kernel_rfl) (by kernel_rfl) (Below.refl _ _) ?_
              repeat (go_big_quiet_step (first | (go_at_call 12; with_reducible first | exact behind_call Cc2.out hT0 _) | (go_at_call 26; with_reducible first | exact behind_call Cc3.out hT0 _)))
              refine wpQuiet_nil ?_
              rintro _ ⟨y, rfl⟩
              have hTy := hT0.behind y.below
              have hBy := bw_behind y.below hB0
              have x0 := y0 y
              have x1 := y1 y
              have x2 := y2 y
              have x3 := y3 y
              have x4 := y4 y
              have x5 := y5 y
              have x6 := y6 y
              have x7 := y7 y
              have x8 := y8 y
              have x9 := y9 y
              have x10 := y10 y
              have x11 := y11 y
              have x12 := y12 y
              clear hsome y0 y1 y2 y3 y4 y5 y6 y7 y8 y9 y10 y11 y12
              obtain ⟨w1, hw1⟩ : ∃ W, W = y.world := ⟨_, rfl⟩
              rw [← hw1] at hTy hBy x0 x1 x2 x3 x4 x5 x6 x7 x8 x9 x10 x11 x12 ⊢
              clear hw1 y hT0 hB0
              have hlt := World.block_lt_of_cell? w1 _ x0
              obtain ⟨k1, hk1⟩ : ∃ k, w1.heap.size = w.heap.size + 1 + k := ⟨w1.heap.size - (w.heap.size + 1), by dsimp only at hlt; omega⟩
              clear hlt
              go_wp2_with (first | (go_at_call 75; (with_reducible refine (Cc1.out _).mono ?_); rintro e w2 ⟨rfl, hb2⟩; obtain ⟨hr2, hh2, m2, hs2⟩ := bl_all hb2))
              go_ret
              refine ⟨ret_bool (by simp [rightQ, HV.out] <;> (intros; simp [*])), ?_⟩
              repeat (with_reducible first | assumption | exact Below.refl _ _ | refine Below.drew ?_ | refine below_drewN ?_ _ | refine bw_alloc ?_ _ | (refine bw_set ?_ ?_ _; focus (dsimp only; omega)) | (apply bw_behind; assumption))
        | true =>
          have HV := HVV
          clear HVV
          obtain rfl : L = true := by simpa using hL.symm
          clear hL
          go_enter Tryd.func74, Tryd.ntmps74
          go_upto_region 4 with fail
          refine wp_abs (fun W => Tab W /\ Below w.heap.size w W /\ W.cell? ⟨w.heap.size, 0, none⟩ = some (.bool true) /\ W.cell? ⟨w.heap.size, 1, none⟩ = some (.bool false) /\ W.cell? ⟨w.heap.size, 2, none⟩ = some (.bool true) /\ W.cell? ⟨w.heap.size, 3, none⟩ = some (.bool b3) /\ W.cell? ⟨w.heap.size, 4, none⟩ = some (.bool b4) /\ W.cell? ⟨w.heap.size, 5, none⟩ = some (.bool b5) /\ W.cell? ⟨w.heap.size, 6, none⟩ = some (.bool b6) /\ W.cell? ⟨w.heap.size, 7, none⟩ = some (.bool b7) /\ W.cell? ⟨w.heap.size, 8, none⟩ = some (.bool b8) /\ W.cell? ⟨w.heap.size, 9, none⟩ = some (.bool b9) /\ W.cell? ⟨w.heap.size, 10, none⟩ = some (.bool b10) /\ W.cell? ⟨w.heap.size, 11, none⟩ = some (.bool b11) /\ W.cell? ⟨w.heap.size, 12, none⟩ = some (.int .u64 N)) ?_ ?_
          · refine ⟨?_, ?_, ?_, ?_, ?_, ?_, ?_, ?_, ?_, ?_, ?_, ?_, ?_, ?_, ?_⟩
            all_goals (first | with_reducible assumption | ((repeat (with_reducible first | assumption | refine c_dr _ ?_ | refine c_d1 ?_ | refine c_al _ ?_ | (refine c_set ?_ ?_; focus (dsimp only; omega)) | (apply c_be; assumption))); done) | ((repeat (first | (with_reducible first | assumption | refine o_dr _ ?_ | refine o_d1 ?_ | refine o_set ?_) | (with_reducible refine o_new ?_ ?_; (focus (simp)); (focus (simp))) | (with_reducible first | refine o_al _ ?_ | (apply o_be; assumption)))); done) | ((repeat (with_reducible first | assumption | exact Below.refl _ _ | refine Below.drew ?_ | refine below_drewN ?_ _ | refine bw_alloc ?_ _ | (refine bw_set ?_ ?_ _; focus (dsimp only; omega)) | (apply bw_behind; assumption))); done) | (refine hT.behind ?_; (repeat (with_reducible first | assumption | exact Below.refl _ _ | refine Below.drew ?_ | refine below_drewN ?_ _ | refine bw_alloc ?_ _ | (refine bw_set ?_ ?_ _; focus (dsimp only; omega)) | (apply bw_behind; assumption))); done) | (simp [go_sem, *]; omega) | (simp (maxDischargeDepth := 4) [go_sem, *]; done))
          rintro w0 ⟨hT0, hB0, c0, c1, c2, c3, c4, c5, c6, c7, c8, c9, c10, c11, c12⟩
          have y0 := behind_cell0 c0
          have y1 := behind_cell0 c1
          have y2 := behind_cell0 c2
          have y3 := behind_cell0 c3
          have y4 := behind_cell0 c4
          have y5 := behind_cell0 c5
          have y6 := behind_cell0 c6
          have y7 := behind_cell0 c7
          have y8 := behind_cell0 c8
          have y9 := behind_cell0 c9
          have y10 := behind_cell0 c10
          have y11 := behind_cell0 c11
          have y12 := behind_cell0 c12
          have hsome := Behind.any w0
          clear c0 c1 c2 c3 c4 c5 c6 c7 c8 c9 c10 c11 c12
          refine wp_region_behind w0 (by kernel_rfl) (by kernel_rfl) (Below.refl _ _) ?_
          repeat (go_big_quiet_step (first | (go_at_call 12; with_reducible first | exact behind_call Cc2.out hT0 _) | (go_at_call 26; with_reducible first | exact behind_call Cc3.out hT0 _)))
          refine wpQuiet_nil ?_
          rintro _ ⟨y, rfl⟩
          have hTy := hT0.behind y.below
          have hBy := bw_behind y.below hB0
          have x0 := y0 y
          have x1 := y1 y
          have x2 := y2 y
          have x3 := y3 y
          have x4 := y4 y
          have x5 := y5 y
          have x6 := y6 y
          have x7 := y7 y
          have x8 := y8 y
          have x9 := y9 y
          have x10 := y10 y
          have x11 := y11 y
          have x12 := y12 y
          clear hsome y0 y1 y2 y3 y4 y5 y6 y7 y8 y9 y10 y11 y12
          obtain ⟨w1, hw1⟩ : ∃ W, W = y.world := ⟨_, rfl⟩
          rw [← hw1] at hTy hBy x0 x1 x2 x3 x4 x5 x6 x7 x8 x9 x10 x11 x12 ⊢
          clear hw1 y hT0 hB0
          have hlt := World.block_lt_of_cell? w1 _ x0
          obtain ⟨k1, hk1⟩ : ∃ k, w1.heap.size = w.heap.size + 1 + k := ⟨w1.heap.size - (w.heap.size + 1), by dsimp only at hlt; omega⟩
          clear hlt
          go_wp2_with (first | (go_at_call 75; (with_reducible refine (Cc1.out _).mono ?_); rintro e w2 ⟨rfl, hb2⟩; obtain ⟨hr2, hh2, m2, hs2⟩ := bl_all hb2))
          go_ret
          refine ⟨ret_bool (by simp [rightQ, HV.out] <;> (intros; simp [*])), ?_⟩
          repeat (with_reducible first | assumption | exact Below.refl _ _ | refine Below.drew ?_ | refine below_drewN ?_ _ | refine bw_alloc ?_ _ | (refine bw_set ?_ ?_ _; focus (dsimp only; omega)) | (apply bw_behind; assumption))
      | true =>
        cases b2 with
        | false =>
          have HV := HVV
          clear HVV
          obtain rfl : L = true := by simpa using hL.symm
          clear hL
          go_enter Tryd.func74, Tryd.ntmps74
          go_upto_region 4 with fail
          refine wp_abs (fun W => Tab W /\ Below w.heap.size w W /\ W.cell? ⟨w.heap.size, 0, none⟩ = some (.bool true) /\ W.cell? ⟨w.heap.size, 1, none⟩ = some (.bool true) /\ W.cell? ⟨w.heap.size, 2, none⟩ = some (.bool false) /\ W.cell? ⟨w.heap.size, 3, none⟩ = some (.bool b3) /\ W.cell? ⟨w.heap.size, 4, none⟩ = some (.bool b4) /\ W.cell? ⟨w.heap.size, 5, none⟩ = some (.bool b5) /\ W.cell? ⟨w.heap.size, 6, none⟩ = some (.bool b6) /\ W.cell? ⟨w.heap.size, 7, none⟩ = some (.bool b7) /\ W.cell? ⟨w.heap.size, 8, none⟩ = some (.bool b8) /\ W.cell? ⟨w.heap.size, 9, none⟩ = some (.bool b9) /\ W.cell? ⟨w.heap.size, 10, none⟩ = some (.bool b10) /\ W.cell? ⟨w.heap.size, 11, none⟩ = some (.bool b11) /\ W.cell? ⟨w.heap.size, 12, none⟩ = some (.int .u64 N)) ?_ ?_
          · refine ⟨?_, ?_, ?_, ?_, ?_, ?_, ?_, ?_, ?_, ?_, ?_, ?_, ?_, ?_, ?_⟩
            all_goals (first | with_reducible assumption | ((repeat (with_reducible first | assumption | refine c_dr _ ?_ | refine c_d1 ?_ | refine c_al _ ?_ | (refine c_set ?_ ?_; focus (dsimp only; omega)) | (apply c_be; assumption))); done) | ((repeat (first | (with_reducible first | assumption | refine o_dr _ ?_ | refine o_d1 ?_ | refine o_set ?_) | (with_reducible refine o_new ?_ ?_; (focus (simp)); (focus (simp))) | (with_reducible first | refine o_al _ ?_ | (apply o_be; assumption)))); done) | ((repeat (with_reducible first | assumption | exact Below.refl _ _ | refine Below.drew ?_ | refine below_drewN ?_ _ | refine bw_alloc ?_ _ | (refine bw_set ?_ ?_ _; focus (dsimp only; omega)) | (apply bw_behind; assumption))); done) | (refine hT.behind ?_; (repeat (with_reducible first | assumption | exact Below.refl _ _ | refine Below.drew ?_ | refine below_drewN ?_ _ | refine bw_alloc ?_ _ | (refine bw_set ?_ ?_ _; focus (dsimp only; omega)) | (apply bw_behind; assumption))); done) | (simp [go_sem, *]; omega) | (simp (maxDischargeDepth := 4) [go_sem, *]; done))
          rintro w0 ⟨hT0, hB0, c0, c1, c2, c3, c4, c5, c6, c7, c8, c9, c10, c11, c12⟩
          have y0 := behind_cell0 c0
          have y1 := behind_cell0 c1
          have y2 := behind_cell0 c2
          have y3 := behind_cell0 c3
          have y4 := behind_cell0 c4
          have y5 := behind_cell0 c5
          have y6 := behind_cell0 c6
          have y7 := behind_cell0 c7
          have y8 := behind_cell0 c8
          have y9 := behind_cell0 c9
          have y10 := behind_cell0 c10
          have y11 := behind_cell0 c11
          have y12 := behind_cell0 c12
          have hsome := Behind.any w0
          clear c0 c1 c2 c3 c4 c5 c6 c7 c8 c9 c10 c11 c12
          refine wp_region_behind w0 (by kernel_rfl) (by kernel_rfl) (Below.refl _ _) ?_
          repeat (go_big_quiet_step (first | (go_at_call 12; with_reducible first | exact behind_call Cc2.out hT0 _) | (go_at_call 26; with_reducible first | exact behind_call Cc3.out hT0 _)))
          refine wpQuiet_nil ?_
          rintro _ ⟨y, rfl⟩
          have hTy := hT0.behind y.below
          have hBy := bw_behind y.below hB0
          have x0 := y0 y
          have x1 := y1 y
          have x2 := y2 y
          have x3 := y3 y
          have x4 := y4 y
          have x5 := y5 y
          have x6 := y6 y
          have x7 := y7 y
          have x8 := y8 y
          have x9 := y9 y
          have x10 := y10 y
          have x11 := y11 y
          have x12 := y12 y
          clear hsome y0 y1 y2 y3 y4 y5 y6 y7 y8 y9 y10 y11 y12
          obtain ⟨w1, hw1⟩ : ∃ W, W = y.world := ⟨_, rfl⟩
          rw [← hw1] at hTy hBy x0 x1 x2 x3 x4 x5 x6 x7 x8 x9 x10 x11 x12 ⊢
          clear hw1 y hT0 hB0
          have hlt := World.block_lt_of_cell? w1 _ x0
          obtain ⟨k1, hk1⟩ : ∃ k, w1.heap.size = w.heap.size + 1 + k := ⟨w1.heap.size - (w.heap.size + 1), by dsimp only at hlt; omega⟩
          clear hlt
          go_wp2_with (first | (go_at_call 75; (with_reducible refine (Cc1.out _).mono ?_); rintro e w2 ⟨rfl, hb2⟩; obtain ⟨hr2, hh2, m2, hs2⟩ := bl_all hb2))
          go_ret
          refine ⟨ret_bool (by simp [rightQ, HV.out] <;> (intros; simp [*])), ?_⟩
          repeat (with_reducible first | assumption | exact Below.refl _ _ | refine Below.drew ?_ | refine below_drewN ?_ _ | refine bw_alloc ?_ _ | (refine bw_set ?_ ?_ _; focus (dsimp only; omega)) | (apply bw_behind; assumption))
        | true =>
          have HV := HVV
          clear HVV
          obtain rfl : L = true := by simpa using hL.symm
          clear hL
          go_enter Tryd.func74, Tryd.ntmps74
          go_upto_region 4 with fail
          refine wp_abs (fun W => Tab W /\ Below w.heap.size w W /\ W.cell? ⟨w.heap.size, 0, none⟩ = some (.bool true) /\ W.cell? ⟨w.heap.size, 1, none⟩ = some (.bool true) /\ W.cell? ⟨w.heap.size, 2, none⟩ = some (.bool true) /\ W.cell? ⟨w.heap.size, 3, none⟩ = some (.bool b3) /\ W.cell? ⟨w.heap.size, 4, none⟩ = some (.bool b4) /\ W.cell? ⟨w.heap.size, 5, none⟩ = some (.bool b5) /\ W.cell? ⟨w.heap.size, 6, none⟩ = some (.bool b6) /\ W.cell? ⟨w.heap.size, 7, none⟩ = some (.bool b7) /\ W.cell? ⟨w.heap.size, 8, none⟩ = some (.bool b8) /\ W.cell? ⟨w.heap.size, 9, none⟩ = some (.bool b9) /\ W.cell? ⟨w.heap.size, 10, none⟩ = some (.bool b10) /\ W.cell? ⟨w.heap.size, 11, none⟩ = some (.bool b11) /\ W.cell? ⟨w.heap.size, 12, none⟩ = some (.int .u64 N)) ?_ ?_
          · refine ⟨?_, ?_, ?_, ?_, ?_, ?_, ?_, ?_, ?_, ?_, ?_, ?_, ?_, ?_, ?_⟩
            all_goals (first | with_reducible assumption | ((repeat (with_reducible first | assumption | refine c_dr _ ?_ | refine c_d1 ?_ | refine c_al _ ?_ | (refine c_set ?_ ?_; focus (dsimp only; omega)) | (apply c_be; assumption))); done) | ((repeat (first | (with_reducible first | assumption | refine o_dr _ ?_ | refine o_d1 ?_ | refine o_set ?_) | (with_reducible refine o_new ?_ ?_; (focus (simp)); (focus (simp))) | (with_reducible first | refine o_al _ ?_ | (apply o_be; assumption)))); done) | ((repeat (with_reducible first | assumption | exact Below.refl _ _ | refine Below.drew ?_ | refine below_drewN ?_ _ | refine bw_alloc ?_ _ | (refine bw_set ?_ ?_ _; focus (dsimp only; omega)) | (apply bw_behind; assumption))); done) | (refine hT.behind ?_; (repeat (with_reducible first | assumption | exact Below.refl _ _ | refine Below.drew ?_ | refine below_drewN ?_ _ | refine bw_alloc ?_ _ | (refine bw_set ?_ ?_ _; focus (dsimp only; omega)) | (apply bw_behind; assumption))); done) | (simp [go_sem, *]; omega) | (simp (maxDischargeDepth := 4) [go_sem, *]; done))
          rintro w0 ⟨hT0, hB0, c0, c1, c2, c3, c4, c5, c6, c7, c8, c9, c10, c11, c12⟩
          have y0 := behind_cell0 c0
          have y1 := behind_cell0 c1
          have y2 := behind_cell0 c2
          have y3 := behind_cell0 c3
          have y4 := behind_cell0 c4
          have y5 := behind_cell0 c5
          have y6 := behind_cell0 c6
          have y7 := behind_cell0 c7
          have y8 := behind_cell0 c8
          have y9 := behind_cell0 c9
          have y10 := behind_cell0 c10
          have y11 := behind_cell0 c11
          have y12 := behind_cell0 c12
          have hsome := Behind.any w0
          clear c0 c1 c2 c3 c4 c5 c6 c7 c8 c9 c10 c11 c12
          refine wp_region_behind w0 (by kernel_rfl) (by kernel_rfl) (Below.refl _ _) ?_
          repeat (go_big_quiet_step (first | (go_at_call 12; with_reducible first | exact behind_call Cc2.out hT0 _) | (go_at_call 26; with_reducible first | exact behind_call Cc3.out hT0 _)))
          refine wpQuiet_nil ?_
          rintro _ ⟨y, rfl⟩
          have hTy := hT0.behind y.below
          have hBy := bw_behind y.below hB0
          have x0 := y0 y
          have x1 := y1 y
          have x2 := y2 y
          have x3 := y3 y
          have x4 := y4 y
          have x5 := y5 y
          have x6 := y6 y
          have x7 := y7 y
          have x8 := y8 y
          have x9 := y9 y
          have x10 := y10 y
          have x11 := y11 y
          have x12 := y12 y
          clear hsome y0 y1 y2 y3 y4 y5 y6 y7 y8 y9 y10 y11 y12
          obtain ⟨w1, hw1⟩ : ∃ W, W = y.world := ⟨_, rfl⟩
          rw [← hw1] at hTy hBy x0 x1 x2 x3 x4 x5 x6 x7 x8 x9 x10 x11 x12 ⊢
          clear hw1 y hT0 hB0
          have hlt := World.block_lt_of_cell? w1 _ x0
          obtain ⟨k1, hk1⟩ : ∃ k, w1.heap.size = w.heap.size + 1 + k := ⟨w1.heap.size - (w.heap.size + 1), by dsimp only at hlt; omega⟩
          clear hlt
          go_wp2_with (first | (go_at_call 75; (with_reducible refine (Cc1.out _).mono ?_); rintro e w2 ⟨rfl, hb2⟩; obtain ⟨hr2, hh2, m2, hs2⟩ := bl_all hb2))
          go_ret
          refine ⟨ret_bool (by simp [rightQ, HV.out] <;> (intros; simp [*])), ?_⟩
          repeat (with_reducible first | assumption | exact Below.refl _ _ | refine Below.drew ?_ | refine below_drewN ?_ _ | refine bw_alloc ?_ _ | (refine bw_set ?_ ?_ _; focus (dsimp only; omega)) | (apply bw_behind; assumption))

theorem right_any (b0 b1 b2 b3 b4 b5 b6 b7 b8 b9 b10 b11 : Bool) (F : BitVec 64) (w : World) (hT : Tab w) : Calls Tryd.prog 74 #[.agg #[.bool b0, .bool b1, .bool b2, .bool b3, .bool b4, .bool b5, .bool b6, .bool b7, .bool b8, .bool b9, .bool b10, .bool b11, .int .u64 (F.toNat : Int)]] w (Makes (.bool (rightQ b0 b1 b2 b3 b4 b5 b6 b7 b8 b9 b10 b11 (F.toNat : Int))) w) := by
  obtain ⟨V, hV⟩ : ∃ V, decide ((F.toNat : Int) = ((F.toNat % 17592186044416 : Nat) : Int)) = V := ⟨_, rfl⟩
  refine right_let b0 b1 b2 b3 b4 b5 b6 b7 b8 b9 b10 b11 V _ (F.toNat : Int) ((F.toNat % 17592186044416 : Nat) : Int) _ (fun W => leaf_any b0 b1 b2 b3 b4 b5 b6 b7 b8 b9 b10 b11 F W) (fun W h => word_any b0 b1 b2 b3 b4 b5 b6 b7 b8 b9 b10 b11 F W h) (fun W h => ofword_any b0 b1 b2 b3 b4 b5 b6 b7 b8 b9 b10 b11 F W h) rfl hV ?_ w hT
  rw [← hV, Bool.eq_iff_iff]
  generalize F.toNat = N
  simp
  omega
end Go.Proofs.YtkajndonefkegaaDoor
