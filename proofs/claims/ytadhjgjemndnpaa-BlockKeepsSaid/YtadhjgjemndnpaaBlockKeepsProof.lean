/-
  The statement BlockKeeps: what was written last into a block is read of it, and of no other one; a call that fails changes nothing; and just as many fail as are to.
-/
import Derived.Test.YtadhjgjemndnpaaBlkStr
import Derived.BigRegion
namespace Go.Proofs.Ytadhjgjemndnpaa.BlockKeeps
open Go.RowKit Go.Maps

/-- What is held: the device, its map, two rows, and what was there. -/
structure St (w W : World) (b m gx gy : Nat) (X Y : List UInt8) (k : Nat) (C : Nat → List UInt8) (f : Int) : Prop where
  dev : DevAt W b 3 m f
  map : MapB W m k C
  rx : Row W gx (cellsB X)
  ry : Row W gy (cellsB Y)
  bel : Below w.heap.size w W
/-- Which blocks are which. -/
structure Ap (w : World) (b m gx gy : Nat) : Prop where
  b0 : w.heap.size ≤ b
  m0 : w.heap.size ≤ m
  bm : b ≠ m
  xb : gx ≠ b
  xm : gx ≠ m
  yb : gy ≠ b
  ym : gy ≠ m
section
variable {w W W' : World} {b m gx gy k : Nat} {X Y : List UInt8} {C : Nat → List UInt8} {f : Int}
theorem St.be (h : St w W b m gx gy X Y k C f) (hb : Below W.heap.size W W') : St w W' b m gx gy X Y k C f :=
  ⟨dev_be hb h.dev, mb_be hb h.map, k_be hb h.rx, k_be hb h.ry, h.bel.trans (hb.mono h.bel.size)⟩
theorem St.dr (n : Nat) (h : St w W b m gx gy X Y k C f) : St w (W.drewN n) b m gx gy X Y k C f := h.be (below_drewN (Below.refl _ _) n)
/-- The device's block alone turns. -/
theorem St.fail {g : Int} (a : Ap w b m gx gy) (h : St w W b m gx gy X Y k C f) (hd : DevAt W' b 3 m g) (ho : OutB b W W') : St w W' b m gx gy X Y k C g :=
  ⟨hd, mb_out ho (Ne.symm a.bm) h.map, row_out ho a.xb h.rx, row_out ho a.yb h.ry, ho.below h.bel a.b0 h.bel.size⟩
/-- The map's block alone turns. -/
theorem St.put {C' : Nat → List UInt8} {k' : Nat} (a : Ap w b m gx gy) (h : St w W b m gx gy X Y k C f) (hm : MapB W' m k' C') (ho : OutB m W W') : St w W' b m gx gy X Y k' C' f :=
  ⟨dev_out ho a.bm h.dev, hm, row_out ho a.xm h.rx, row_out ho a.ym h.ry, ho.below h.bel a.m0 h.bel.size⟩
end

set_option maxRecDepth 100000 in
set_option maxHeartbeats 2000000 in
theorem walk (A B : UInt8) (n : Int) (w : World) : Calls Try.prog 5 #[.int .u8 (A.toNat : Int), .int .u8 (B.toNat : Int), .int .i64 n] w fun e W' => e = .returned (.bool true) ∧ Below w.heap.size w W' := by
  obtain ⟨nn, hn7, hn⟩ := and_7 n
  have N1 := hide (fun W => new_at 3 (by omega) (by omega) W)
  have F1 := hide (fun W => full_let 0 0 0 A none 0 0 0 (by decide) (by decide) W)
  have F2 := hide (fun W => full_let 0 0 7 B none 0 0 7 (by decide) (by decide) W)
  have hXl := hide (fullL_length A 0)
  have hYl := hide (fullL_length B 7)
  generalize fullL A 0 = X at *
  generalize fullL B 7 = Y at *
  go_enter Try.func5, Try.ntmps5
  go_upto_region 6 with (first | (go_at_call 6; refine (N1.out _).mono ?_; rintro e w1 ⟨b, m, rfl, hb1, hm1, hbm, hd1, hM1, hB1⟩) | (go_at_call 9; have _t := F1; refine (F1.out _).mono ?_; rintro e w2 ⟨gx, rfl, hgx, hrx, hB2⟩; clear F1) | (go_at_call 9; refine (F2.out _).mono ?_; rintro e w3 ⟨gy, rfl, hgy, hry, hB3⟩))
  have hlb := hd1.lt
  have hlm := hM1.lt
  have s2 := hB2.size
  have ap : Ap w b m gx gy := ⟨hb1, hm1, hbm, by omega, by omega, by omega, by omega⟩
  refine wp_abs (fun W => St w W b m gx gy X Y 0 (fun _ => zeroB) 0) ⟨dev_be hB3 (dev_be hB2 hd1), mb_be hB3 (mb_be hB2 hM1), k_be hB3 hrx, hry, (hB1.trans (hB2.mono hB1.size)).trans (hB3.mono (hB1.trans (hB2.mono hB1.size)).size)⟩ ?_
  clear hd1 hM1 hrx hry hB1 hB2 hB3 s2 hlb hlm hgx hgy F2 N1 hb1 hm1 hbm
  rintro w4 st4
  have hn' := hn
  go_upto_region 8 with (first | (go_at_call 10; have _t := st4; refine (write_let b m 3 0 0 0 gx 0 4096 _ X hXl.out (by omega) (by omega) (by omega) (by omega) (by omega) _ st4.dev st4.map (row_range st4.rx)).mono ?_; rintro e w5 ⟨rfl, hm5, ho5⟩; have st5 := St.put ap st4 hm5 ho5; clear hm5 ho5 st4) | (go_at_call 10; refine (write_let b m 3 0 2 1 gy 0 4096 _ Y hYl.out (by omega) (by omega) (by omega) (by omega) (by omega) _ st5.dev st5.map (row_range st5.ry)).mono ?_; rintro e w6 ⟨rfl, hm6, ho6⟩; have st6 := St.put ap st5 hm6 ho6; clear hm6 ho6 st5))
  have hC0 : setC (setC (fun _ => zeroB) 0 X) 2 Y 0 = X := rfl
  have hC1 : setC (setC (fun _ => zeroB) 0 X) 2 Y 1 = zeroB := rfl
  have hC2 : setC (setC (fun _ => zeroB) 0 X) 2 Y 2 = Y := rfl
  obtain ⟨C, hC⟩ : ∃ C, C = setC (setC (fun _ => zeroB) 0 X) 2 Y := ⟨_, rfl⟩
  have st6 : St w w6 b m gx gy X Y 2 C 0 := by rw [hC]; exact st6
  rw [← hC] at hC0 hC1 hC2
  have HC0 := hide hC0
  have HC1 := hide hC1
  have HC2 := hide hC2
  clear hC0 hC1 hC2 hC hn hn'
  refine wp_abs (fun W => St w W b m gx gy X Y 2 C 0) st6 ?_
  rintro w7 st7
  clear st6
  go_upto_region 9 with (go_at_call 14; refine (fail_at b m 3 0 _ (by omega) _ st7.dev).mono ?_; rintro e w8 ⟨rfl, hd8, ho8⟩; have st8 := St.fail ap st7 hd8 ho8; clear hd8 ho8 st7)
  go_wp2
  go_loopw [11] (fun i wr => ∃ k : Nat, k ≤ nn ∧ i = .int .i64 k ∧ St w wr b m gx gy X Y 2 C ((nn : Int) - (k : Int))) (fun i _ => nn - (intOf i).toNat)
  case atStart => exact ⟨0, by omega, rfl, by simpa using st8⟩
  case round =>
    obtain ⟨k, hk, rfl, st⟩ := hrel
    clear st8
    by_cases h2 : k < nn
    · have hk2 : (k : Int) < (nn : Int) := by omega
      obtain ⟨g, hg⟩ : ∃ g : Int, g = (nn : Int) - ((k + 1 : Nat) : Int) := ⟨_, rfl⟩
      have hw : wrap64 (((nn : Int) - (k : Int)) - 1) = g := by rw [wrap_pred (by omega) (by omega), hg]; omega
      have hodd := odd_7 k (by omega)
      rcases Nat.mod_two_eq_zero_or_one k with h3 | h3
      · rw [h3] at hodd
        have hodd : bits .and .i64 (k : Int) 1 = 0 := hodd
        go_wp2_with (go_at_call 10; refine (write_fails b m 3 _ 0 (by omega) (by omega) (by omega) (by omega) g hw _ _ _ st.dev).mono ?_; rintro e w9 ⟨rfl, hd9, ho9⟩; have st9 := St.fail ap st hd9 ho9; clear hd9 ho9 st)
        go_roundw
        case rel => exact ⟨k + 1, by omega, by go_num, by rw [← hg]; exact st9⟩
        case measure => simp [intOf]; omega
      · rw [h3] at hodd
        have hodd : bits .and .i64 (k : Int) 1 = 1 := hodd
        go_wp2_with (go_at_call 12; refine (read_fails b m 3 _ 2 (by omega) (by omega) (by omega) (by omega) g hw _ st.dev).mono ?_; rintro e w9 ⟨rfl, hd9, ho9⟩; have st9 := St.fail ap st hd9 ho9; clear hd9 ho9 st)
        go_roundw
        case rel => exact ⟨k + 1, by omega, by go_num, by rw [← hg]; exact st9⟩
        case measure => simp [intOf]; omega
    · obtain rfl : k = nn := by omega
      have st0 : St w wr b m gx gy X Y 2 C 0 := by simpa using st
      clear st
      go_upto_region 21 with (first | (go_at_call 12; have _t := st0; refine (read_let b m 3 0 0 2 C (by rw [HC0.out]; exact hXl.out) (by omega) (by omega) (by omega) (by omega) _ st0.dev st0.map).mono ?_; rintro e wa ⟨g0, rfl, hg0, hr0, hba⟩; have sta := St.be st0 hba; clear st0) | (go_at_call 12; have _t := sta; refine (read_let b m 3 0 2 2 C (by rw [HC2.out]; exact hYl.out) (by omega) (by omega) (by omega) (by omega) _ sta.dev sta.map).mono ?_; rintro e wb ⟨g2, rfl, hg2, hr2, hbb⟩; have stb := St.be sta hbb; clear sta) | (go_at_call 12; have _t := stb; refine (read_let b m 3 0 1 2 C (by rw [HC1.out]; exact zeroB_length) (by omega) (by omega) (by omega) (by omega) _ stb.dev stb.map).mono ?_; rintro e wc ⟨g1, rfl, hg1, hr1, hbc⟩; have stc := St.be stb hbc; clear stb))
      rw [HC0.out] at hr0
      rw [HC2.out] at hr2
      rw [HC1.out] at hr1
      refine wp_abs (fun W => Row W gx (cellsB X) ∧ Row W gy (cellsB Y) ∧ Row W g0 (cellsB X) ∧ Row W g2 (cellsB Y) ∧ Row W g1 (cellsB zeroB) ∧ Below w.heap.size w W) ⟨stc.rx, stc.ry, k_be hbc (k_be hbb hr0), k_be hbc hr2, hr1, stc.bel⟩ ?_
      clear stc hr0 hr1 hr2 hg0 hg1 hg2 hba hbb hbc ap
      rintro w0 ⟨r1, r2, r3, r4, r5, hB⟩
      obtain ⟨Z, hZ, hmk⟩ := make_bytes
      have cv : ∀ (g : Nat) (L : List UInt8), L.length = 4096 → Row w0 g (cellsB L) → ∀ W, Below w0.heap.size w0 W → (convert 33 9 (.slice (some ⟨g, 0, none⟩) 4096 4096)).run Try.prog W = .ok (.string (str L)) W := fun g L hL hr W hW => text_of hL (row_range (k_be hW hr))
      have v1 := cv g0 X hXl.out r3
      have v2 := cv gx X hXl.out r1
      have v3 := cv g2 Y hYl.out r4
      have v4 := cv gy Y hYl.out r2
      have v5 := cv g1 zeroB zeroB_length r5
      have v6 : (convert 33 9 (.slice (some ⟨w0.heap.size, 0, none⟩) 4096 4096)).run Try.prog (w0.alloc (.cells Z 5)).drew = .ok (.string (str zeroB)) (w0.alloc (.cells Z 5)).drew := text_of zeroB_length (row_range (k_d1 (row_new rfl hZ)))
      have q1 : ∀ W, (Op.stringOp .eql (str X) (str X)).run Try.prog W = .ok (.bool true) W := fun W => by rw [text_eq]; simp
      have q2 : ∀ W, (Op.stringOp .eql (str Y) (str Y)).run Try.prog W = .ok (.bool true) W := fun W => by rw [text_eq]; simp
      have q3 : ∀ W, (Op.stringOp .eql (str zeroB) (str zeroB)).run Try.prog W = .ok (.bool true) W := fun W => by rw [text_eq]; simp
      generalize str X = SX at *
      generalize str Y = SY at *
      generalize str zeroB = SZ at *
      clear cv r1 r2 r3 r4 r5 hXl hYl HC0 HC1 HC2 hZ
      have k0 : Below w0.heap.size w0 w0.drew := (Below.refl _ _).drew
      have k1 : Below w0.heap.size w0 (w0.alloc (.cells Z 5)).drew := (bw_alloc (Below.refl _ _) _).drew
      go_region
      go_wp2
      go_ret
      exact ⟨rfl, hB.trans (k1.mono hB.size)⟩

open Go.ChangeShapes Go.WideShapes Go.ChangeAt
theorem walks : Frame.Walks 5 Try.f5 := by
  intro H enc W base args ds ps hval hA
  rw [Try.params5] at hA hval
  obtain ⟨v0, v1, v2, d0, d1, d2, p0, p1, p2, hargs, rfl, rfl, h0, h1, h2⟩ := trodAll_three hA
  obtain rfl : args = #[v0, v1, v2] := by cases args; simp_all
  obtain ⟨x0, rfl, rfl, rfl, w0⟩ := open_int Try.underlying5 (hval 0 5 v0 rfl rfl) h0
  obtain ⟨x1, rfl, rfl, rfl, w1⟩ := open_int Try.underlying5 (hval 1 5 v1 rfl rfl) h1
  obtain ⟨x2, rfl, rfl, rfl, w2⟩ := open_int Try.underlying3 (hval 2 3 v2 rfl rfl) h2
  obtain ⟨X0, rfl⟩ := wf_u8 w0
  obtain ⟨X1, rfl⟩ := wf_u8 w1
  exact walk X0 X1 x2 W
set_option maxRecDepth 100000 in
theorem proved : Rows.BlockKeepsSaid :=
  OpenClaim.holds_of_wide 5 Try.f5 rfl rfl rfl rfl rfl rfl rfl ⟨rfl, rfl, rfl, rfl, rfl⟩ rfl rfl rfl rfl rfl (by kernel_rfl) Try.func5 (by kernel_rfl)
    (of_decide_eq_true (by kernel_rfl)) (by unfold Func.isWrapper; first | (rw [if_pos (by decide +kernel)]; kernel_rfl) | (rw [if_neg (by decide +kernel)]; exact ⟨rfl, rfl⟩))
    (fun os started H enc _ => Frame.lift os started H enc _ _ Rows.blockKeepsSpec 4 (by kernel_rfl) Try.func5 Try.underlying4 (by kernel_rfl) rfl (by kernel_rfl)
      (fun ds h => by match ds, h with | [_, _, _], _ => exact ⟨rfl, rfl, rfl⟩)
      (ChangeSpec.witness6 (enc := enc) (C := Try.checked) false ⟨#[], #[.int .u8 0, .int .u8 0, .int .i64 0], []⟩ 8 (by kernel_rfl) (by kernel_rfl) (by kernel_rfl) (by kernel_rfl)) walks)
end Go.Proofs.Ytadhjgjemndnpaa.BlockKeeps
