/-
  The functions that RegsTagged hands to an iterator: what each call turns.
-/
import Derived.Test.YtnbfjaocakghkaaDoorReg5
import Derived.Test.YtnbfjaocakghkaaDoorWords
namespace Go.Proofs.YtnbfjaocakghkaaDoor
open Go.RowKit

/-- Whether what was told came by rising numbers, each with a tag; and the last number. -/
def fineS (R : Nat → C3) (s : Nat × Bool) (x : Reg) : Nat × Bool := (x.1, s.2 && (decide (s.1 < x.1) && (R x.1).1))
def fineF (R : Nat → C3) (pre : List Reg) : Nat × Bool := pre.foldl (fineS R) (0, true)
theorem fineF_snoc (R : Nat → C3) (pre : List Reg) (x : Reg) : fineF R (pre ++ [x]) = fineS R (fineF R pre) x := by
  unfold fineF
  rw [List.foldl_append]
  rfl
theorem fineF_tag (R : Nat → C3) : ∀ k, (fineF R (tagU R k)).2 = true ∧ (fineF R (tagU R k)).1 ≤ k - 1
  | 0 => ⟨rfl, Nat.le_refl _⟩
  | k + 1 => by
    have ih := fineF_tag R k
    by_cases h : (1 ≤ k ∧ k ≤ 32) ∧ (R k).1 = true
    · rw [tagU_hit R k h.1 h.2, fineF_snoc]
      have e := decide_eq_true (show (fineF R (tagU R k)).1 < k by omega)
      have e1 := ih.1
      have e2 := h.2
      unfold fineS
      dsimp only
      exact ⟨by simp [e1, e2, e], by omega⟩
    · rw [tagU_miss R k h]
      exact ⟨ih.1, by omega⟩
theorem low31 (a : Int) : 0 ≤ bits .and .i64 a 31 ∧ bits .and .i64 a 31 ≤ 31 := by
  have h : bits .and .i64 a 31 = IntKind.i64.wrap ((BitVec.ofInt 64 a &&& BitVec.ofInt 64 31).toNat : Int) := rfl
  have h2 : (BitVec.ofInt 64 a &&& BitVec.ofInt 64 31).toNat ≤ 31 := by
    rw [BitVec.toNat_and]
    exact Nat.and_le_right
  rw [h, IntKind.wrap_i64]
  omega
/-- What the first function keeps: the context, how many came, the last number, whether all was fine. -/
structure JK (R : Nat → C3) (w0 : World) (b2 b8 b9 b10 : Nat) (pre : List Reg) (W : World) : Prop where
  ctx : Ctx W b2 R
  n : W.cell? ⟨b8, 0, none⟩ = some (.int .i64 (pre.length : Int))
  no : Own W b8 1
  last : W.cell? ⟨b9, 0, none⟩ = some (.int .i64 ((fineF R pre).1 : Int))
  lasto : Own W b9 1
  fine : W.cell? ⟨b10, 0, none⟩ = some (.bool (fineF R pre).2)
  fineo : Own W b10 1
  below : Below w0.heap.size w0 W
theorem jk_stays (R : Nat → C3) (w0 : World) (b2 b8 b9 b10 : Nat) : Stays (JK R w0 b2 b8 b9 b10) := fun _ _ _ h hb =>
  ⟨h.ctx.be hb, c_be hb h.n, o_be hb h.no, c_be hb h.last, o_be hb h.lasto, c_be hb h.fine, o_be hb h.fineo, h.below.trans (hb.mono h.below.size)⟩

def never (_ : List Reg) (_ : World) : Prop := False

set_option maxRecDepth 100000 in
set_option maxHeartbeats 2000000 in
theorem clk_reg (R : Nat → C3) (w0 : World) (b2 b8 b9 b10 Bc : Nat) (h1 : w0.heap.size ≤ b8) (h2 : b8 < b9) (h3 : b9 < b10) (h4 : b2 < b8) (h5 : Bc < b8) (x : Reg) (k : Nat) (hkx : x.1 = k) (hk : k < 32) (pre : List Reg) (W : World) (hJ : JK R w0 b2 b8 b9 b10 pre W) (hl : pre.length < 33) :
    Calls Tryd.prog 18 #[.int .i64 (x.1 : Int), capV (R x.1), .pointer (some ⟨b2, 0, none⟩), .pointer (some ⟨b10, 0, none⟩), .pointer (some ⟨b9, 0, none⟩), .pointer (some ⟨b8, 0, none⟩)] W fun e W' => (e = .returned (.bool true) ∧ JK R w0 b2 b8 b9 b10 (pre ++ [x]) W' ∧ (Ctx W Bc R → Ctx W' Bc R)) ∨ (e = .returned (.bool false) ∧ never (pre ++ [x]) W') := by
  obtain ⟨hX, jn, jno, jl, jlo, jf, jfo, jb⟩ := hJ
  have hfs := fineF_snoc R pre x
  unfold fineS at hfs
  have hlen : (((pre ++ [x]).length : Nat) : Int) = (pre.length : Int) + 1 := by rw [List.length_append, List.length_singleton]; omega
  have hwr : IntKind.i64.wrap ((pre.length : Int) + 1) = (pre.length : Int) + 1 := by rw [IntKind.wrap_i64]; omega
  have p8 := World.block_lt_of_cell? W _ jn
  have p9 := World.block_lt_of_cell? W _ jl
  have p10 := World.block_lt_of_cell? W _ jf
  have p2 := hX.pos
  dsimp only at p8 p9 p10
  have hx := x.2
  rw [hkx] at hfs hx ⊢
  have e32 : (k : Int) ≤ 32 := by omega
  have q0 := hX.c0 (i := 32) (by omega)
  have q1 := hX.c1 (i := 32) (by omega)
  have q2 := hX.c2 (i := 32) (by omega)
  rw [show 3 * 32 = 96 from rfl] at q0 q1 q2
  have e1 : (k : Int) < 32 := by omega
  have C1 := hide (fun W => get_all R (k : Int) W)
  rw [show getR R (k : Int) = R k from by unfold getR; rw [if_pos (by omega), Int.toNat_natCast]] at C1
  obtain ⟨⟨t, m, a⟩, hc⟩ : ∃ c, R k = c := ⟨_, rfl⟩
  unfold capV at C1 ⊢
  rw [hc] at C1 hfs ⊢
  dsimp only at C1 hfs ⊢
  obtain ⟨⟨t2, m2, a2⟩, hc2⟩ : ∃ c, R 32 = c := ⟨_, rfl⟩
  rw [hc2] at q0 q1 q2
  dsimp only at q0 q1 q2
  clear hc2
  clear hc hkx hx
  generalize fineF R pre = P at hfs jl jf
  obtain ⟨L, f⟩ := P
  dsimp only at hfs jl jf
  have SS := cell_same
  have LB' := ltB_add
  have LS := ltB_self
  have LA' := alloc_reads
  have LH := alloc_holds
  go_enter Tryd.func18, Tryd.ntmps18
  go_upto_region 4 with (first | ((refine wpList_load_ctx rfl ctx_p rfl rfl (R := R) ?_ ?_); (focus ((repeat (first | with_reducible assumption | with_reducible refine Ctx.dr ?_ _ | with_reducible refine Ctx.d1 ?_ | with_reducible refine Ctx.al ?_ _ | (with_reducible refine x_set ?_ ?_; focus (dsimp only; omega)) | (with_reducible refine x_sc ?_ ?_; focus omega) | (with_reducible refine x_be (by with_reducible assumption) ?_))); done))) | (go_at_call 10; (with_reducible refine (C1.out _).mono ?_); rintro e w1 ⟨rfl, hb1⟩; have hr1 := below_reads hb1; have hh1 := below_holds hb1; obtain ⟨m1, hs1⟩ := below_grew hb1) | fail)
  refine wp_abs (fun W2 => Below W.heap.size W W2 ∧ W2.cell? ⟨W.heap.size, 0, none⟩ = some (.bool t) ∧ W2.cell? ⟨W.heap.size, 1, none⟩ = some (.int .u64 (m : Int)) ∧ W2.cell? ⟨W.heap.size, 2, none⟩ = some (.int .u64 (a : Int)) ∧ W2.cell? ⟨W.heap.size + 1, 0, none⟩ = some (.bool t) ∧ W2.cell? ⟨W.heap.size + 1, 1, none⟩ = some (.int .u64 (m : Int)) ∧ W2.cell? ⟨W.heap.size + 1, 2, none⟩ = some (.int .u64 (a : Int))) ?_ ?_
  · refine ⟨?_, ?_, ?_, ?_, ?_, ?_, ?_⟩
    · repeat (first | with_reducible assumption | with_reducible exact Below.refl _ _ | with_reducible refine Below.drew ?_ | with_reducible refine below_drewN ?_ _ | with_reducible refine bw_alloc ?_ _ | (with_reducible refine bw_set ?_ ?_ _; focus (dsimp only; omega)) | (with_reducible apply bw_behind; with_reducible assumption))
    all_goals (simp (maxDischargeDepth := 4) [go_sem, *])
  rintro W2 ⟨hB2, d0, d1, d2, g0, g1, g2⟩
  clear hb1 hr1 hh1 hs1
  clear SS LB' LS LA' LH q0 q1 q2
  have c8 := c_be hB2 jn
  have c9 := c_be hB2 jl
  have c10 := c_be hB2 jf
  have o8 := o_be hB2 jno
  have o9 := o_be hB2 jlo
  have o10 := o_be hB2 jfo
  have z8 := o8.free 0 (by omega)
  have z9 := o9.free 0 (by omega)
  have z10 := o10.free 0 (by omega)
  have n1 : ¬ b8 = b9 := by omega
  have n2 : ¬ b9 = b8 := by omega
  have n3 : ¬ b8 = b10 := by omega
  have n4 : ¬ b10 = b8 := by omega
  have n5 : ¬ b9 = b10 := by omega
  have n6 : ¬ b10 = b9 := by omega
  cases f with
  | false =>
    have HF := hide (hfs.trans (show (_, false && _) = (k, false) from rfl))
    clear hfs
    go_wp2
    go_ret
    refine .inl ⟨rfl, ⟨?_, ?_, ?_, ?_, ?_, ?_, ?_, ?_⟩, fun h => (((h.be hB2).set (by dsimp only; omega) _).set (by dsimp only; omega) _).set (by dsimp only; omega) _⟩
    · exact (((hX.be hB2).set (by dsimp only; omega) _).set (by dsimp only; omega) _).set (by dsimp only; omega) _
    · rw [hlen]; exact cell_same _ _ _ ((o_set (o_set o8)).some 0 (by omega))
    · exact o_set (o_set (o_set o8))
    · rw [HF.out]; exact c_set (by dsimp only; omega) (cell_same _ _ _ ((o_set o9).some 0 (by omega)))
    · exact o_set (o_set (o_set o9))
    · rw [HF.out]; exact c_set (by dsimp only; omega) (c_set (by dsimp only; omega) (cell_same _ _ _ (o10.some 0 (by omega))))
    · exact o_set (o_set (o_set o10))
    · exact (((jb.trans (hB2.mono jb.size)).setCell (p := ⟨b10, 0, none⟩) (show w0.heap.size ≤ b10 by omega) _).setCell (p := ⟨b9, 0, none⟩) (show w0.heap.size ≤ b9 by omega) _).setCell (p := ⟨b8, 0, none⟩) (show w0.heap.size ≤ b8 by omega) _
  | true =>
    by_cases hlt : L < k
    · have glt : (L : Int) < (k : Int) := by omega
      have HF := hide (hfs.trans (show (_, true && (decide (L < k) && t)) = (k, t) by rw [decide_eq_true hlt]; rfl))
      clear hfs
      go_wp2
      go_ret
      refine .inl ⟨rfl, ⟨?_, ?_, ?_, ?_, ?_, ?_, ?_, ?_⟩, fun h => (((h.be hB2).set (by dsimp only; omega) _).set (by dsimp only; omega) _).set (by dsimp only; omega) _⟩
      · exact (((hX.be hB2).set (by dsimp only; omega) _).set (by dsimp only; omega) _).set (by dsimp only; omega) _
      · rw [hlen]; exact cell_same _ _ _ ((o_set (o_set o8)).some 0 (by omega))
      · exact o_set (o_set (o_set o8))
      · rw [HF.out]; exact c_set (by dsimp only; omega) (cell_same _ _ _ ((o_set o9).some 0 (by omega)))
      · exact o_set (o_set (o_set o9))
      · rw [HF.out]; exact c_set (by dsimp only; omega) (c_set (by dsimp only; omega) (cell_same _ _ _ (o10.some 0 (by omega))))
      · exact o_set (o_set (o_set o10))
      · exact (((jb.trans (hB2.mono jb.size)).setCell (p := ⟨b10, 0, none⟩) (show w0.heap.size ≤ b10 by omega) _).setCell (p := ⟨b9, 0, none⟩) (show w0.heap.size ≤ b9 by omega) _).setCell (p := ⟨b8, 0, none⟩) (show w0.heap.size ≤ b8 by omega) _
    · have glt : ¬ (L : Int) < (k : Int) := by omega
      have HF := hide (hfs.trans (show (_, true && (decide (L < k) && t)) = (k, false) by rw [decide_eq_false hlt]; rfl))
      clear hfs
      go_wp2
      go_ret
      refine .inl ⟨rfl, ⟨?_, ?_, ?_, ?_, ?_, ?_, ?_, ?_⟩, fun h => (((h.be hB2).set (by dsimp only; omega) _).set (by dsimp only; omega) _).set (by dsimp only; omega) _⟩
      · exact (((hX.be hB2).set (by dsimp only; omega) _).set (by dsimp only; omega) _).set (by dsimp only; omega) _
      · rw [hlen]; exact cell_same _ _ _ ((o_set (o_set o8)).some 0 (by omega))
      · exact o_set (o_set (o_set o8))
      · rw [HF.out]; exact c_set (by dsimp only; omega) (cell_same _ _ _ ((o_set o9).some 0 (by omega)))
      · exact o_set (o_set (o_set o9))
      · rw [HF.out]; exact c_set (by dsimp only; omega) (c_set (by dsimp only; omega) (cell_same _ _ _ (o10.some 0 (by omega))))
      · exact o_set (o_set (o_set o10))
      · exact (((jb.trans (hB2.mono jb.size)).setCell (p := ⟨b10, 0, none⟩) (show w0.heap.size ≤ b10 by omega) _).setCell (p := ⟨b9, 0, none⟩) (show w0.heap.size ≤ b9 by omega) _).setCell (p := ⟨b8, 0, none⟩) (show w0.heap.size ≤ b8 by omega) _

set_option maxRecDepth 100000 in
set_option maxHeartbeats 2000000 in
theorem clk_pcc (R : Nat → C3) (w0 : World) (b2 b8 b9 b10 Bc : Nat) (h1 : w0.heap.size ≤ b8) (h2 : b8 < b9) (h3 : b9 < b10) (h4 : b2 < b8) (h5 : Bc < b8) (x : Reg) (k : Nat) (hkx : x.1 = k) (hk : k = 32) (pre : List Reg) (W : World) (hJ : JK R w0 b2 b8 b9 b10 pre W) (hl : pre.length < 33) :
    Calls Tryd.prog 18 #[.int .i64 (x.1 : Int), capV (R x.1), .pointer (some ⟨b2, 0, none⟩), .pointer (some ⟨b10, 0, none⟩), .pointer (some ⟨b9, 0, none⟩), .pointer (some ⟨b8, 0, none⟩)] W fun e W' => (e = .returned (.bool true) ∧ JK R w0 b2 b8 b9 b10 (pre ++ [x]) W' ∧ (Ctx W Bc R → Ctx W' Bc R)) ∨ (e = .returned (.bool false) ∧ never (pre ++ [x]) W') := by
  obtain ⟨hX, jn, jno, jl, jlo, jf, jfo, jb⟩ := hJ
  have hfs := fineF_snoc R pre x
  unfold fineS at hfs
  have hlen : (((pre ++ [x]).length : Nat) : Int) = (pre.length : Int) + 1 := by rw [List.length_append, List.length_singleton]; omega
  have hwr : IntKind.i64.wrap ((pre.length : Int) + 1) = (pre.length : Int) + 1 := by rw [IntKind.wrap_i64]; omega
  have p8 := World.block_lt_of_cell? W _ jn
  have p9 := World.block_lt_of_cell? W _ jl
  have p10 := World.block_lt_of_cell? W _ jf
  have p2 := hX.pos
  dsimp only at p8 p9 p10
  have hx := x.2
  rw [hkx] at hfs hx ⊢
  have e32 : (k : Int) ≤ 32 := by omega
  have q0 := hX.c0 (i := 32) (by omega)
  have q1 := hX.c1 (i := 32) (by omega)
  have q2 := hX.c2 (i := 32) (by omega)
  rw [show 3 * 32 = 96 from rfl] at q0 q1 q2
  subst hk
  obtain ⟨⟨t, m, a⟩, hc⟩ : ∃ c, R 32 = c := ⟨_, rfl⟩
  unfold capV
  rw [hc] at hfs q0 q1 q2 ⊢
  dsimp only at hfs q0 q1 q2 ⊢
  clear hc hkx hx
  generalize fineF R pre = P at hfs jl jf
  obtain ⟨L, f⟩ := P
  dsimp only at hfs jl jf
  have SS := cell_same
  have LB' := ltB_add
  have LS := ltB_self
  have LA' := alloc_reads
  have LH := alloc_holds
  go_enter Tryd.func18, Tryd.ntmps18
  go_upto_region 4 with (first | fail)
  refine wp_abs (fun W2 => Below W.heap.size W W2 ∧ W2.cell? ⟨W.heap.size, 0, none⟩ = some (.bool t) ∧ W2.cell? ⟨W.heap.size, 1, none⟩ = some (.int .u64 (m : Int)) ∧ W2.cell? ⟨W.heap.size, 2, none⟩ = some (.int .u64 (a : Int)) ∧ W2.cell? ⟨W.heap.size + 1, 0, none⟩ = some (.bool t) ∧ W2.cell? ⟨W.heap.size + 1, 1, none⟩ = some (.int .u64 (m : Int)) ∧ W2.cell? ⟨W.heap.size + 1, 2, none⟩ = some (.int .u64 (a : Int))) ?_ ?_
  · refine ⟨?_, ?_, ?_, ?_, ?_, ?_, ?_⟩
    · repeat (first | with_reducible assumption | with_reducible exact Below.refl _ _ | with_reducible refine Below.drew ?_ | with_reducible refine below_drewN ?_ _ | with_reducible refine bw_alloc ?_ _ | (with_reducible refine bw_set ?_ ?_ _; focus (dsimp only; omega)) | (with_reducible apply bw_behind; with_reducible assumption))
    all_goals (simp (maxDischargeDepth := 4) [go_sem, *])
  rintro W2 ⟨hB2, d0, d1, d2, g0, g1, g2⟩
  clear SS LB' LS LA' LH q0 q1 q2
  have c8 := c_be hB2 jn
  have c9 := c_be hB2 jl
  have c10 := c_be hB2 jf
  have o8 := o_be hB2 jno
  have o9 := o_be hB2 jlo
  have o10 := o_be hB2 jfo
  have z8 := o8.free 0 (by omega)
  have z9 := o9.free 0 (by omega)
  have z10 := o10.free 0 (by omega)
  have n1 : ¬ b8 = b9 := by omega
  have n2 : ¬ b9 = b8 := by omega
  have n3 : ¬ b8 = b10 := by omega
  have n4 : ¬ b10 = b8 := by omega
  have n5 : ¬ b9 = b10 := by omega
  have n6 : ¬ b10 = b9 := by omega
  cases f with
  | false =>
    have HF := hide (hfs.trans (show (_, false && _) = (32, false) from rfl))
    clear hfs
    go_wp2
    go_ret
    refine .inl ⟨rfl, ⟨?_, ?_, ?_, ?_, ?_, ?_, ?_, ?_⟩, fun h => (((h.be hB2).set (by dsimp only; omega) _).set (by dsimp only; omega) _).set (by dsimp only; omega) _⟩
    · exact (((hX.be hB2).set (by dsimp only; omega) _).set (by dsimp only; omega) _).set (by dsimp only; omega) _
    · rw [hlen]; exact cell_same _ _ _ ((o_set (o_set o8)).some 0 (by omega))
    · exact o_set (o_set (o_set o8))
    · rw [HF.out]; exact c_set (by dsimp only; omega) (cell_same _ _ _ ((o_set o9).some 0 (by omega)))
    · exact o_set (o_set (o_set o9))
    · rw [HF.out]; exact c_set (by dsimp only; omega) (c_set (by dsimp only; omega) (cell_same _ _ _ (o10.some 0 (by omega))))
    · exact o_set (o_set (o_set o10))
    · exact (((jb.trans (hB2.mono jb.size)).setCell (p := ⟨b10, 0, none⟩) (show w0.heap.size ≤ b10 by omega) _).setCell (p := ⟨b9, 0, none⟩) (show w0.heap.size ≤ b9 by omega) _).setCell (p := ⟨b8, 0, none⟩) (show w0.heap.size ≤ b8 by omega) _
  | true =>
    by_cases hlt : L < 32
    · have glt : (L : Int) < 32 := by omega
      have HF := hide (hfs.trans (show (_, true && (decide (L < 32) && t)) = (32, t) by rw [decide_eq_true hlt]; rfl))
      clear hfs
      go_wp2
      go_ret
      refine .inl ⟨rfl, ⟨?_, ?_, ?_, ?_, ?_, ?_, ?_, ?_⟩, fun h => (((h.be hB2).set (by dsimp only; omega) _).set (by dsimp only; omega) _).set (by dsimp only; omega) _⟩
      · exact (((hX.be hB2).set (by dsimp only; omega) _).set (by dsimp only; omega) _).set (by dsimp only; omega) _
      · rw [hlen]; exact cell_same _ _ _ ((o_set (o_set o8)).some 0 (by omega))
      · exact o_set (o_set (o_set o8))
      · rw [HF.out]; exact c_set (by dsimp only; omega) (cell_same _ _ _ ((o_set o9).some 0 (by omega)))
      · exact o_set (o_set (o_set o9))
      · rw [HF.out]; exact c_set (by dsimp only; omega) (c_set (by dsimp only; omega) (cell_same _ _ _ (o10.some 0 (by omega))))
      · exact o_set (o_set (o_set o10))
      · exact (((jb.trans (hB2.mono jb.size)).setCell (p := ⟨b10, 0, none⟩) (show w0.heap.size ≤ b10 by omega) _).setCell (p := ⟨b9, 0, none⟩) (show w0.heap.size ≤ b9 by omega) _).setCell (p := ⟨b8, 0, none⟩) (show w0.heap.size ≤ b8 by omega) _
    · have glt : ¬ (L : Int) < 32 := by omega
      have HF := hide (hfs.trans (show (_, true && (decide (L < 32) && t)) = (32, false) by rw [decide_eq_false hlt]; rfl))
      clear hfs
      go_wp2
      go_ret
      refine .inl ⟨rfl, ⟨?_, ?_, ?_, ?_, ?_, ?_, ?_, ?_⟩, fun h => (((h.be hB2).set (by dsimp only; omega) _).set (by dsimp only; omega) _).set (by dsimp only; omega) _⟩
      · exact (((hX.be hB2).set (by dsimp only; omega) _).set (by dsimp only; omega) _).set (by dsimp only; omega) _
      · rw [hlen]; exact cell_same _ _ _ ((o_set (o_set o8)).some 0 (by omega))
      · exact o_set (o_set (o_set o8))
      · rw [HF.out]; exact c_set (by dsimp only; omega) (cell_same _ _ _ ((o_set o9).some 0 (by omega)))
      · exact o_set (o_set (o_set o9))
      · rw [HF.out]; exact c_set (by dsimp only; omega) (c_set (by dsimp only; omega) (cell_same _ _ _ (o10.some 0 (by omega))))
      · exact o_set (o_set (o_set o10))
      · exact (((jb.trans (hB2.mono jb.size)).setCell (p := ⟨b10, 0, none⟩) (show w0.heap.size ≤ b10 by omega) _).setCell (p := ⟨b9, 0, none⟩) (show w0.heap.size ≤ b9 by omega) _).setCell (p := ⟨b8, 0, none⟩) (show w0.heap.size ≤ b8 by omega) _

theorem clk_any (R : Nat → C3) (w0 : World) (b2 b8 b9 b10 Bc : Nat) (h1 : w0.heap.size ≤ b8) (h2 : b8 < b9) (h3 : b9 < b10) (h4 : b2 < b8) (h5 : Bc < b8) (pre : List Reg) (x : Reg) (W : World) (hJ : JK R w0 b2 b8 b9 b10 pre W) (hl : pre.length < 33) :
    Calls Tryd.prog 18 #[.int .i64 (x.1 : Int), capV (R x.1), .pointer (some ⟨b2, 0, none⟩), .pointer (some ⟨b10, 0, none⟩), .pointer (some ⟨b9, 0, none⟩), .pointer (some ⟨b8, 0, none⟩)] W fun e W' => (e = .returned (.bool true) ∧ JK R w0 b2 b8 b9 b10 (pre ++ [x]) W' ∧ (Ctx W Bc R → Ctx W' Bc R)) ∨ (e = .returned (.bool false) ∧ never (pre ++ [x]) W') := by
  by_cases h : x.1 < 32
  · exact clk_reg R w0 b2 b8 b9 b10 Bc h1 h2 h3 h4 h5 x x.1 rfl h pre W hJ hl
  · exact clk_pcc R w0 b2 b8 b9 b10 Bc h1 h2 h3 h4 h5 x x.1 rfl (by have := x.2; omega) pre W hJ hl

/-- What the second keeps: how many came, and that these are not more than are asked for. -/
structure JM (w0 : World) (b11 b3 : Nat) (M0 : Int) (pre : List Reg) (W : World) : Prop where
  n : W.cell? ⟨b11, 0, none⟩ = some (.int .i64 (pre.length : Int))
  no : Own W b11 1
  most : W.cell? ⟨b3, 0, none⟩ = some (.int .i64 M0)
  le : (pre.length : Int) ≤ bits .and .i64 M0 31
  below : Below w0.heap.size w0 W
structure JMx (w0 : World) (b11 : Nat) (M0 : Int) (pre : List Reg) (W : World) : Prop where
  n : W.cell? ⟨b11, 0, none⟩ = some (.int .i64 (pre.length : Int))
  eq : (pre.length : Int) = bits .and .i64 M0 31 + 1
  below : Below w0.heap.size w0 W
theorem jm_stays (w0 : World) (b11 b3 : Nat) (M0 : Int) : Stays (JM w0 b11 b3 M0) := fun _ _ _ h hb => ⟨c_be hb h.n, o_be hb h.no, c_be hb h.most, h.le, h.below.trans (hb.mono h.below.size)⟩

set_option maxRecDepth 100000 in
set_option maxHeartbeats 2000000 in
theorem clm_any (R : Nat → C3) (w0 : World) (b11 b3 Bc : Nat) (M0 : Int) (h1 : w0.heap.size ≤ b11) (h2 : b3 < b11) (h5 : Bc < b11) (pre : List Reg) (x : Reg) (W : World) (hJ : JM w0 b11 b3 M0 pre W) (hl : pre.length < 33) :
    Calls Tryd.prog 19 #[.int .i64 (x.1 : Int), capV (R x.1), .pointer (some ⟨b11, 0, none⟩), .pointer (some ⟨b3, 0, none⟩)] W fun e W' => (e = .returned (.bool true) ∧ JM w0 b11 b3 M0 (pre ++ [x]) W' ∧ (Ctx W Bc R → Ctx W' Bc R)) ∨ (e = .returned (.bool false) ∧ JMx w0 b11 M0 (pre ++ [x]) W') := by
  obtain ⟨jn, jno, jm, jle, jb⟩ := hJ
  have hlen : (((pre ++ [x]).length : Nat) : Int) = (pre.length : Int) + 1 := by rw [List.length_append, List.length_singleton]; omega
  have hwr : IntKind.i64.wrap ((pre.length : Int) + 1) = (pre.length : Int) + 1 := by rw [IntKind.wrap_i64]; omega
  have p11 := World.block_lt_of_cell? W _ jn
  have p3 := World.block_lt_of_cell? W _ jm
  dsimp only at p11 p3
  have z11 := jno.free 0 (by omega)
  have n1 : ¬ b11 = b3 := by omega
  have n2 : ¬ b3 = b11 := by omega
  have n3 : ¬ b11 = W.heap.size := by omega
  have n4 : ¬ b3 = W.heap.size := by omega
  unfold capV
  generalize hmm : bits .and .i64 M0 31 = mm at *
  have HMM := hide hmm
  clear hmm
  have hfin : ∀ V : World, V = (W.setCell ⟨b11, 0, none⟩ (.int .i64 ((pre.length : Int) + 1))).alloc (.cells #[.bool (R x.1).1, .int .u64 ((R x.1).2.1 : Int), .int .u64 ((R x.1).2.2 : Int)] 24) → V.cell? ⟨b11, 0, none⟩ = some (.int .i64 (((pre ++ [x]).length : Nat) : Int)) ∧ Own V b11 1 ∧ V.cell? ⟨b3, 0, none⟩ = some (.int .i64 M0) ∧ Below w0.heap.size w0 V ∧ (Ctx W Bc R → Ctx V Bc R) := fun V hV => by
    subst hV
    refine ⟨by rw [hlen]; exact c_al _ (cell_same _ _ _ (jno.some 0 (by omega))), o_al _ (o_set jno), c_al _ (c_set (by dsimp only; omega) jm), below_alloc (jb.setCell (p := ⟨b11, 0, none⟩) h1 _) (Nat.le_refl _) _, fun h => (h.set (by dsimp only; omega) _).al _⟩
  have HFIN := hide hfin
  clear hfin
  by_cases hc : (pre.length : Int) + 1 ≤ mm
  · go_enter Tryd.func19, Tryd.ntmps19
    go_wp2
    go_ret
    obtain ⟨f1, f2, f3, f4, f5⟩ := HFIN.out _ rfl
    exact .inl ⟨ret_bool (by simp [HMM.out, hc]), ⟨f1, f2, f3, by rw [hlen, HMM.out]; exact hc, f4⟩, f5⟩
  · go_enter Tryd.func19, Tryd.ntmps19
    go_wp2
    go_ret
    obtain ⟨f1, f2, f3, f4, f5⟩ := HFIN.out _ rfl
    exact .inr ⟨ret_bool (by simp [HMM.out, hc]), ⟨f1, by rw [hlen, HMM.out]; omega, f4⟩⟩

/-- What the third keeps: how many came. -/
structure JL (w0 : World) (b14 : Nat) (pre : List Reg) (W : World) : Prop where
  n : W.cell? ⟨b14, 0, none⟩ = some (.int .i64 (pre.length : Int))
  no : Own W b14 1
  below : Below w0.heap.size w0 W
theorem jl_stays (w0 : World) (b14 : Nat) : Stays (JL w0 b14) := fun _ _ _ h hb => ⟨c_be hb h.n, o_be hb h.no, h.below.trans (hb.mono h.below.size)⟩

set_option maxRecDepth 100000 in
set_option maxHeartbeats 2000000 in
theorem cll_any (R : Nat → C3) (w0 : World) (b14 Bc : Nat) (h1 : w0.heap.size ≤ b14) (h5 : Bc ≠ b14) (pre : List Reg) (x : Reg) (W : World) (hJ : JL w0 b14 pre W) (hl : pre.length < 33) :
    Calls Tryd.prog 21 #[.int .i64 (x.1 : Int), capV (R x.1), .pointer (some ⟨b14, 0, none⟩)] W fun e W' => (e = .returned (.bool true) ∧ JL w0 b14 (pre ++ [x]) W' ∧ (Ctx W Bc R → Ctx W' Bc R)) ∨ (e = .returned (.bool false) ∧ never (pre ++ [x]) W') := by
  obtain ⟨jn, jno, jb⟩ := hJ
  have hlen : (((pre ++ [x]).length : Nat) : Int) = (pre.length : Int) + 1 := by rw [List.length_append, List.length_singleton]; omega
  have hwr : IntKind.i64.wrap ((pre.length : Int) + 1) = (pre.length : Int) + 1 := by rw [IntKind.wrap_i64]; omega
  have p14 := World.block_lt_of_cell? W _ jn
  dsimp only at p14
  have z14 := jno.free 0 (by omega)
  have n3 : ¬ b14 = W.heap.size := by omega
  unfold capV
  have HL := hide hlen
  clear hlen
  go_enter Tryd.func21, Tryd.ntmps21
  go_wp2
  go_ret
  exact .inl ⟨rfl, ⟨by rw [HL.out]; exact c_al _ (cell_same _ _ _ (jno.some 0 (by omega))), o_al _ (o_set jno), below_alloc (jb.setCell (p := ⟨b14, 0, none⟩) h1 _) (Nat.le_refl _) _⟩, fun h => (h.set (by dsimp only; omega) _).al _⟩

end Go.Proofs.YtnbfjaocakghkaaDoor
