/-
  Read and Write that do not fail.
-/
import Derived.Test.YtadhjgjemndnpaaBlk3
import Derived.Deep.DeepCutAuto
namespace Go.Proofs.Ytadhjgjemndnpaa
open Go.RowKit Go.Maps

/-- A load that yields the same in every world of the class. -/
theorem quiet_load {P : Program} {C : World → Prop} {o : Oper} {a : Act} {t : TypeId} {x : Operand} {p v : Value} {next : Act → Prop} (ho : o.op = .load t x) (hx : a.eval x = p) (hl : ∀ w, C w → (Instr.loadAt t p).run P w = .ok v w) (hk : next (a.put o.dst v)) : o.quiet P a C next :=
  ⟨v, fun w hw => by simp [Oper.quietAt, execOp, ho, hx, hl w hw, Result.andThen, Oper.quietUpon], hk⟩
theorem wpQuiet_load {P : Program} {C : World → Prop} {ops : Array Oper} {rest : List Oper} {o : Oper} {a : Act} {t : TypeId} {x : Operand} {p v : Value} {Q : Act → Prop} (hw : Region.wanted o (yielded ops a.tmps) = true) (ho : o.op = .load t x) (hx : a.eval x = p) (hl : ∀ w, C w → (Instr.loadAt t p).run P w = .ok v w)
    (hk : wpQuiet P ops C Q rest (a.put o.dst v)) : wpQuiet P ops C Q (o :: rest) a := by
  unfold wpQuiet
  rw [if_pos hw]
  exact quiet_load ho hx hl hk

set_option maxRecDepth 100000 in
set_option maxHeartbeats 4000000 in
theorem read_let (b m : Nat) (n f : Int) (i k : Nat) (C : Nat → List UInt8) (hC : (C i).length = 4096) (hn : 0 < n) (hi : (i : Int) < n) (hn2 : n ≤ 64) (hf : f ≤ 0) (w : World) (h : DevAt w b n m f) (hm : MapB w m k C) :
    Calls Try.prog 12 #[.pointer (some ⟨b, 0, none⟩), .int .i64 (i : Int)] w fun e w' => ∃ g, e = .returned (.tuple #[.slice (some ⟨g, 0, none⟩) 4096 4096, .int .i64 0]) ∧ w.heap.size ≤ g ∧ Row w' g (cellsB (C i)) ∧ Below w.heap.size w w' := by
  have C1 := hide (begin_ok b m n f i hn (by omega) hi hf w h)
  have hz := arr_zeroV
  have hs := arr_size
  have c1 := h.c1
  obtain ⟨Z, hZ⟩ : ∃ Z, Z = (cellsB zeroB).toArray := ⟨_, rfl⟩
  have hZs : Z.size = 4096 := by rw [hZ, List.size_toArray, cellsB_length, zeroB_length]
  rw [← hZ] at hz
  have hl : ∀ q, (Instr.lookup 45 (.map (some m)) (.int .i64 (i : Int)) false).run Try.prog (w.drewN q) = .ok (.agg (cellsB (C i)).toArray) (w.drewN q) := fun q => lookup_mb (mb_dr q hm) i (by omega)
  obtain ⟨c, hc⟩ : ∃ c, c = (cellsB (C i)).toArray := ⟨_, rfl⟩
  have hcs : c.size = 4096 := by rw [hc, List.size_toArray, cellsB_length, hC]
  have hc1 : c.all (·.oneCell') = true := by rw [hc]; exact cellsB_one _
  rw [← hc] at hl
  have hst : ∀ q, (storeCells ⟨w.heap.size, 0, none⟩ c.toList).run Try.prog ((w.drewN q).alloc (.cells Z 54)) = .ok () ((w.drewN q).alloc (.cells c 54)) := fun q => run_storeCells_new (w.drewN q) _ Z c (by rw [hcs]; exact hs) (by rw [hZs, hcs]) hc1
  have hR : Hid (∀ W : World, Row (W.alloc (.cells c 54)) W.heap.size (cellsB (C i))) := hide (fun W => row_new rfl (by rw [hc]))
  clear h hm hn hi hn2 hf hZ hZs hs hc hc1 hC
  go_enter Try.func12, Try.ntmps12
  go_wp2_with (go_at_call 17; refine C1.out.mono ?_; rintro e w1 ⟨rfl, q, rfl⟩)
  go_ret2
  exact ⟨_, rfl, by simp, hR.out _, bw_alloc (below_drewN (Below.refl _ _) _) _⟩

set_option maxRecDepth 100000 in
set_option maxHeartbeats 4000000 in
theorem write_let (b m : Nat) (n f : Int) (i k sb so sc : Nat) (C : Nat → List UInt8) (L : List UInt8) (hL : L.length = 4096) (hk : k < 1000) (hn : 0 < n) (hi : (i : Int) < n) (hn2 : n ≤ 64) (hf : f ≤ 0) (w : World) (h : DevAt w b n m f) (hm : MapB w m k C) (hs : w.rangeAt sb so (cellsB L)) :
    Calls Try.prog 10 #[.pointer (some ⟨b, 0, none⟩), .int .i64 (i : Int), .slice (some ⟨sb, so, none⟩) 4096 sc] w fun e w' => e = .returned (.int .i64 0) ∧ MapB w' m (k + 1) (setC C i L) ∧ OutB m w w' := by
  have C1 := hide (begin_ok b m n f i hn (by omega) hi hf w h)
  have hi64 : i < 64 := by omega
  obtain ⟨c, hc⟩ : ∃ c, c = (cellsB L).toArray := ⟨_, rfl⟩
  have HS := hide hs
  have HM := hide hm
  have HD := hide h
  have harr : ∀ W, (Instr.arrayAt 54 (.slice (some ⟨sb, so, none⟩) 4096 sc)).run Try.prog W = .ok (.pointer (some ⟨sb, so, none⟩)) W := fun W => by
    simp [Instr.arrayAt, run_underlying Try.underlying54]
  clear h hm hs hn hi hn2 hf
  go_enter Try.func10, Try.ntmps10
  go_upto_region 4 with (go_at_call 17; refine C1.out.mono ?_; rintro e w1 ⟨rfl, q, rfl⟩)
  refine wp_abs (fun W => ∃ q, W = w.drewN q) ⟨_, rfl⟩ ?_
  rintro w0 ⟨q, rfl⟩
  refine wp_region_tail_lit (C := fun W => ∃ r, W = w.drewN r) 8 _ rfl (by kernel_rfl) (by kernel_rfl) (by kernel_rfl) ⟨q + 1, by rw [← World.drewN_drewN]; rfl⟩ ?_
  have yc : ∀ r, (w.drewN r).cell? ⟨b, 1, none⟩ = some (.map (some m)) := fun r => (dev_dr r HD.out).c1
  have yl : ∀ r, (Instr.loadAt 54 (.pointer (some ⟨sb, so, none⟩))).run Try.prog (w.drewN r) = .ok (.agg c) (w.drewN r) := fun r => by
    rw [hc]
    exact run_loadAt_mid (w.drewN r) sb so _ (cellsB L) _ (fun j v hv => HS.out j v hv) Try.underlying54 rfl (by rw [cellsB_length, hL]; exact arr_size)
  simp only [List.take_succ_cons, List.take_zero, List.cons_append, List.nil_append, mute]
  iterate 7 (go_big_quiet_step (fail))
  refine wpQuiet_load rfl rfl rfl (p := .pointer (some ⟨sb, so, none⟩)) (v := .agg c) (by rintro _ ⟨r, rfl⟩; exact yl r) ?_
  simp only [Act.put, List.setIfInBounds_toArray, List.set_cons_succ, List.set_cons_zero]
  go_big_quiet_step (fail)
  refine wpQuiet_nil ?_
  rintro _ ⟨r, rfl⟩
  have hm2 := mb_dr r HM.out
  go_wp2_with (at_mapUpdate; refine wpList_store_mb i hi64 L rfl _ _ _ rfl rfl hm2 hk rfl (by rw [hc]; rfl) ?_; intro w3 hm3 ho3)
  go_ret
  exact ⟨rfl, hm3, (OutB.of_below (below_drewN (Below.refl _ _) r)).trans ho3⟩
end Go.Proofs.Ytadhjgjemndnpaa
