/-
  What find answers, turns in memory, and keeps.
-/
import Derived.Test.YtkajndonefkegaaDoorMmuUnit
import Derived.Test.YtkajndonefkegaaDoorGSet
import Derived.Test.YtkajndonefkegaaDoorGWw
import Derived.Test.YtkajndonefkegaaDoorGMtbD
import Derived.Test.YtkajndonefkegaaDoorMtb8
set_option maxRecDepth 100000
set_option maxHeartbeats 64000000
namespace Go.Proofs.YtkajndonefkegaaDoor
open Go.RowKit Words FieldMath PteMath

theorem pg_blk {W W' : World} {N o : Nat} {B : Nat -> BitVec 8} {s : BitVec 256} (hb : W'.heap[N]? = W.heap[N]?) (h : PageAt W N o B s) : PageAt W' N o B s :=
  ⟨fun k hk => (World.cell?_of_block hb).trans (h.byte k hk), fun q hq => (World.cell?_of_block hb).trans (h.word q hq), fun k hk => (World.frozen?_of_block hb).trans (h.free k hk)⟩
theorem mw_blk {W W' : World} {R K C : Nat} {Mm : Nat -> Nat -> BitVec 64} (hb : W'.heap[K]? = W.heap[K]?) (hr : W'.heap[R]? = W.heap[R]?) (h : MemW W R K C Mm) : MemW W' R K C Mm := by
  obtain ⟨B, S, hm, h2⟩ := h
  exact ⟨B, S, ⟨(World.cell?_of_block hr).trans hm.ram, hm.ne, fun p hp => pg_blk hb (hm.page p hp)⟩, h2⟩
theorem MemW.herek {W : World} {R K C : Nat} {Mm : Nat -> Nat -> BitVec 64} (h : MemW W R K C Mm) (hC : 0 < C) : K < W.heap.size := by
  obtain ⟨B, S, hm, h2⟩ := h
  exact (hm.page 0 hC).here
theorem MemW.hereR {W : World} {R K C : Nat} {Mm : Nat -> Nat -> BitVec 64} (h : MemW W R K C Mm) : R < W.heap.size := World.block_lt_of_cell? W _ h.ram
theorem un_first {N : Nat} {M : Nat -> List Ln} {P A : Int} {G : Bool} {W : World} (h : UnitAt N M P A G W) : ∃ x : Int, W.cell? ⟨N, 0, none⟩ = some (.int .u64 x) := by
  obtain ⟨⟨R, h1, _⟩, _, _, _, _⟩ := h
  exact ⟨_, h1.line 0 (by omega) 0 _ rfl⟩
theorem un_nek {N R K C : Nat} {M : Nat -> List Ln} {Mm : Nat -> Nat -> BitVec 64} {P A : Int} {G : Bool} {W : World} (h : UnitAt N M P A G W) (hM : MemW W R K C Mm) (hC : 0 < C) : N ≠ K := by
  intro e
  subst e
  obtain ⟨x, hx⟩ := un_first h
  obtain ⟨B, S, hm, _⟩ := hM
  have : W.cell? ⟨N, 0, none⟩ = some (byI (B 0 0)) := (hm.page 0 hC).byte 0 (by omega)
  rw [hx] at this
  simp [byI] at this
theorem un_ner {N R K C : Nat} {M : Nat -> List Ln} {Mm : Nat -> Nat -> BitVec 64} {P A : Int} {G : Bool} {W : World} (h : UnitAt N M P A G W) (hM : MemW W R K C Mm) : N ≠ R := by
  intro e
  subst e
  obtain ⟨x, hx⟩ := un_first h
  have := hM.ram
  rw [hx] at this
  simp at this
theorem un_net {N : Nat} {M : Nat -> List Ln} {P A : Int} {G : Bool} {W : World} (h : UnitAt N M P A G W) (hT : Tab W) : 0 ≠ N := by
  intro e
  subst e
  obtain ⟨x, hx⟩ := un_first h
  have := hT 0 (by omega)
  rw [hx] at this
  simp at this
theorem mw_net {R K C : Nat} {Mm : Nat -> Nat -> BitVec 64} {W : World} (h : MemW W R K C Mm) (hC : 0 < C) (hT : Tab W) : 0 ≠ K := by
  intro e
  subst e
  obtain ⟨B, S, hm, _⟩ := h
  have h1 : W.cell? ⟨0, 0, none⟩ = some (byI (B 0 0)) := (hm.page 0 hC).byte 0 (by omega)
  have h2 := hT 0 (by omega)
  rw [h1] at h2
  simp [byI] at h2
structure Out2 (N K : Nat) (w W : World) : Prop where
  os : W.os = w.os
  tape : W.tape = w.tape
  output : W.output = w.output
  size : w.heap.size ≤ W.heap.size
  block : ∀ k, k < w.heap.size -> k ≠ N -> k ≠ K -> W.heap[k]? = w.heap[k]?
theorem Out2.of1 {N K : Nat} {a b : World} (h : Out1 N a b) : Out2 N K a b := ⟨h.os, h.tape, h.output, h.size, fun k hk h1 _ => h.block k hk h1⟩
theorem Out2.ofm {N K o : Nat} {a b : World} (h : Out K o a b) : Out2 N K a b := ⟨h.os, h.tape, h.output, h.size, fun k hk _ h1 => h.block k hk h1⟩
theorem Out2.ofb {N K n : Nat} {a b : World} (h : Below n a b) (hn : a.heap.size ≤ n) : Out2 N K a b := ⟨h.os, h.tape, h.output, h.size, fun k hk _ _ => h.block k (by omega)⟩
theorem Out2.trans {N K : Nat} {a b c : World} (h : Out2 N K a b) (k : Out2 N K b c) : Out2 N K a c := by
  have hs := h.size
  exact ⟨k.os.trans h.os, k.tape.trans h.tape, k.output.trans h.output, Nat.le_trans h.size k.size, fun i hi h1 h2 => (k.block i (by omega) h1 h2).trans (h.block i hi h1 h2)⟩
theorem x2_dr {N K : Nat} {a b : World} (n : Nat) (h : Out2 N K a b) : Out2 N K a (b.drewN n) := ⟨h.os, h.tape, h.output, h.size, h.block⟩
theorem x2_d1 {N K : Nat} {a b : World} (h : Out2 N K a b) : Out2 N K a b.drew := ⟨h.os, h.tape, h.output, h.size, h.block⟩
theorem x2_new {N K : Nat} {a b : World} {p : Addr} (u : Value) (hp : a.heap.size ≤ p.block) (h : Out2 N K a b) : Out2 N K a (b.setCell p u) :=
  ⟨h.os, h.tape, h.output, Nat.le_trans h.size (by simp [World.setCell]), fun k hk h1 h2 => (Below.heap_setCell _ _ _ _ (by omega)).trans (h.block k hk h1 h2)⟩
theorem Out2.refl (N K : Nat) (w : World) : Out2 N K w w := ⟨rfl, rfl, rfl, Nat.le_refl _, fun _ _ _ _ => rfl⟩
theorem Out2.below {N K n : Nat} {a b : World} (h : Out2 N K a b) (h1 : n ≤ N) (h2 : n ≤ K) (h3 : n ≤ a.heap.size) : Below n a b := ⟨h.os, h.tape, h.output, h.size, fun k hk => h.block k (by omega) (by omega) (by omega)⟩
theorem Out2.reads {N K : Nat} {a b : World} {p : Addr} {v : Value} (h : Out2 N K a b) (h1 : p.block ≠ N) (h2 : p.block ≠ K) (hc : a.cell? p = some v) : b.cell? p = some v :=
  (World.cell?_of_block (w := a) (h.block p.block (World.block_lt_of_cell? a p hc) h1 h2)).trans hc
theorem Out2.own {N K b k : Nat} {w w' : World} (h : Out2 N K w w') (h1 : b ≠ N) (h2 : b ≠ K) (ho : Own w b k) : Own w' b k := fun i hi => by
  obtain ⟨v, hv⟩ := Option.isSome_iff_exists.1 (ho i hi).1
  have hb := h.block b (World.block_lt_of_cell? w _ hv) h1 h2
  exact ⟨by rw [h.reads h1 h2 hv]; rfl, (World.frozen?_of_block hb).trans (ho i hi).2⟩
theorem mw_o1 {N R K C : Nat} {Mm : Nat -> Nat -> BitVec 64} {W W' : World} (ho : Out1 N W W') (h1 : N ≠ K) (h2 : N ≠ R) (hC : 0 < C) (h : MemW W R K C Mm) : MemW W' R K C Mm :=
  mw_blk (ho.block K (h.herek hC) (fun e => h1 e.symm)) (ho.block R h.hereR (fun e => h2 e.symm)) h
theorem find_none  (N R K C : Nat) (M M' : Nat -> List Ln) (Mm : Nat -> Nat -> BitVec 64) (P A V k n : Int) (G t : Bool) (c1 : ∀ W, Calls Tryd.prog 31 #[.int .u64 V] W (Quiet (.int .u64 n) W)) (c2 : ∀ W, Tab W -> MemW W R K C Mm -> Calls Tryd.prog 41 #[.pointer (some ⟨R, 0, none⟩), .int .u64 P, .int .u64 V] W (Makes (.tuple #[.agg #[.bool false, .bool false, .bool false, .bool false, .bool false, .bool false, .bool false, .bool false, .bool false, .bool false, .bool false, .bool false, .int .u64 0, .int .u64 0], .int .i64 1]) W)) (c3 : ∀ W, TlbM W N M -> Calls Tryd.prog 15 #[.pointer (some ⟨N, 0, none⟩), .int .u64 A, .int .u64 n] W (fun e w' => e = .returned (.tuple #[]) /\ TlbM w' N M' /\ Out1 N W w')) (w : World) (hT : Tab w) (hM : MemW w R K C Mm) (hU : UnitAt N M P A G w) : Calls Tryd.prog 32 #[.pointer (some ⟨N, 0, none⟩), .pointer (some ⟨R, 0, none⟩), .int .u64 V, .int .i64 k, .bool t] w (fun e w' => e = .returned (.tuple #[.agg #[.int .u64 0, .bool false], .int .i64 1]) /\ UnitAt N M' P A G w' /\ Out1 N w w') := by
  have Cc1 := hide c1
  have Cc2 := hide c2
  have Cc3 := hide c3
  clear c1 c2 c3
  obtain ⟨SS, LB', LS, LA', LH⟩ := rules5
  have hN := hU.here
  have hLn0 : ltB N w.heap.size = true := decide_eq_true hN
  have p0 := hU.root
  have a0 := hU.asid
  go_enter Tryd.func32, Tryd.ntmps32
  go_upto_region 3 with (first | (go_at_call 31; (with_reducible refine (Cc1.out _).mono ?_); rintro e w' ⟨rfl, n1, rfl⟩) | (go_at_call 41; (with_reducible refine (Cc2.out _ ?_ ?_).mono ?_); (refine hT.behind ?_; repeat (with_reducible first | assumption | exact Below.refl _ _ | refine Below.drew ?_ | refine below_drewN ?_ _ | refine bw_alloc ?_ _ | (refine bw_set ?_ ?_ _; focus (dsimp only; omega)) | (apply bw_behind; assumption))); (focus (repeat (with_reducible first | assumption | refine mw_dr _ ?_ | refine mw_d1 ?_ | refine mw_al _ ?_ | (apply mw_be; assumption)))); rintro e w2 ⟨rfl, hb2⟩; obtain ⟨hr2, hh2, m2, hs2⟩ := bl_all hb2))
  have hs2x : w2.heap.size = w.heap.size + 1 + m2 := by
    rw [hs2]; simp [go_sem]
  refine wp_abs (fun W => Below w.heap.size w W /\ W.cell? ⟨w.heap.size, 0, none⟩ = some (.int .u64 0) /\ W.cell? ⟨w.heap.size, 1, none⟩ = some (.bool false) /\ Own W w.heap.size 2 /\ w.heap.size + 1 + m2 < W.heap.size /\ W.cell? ⟨w.heap.size + 1 + m2, 0, none⟩ = some (.bool false) /\ W.cell? ⟨w.heap.size + 1 + m2, 1, none⟩ = some (.bool false) /\ W.cell? ⟨w.heap.size + 1 + m2, 2, none⟩ = some (.bool false) /\ W.cell? ⟨w.heap.size + 1 + m2, 3, none⟩ = some (.bool false) /\ W.cell? ⟨w.heap.size + 1 + m2, 4, none⟩ = some (.bool false) /\ W.cell? ⟨w.heap.size + 1 + m2, 5, none⟩ = some (.bool false) /\ W.cell? ⟨w.heap.size + 1 + m2, 6, none⟩ = some (.bool false) /\ W.cell? ⟨w.heap.size + 1 + m2, 7, none⟩ = some (.bool false) /\ W.cell? ⟨w.heap.size + 1 + m2, 8, none⟩ = some (.bool false) /\ W.cell? ⟨w.heap.size + 1 + m2, 9, none⟩ = some (.bool false) /\ W.cell? ⟨w.heap.size + 1 + m2, 10, none⟩ = some (.bool false) /\ W.cell? ⟨w.heap.size + 1 + m2, 11, none⟩ = some (.bool false) /\ W.cell? ⟨w.heap.size + 1 + m2, 12, none⟩ = some (.int .u64 0) /\ W.cell? ⟨w.heap.size + 1 + m2, 13, none⟩ = some (.int .u64 0)) ?_ ?_
  · refine ⟨?_, ?_, ?_, ?_, ?_, ?_, ?_, ?_, ?_, ?_, ?_, ?_, ?_, ?_, ?_, ?_, ?_, ?_, ?_⟩
    all_goals (first | ((repeat (with_reducible first | assumption | refine c_dr _ ?_ | refine c_d1 ?_ | refine c_al _ ?_ | (refine c_set ?_ ?_; focus (dsimp only; omega)) | (apply c_be; assumption))); done) | ((repeat (first | (with_reducible first | assumption | refine o_dr _ ?_ | refine o_d1 ?_ | refine o_set ?_) | (with_reducible refine o_new ?_ ?_; (focus (simp)); (focus (simp))) | (with_reducible first | refine o_al _ ?_ | (apply o_be; assumption)))); done) | ((repeat (with_reducible first | assumption | exact Below.refl _ _ | refine Below.drew ?_ | refine below_drewN ?_ _ | refine bw_alloc ?_ _ | (refine bw_set ?_ ?_ _; focus (dsimp only; omega)) | (apply bw_behind; assumption))); done) | (simp [go_sem, *]; done) | (simp [go_sem, *]; omega))
  rintro w5 ⟨hB5, d0, d1, o5, hs5, y0, y1, y2, y3, y4, y5, y6, y7, y8, y9, y10, y11, y12, y13⟩
  have hf5 : w.heap.size < w.heap.size + 1 + m2 := by omega
  have hT5 := hT.behind hB5
  have hM5 := mw_be hB5 hM
  have hU5 := un_be hB5 hU
  have a5 := hU5.asid
  have t5 := hU5.here
  clear hs2 hs2x hr2 hh2 hb2
  generalize w.heap.size + 1 + m2 = fb at *
  have hLb : ltB fb w5.heap.size = true := decide_eq_true hs5
  have hLn : ltB N w5.heap.size = true := decide_eq_true t5
  have hTm := hU5.tlb
  go_upto_region 4 with fail
  go_cut [] (fun wx => TlbM wx N M' /\ Out1 N w5 wx)
  case first =>
    go_region_with (go_at_call 15; (with_reducible refine (Cc3.out _ ?_).mono ?_); (focus (repeat (with_reducible first | assumption | refine tm_dr _ ?_ | refine tm_d1 ?_))); rintro e wd ⟨rfl, hTd, hUd⟩; have hzd := hUd.size)
    all_goals
      go_wp2_with fail
      go_meet
      refine ⟨?_, ?_⟩
    all_goals (first | ((repeat (with_reducible first | assumption | refine tm_dr _ ?_ | refine tm_d1 ?_)); done) | ((repeat (with_reducible first | refine u_dr _ ?_ | refine u_d1 ?_)); refine Out1.trans ?_ hUd; (repeat (with_reducible first | exact Out1.refl _ _ | refine u_dr _ ?_ | refine u_d1 ?_)); done))
  case rest =>
    obtain ⟨hTx, hOx⟩ := hcut
    have e0 := hOx.reads (p := ⟨w.heap.size, 0, none⟩) (by dsimp only; omega) d0
    have e1 := hOx.reads (p := ⟨w.heap.size, 1, none⟩) (by dsimp only; omega) d1
    have oX := u_own hOx (by omega) o5
    have f0 := (oX 0 (by omega)).2
    have f1 := (oX 1 (by omega)).2
    have hUx := un_tlb hOx hTx hU5
    have hOw : Out1 N w wc := (Out1.of_below hB5 (Nat.le_refl _)).trans hOx
    have HU := hide hUx
    have HO := hide hOw
    have hzx := hOx.size
    clear hUx hOw hTx hOx hTm oX o5 d0 d1
    go_wp2
    refine bodyPost_ret (v := .tuple #[.agg #[.int .u64 0, .bool false], .int .i64 1]) (by simp (maxDischargeDepth := 4) [results, Tryd.results32, go_sem, *]) rfl ?_
    exact ⟨rfl, un_set (by dsimp only; omega) (un_set (by dsimp only; omega) HU.out), u_new _ (by dsimp only; omega) (u_new _ (by dsimp only; omega) HO.out)⟩

theorem find_bad (b0 b1 b2 b3 b4 b5 b6 b7 b8 b9 b10 b11 : Bool) (F X : Int) (Q : Int) (N R K C : Nat) (M : Nat -> List Ln) (Mm : Nat -> Nat -> BitVec 64) (P A V k n : Int) (G t : Bool) (c1 : ∀ W, Calls Tryd.prog 31 #[.int .u64 V] W (Quiet (.int .u64 n) W)) (c2 : ∀ W, Tab W -> MemW W R K C Mm -> Calls Tryd.prog 41 #[.pointer (some ⟨R, 0, none⟩), .int .u64 P, .int .u64 V] W (Makes (.tuple #[.agg #[.bool b0, .bool b1, .bool b2, .bool b3, .bool b4, .bool b5, .bool b6, .bool b7, .bool b8, .bool b9, .bool b10, .bool b11, .int .u64 F, .int .u64 X], .int .i64 0]) W)) (c3 : ∀ W, UnitAt N M P A G W -> Calls Tryd.prog 33 #[.pointer (some ⟨N, 0, none⟩), .agg #[.bool b0, .bool b1, .bool b2, .bool b3, .bool b4, .bool b5, .bool b6, .bool b7, .bool b8, .bool b9, .bool b10, .bool b11, .int .u64 F], .int .u64 V, .int .i64 k, .bool t] W (Makes (.tuple #[.agg #[.int .u64 0, .bool false], .int .i64 Q]) W)) (w : World) (_hQ : (Q == 0) = false) (hT : Tab w) (hM : MemW w R K C Mm) (hU : UnitAt N M P A G w) : Calls Tryd.prog 32 #[.pointer (some ⟨N, 0, none⟩), .pointer (some ⟨R, 0, none⟩), .int .u64 V, .int .i64 k, .bool t] w (fun e w' => e = .returned (.tuple #[.agg #[.int .u64 0, .bool false], .int .i64 Q]) /\ Below w.heap.size w w') := by
  have Cc1 := hide c1
  have Cc2 := hide c2
  have Cc3 := hide c3
  clear c1 c2 c3
  obtain ⟨SS, LB', LS, LA', LH⟩ := rules5
  have hN := hU.here
  have hLn0 : ltB N w.heap.size = true := decide_eq_true hN
  have p0 := hU.root
  have a0 := hU.asid
  go_enter Tryd.func32, Tryd.ntmps32
  go_upto_region 3 with (first | (go_at_call 31; (with_reducible refine (Cc1.out _).mono ?_); rintro e w' ⟨rfl, n1, rfl⟩) | (go_at_call 41; (with_reducible refine (Cc2.out _ ?_ ?_).mono ?_); (refine hT.behind ?_; repeat (with_reducible first | assumption | exact Below.refl _ _ | refine Below.drew ?_ | refine below_drewN ?_ _ | refine bw_alloc ?_ _ | (refine bw_set ?_ ?_ _; focus (dsimp only; omega)) | (apply bw_behind; assumption))); (focus (repeat (with_reducible first | assumption | refine mw_dr _ ?_ | refine mw_d1 ?_ | refine mw_al _ ?_ | (apply mw_be; assumption)))); rintro e w2 ⟨rfl, hb2⟩; obtain ⟨hr2, hh2, m2, hs2⟩ := bl_all hb2))
  have hs2x : w2.heap.size = w.heap.size + 1 + m2 := by
    rw [hs2]; simp [go_sem]
  refine wp_abs (fun W => Below w.heap.size w W /\ W.cell? ⟨w.heap.size, 0, none⟩ = some (.int .u64 0) /\ W.cell? ⟨w.heap.size, 1, none⟩ = some (.bool false) /\ Own W w.heap.size 2 /\ w.heap.size + 1 + m2 < W.heap.size /\ W.cell? ⟨w.heap.size + 1 + m2, 0, none⟩ = some (.bool b0) /\ W.cell? ⟨w.heap.size + 1 + m2, 1, none⟩ = some (.bool b1) /\ W.cell? ⟨w.heap.size + 1 + m2, 2, none⟩ = some (.bool b2) /\ W.cell? ⟨w.heap.size + 1 + m2, 3, none⟩ = some (.bool b3) /\ W.cell? ⟨w.heap.size + 1 + m2, 4, none⟩ = some (.bool b4) /\ W.cell? ⟨w.heap.size + 1 + m2, 5, none⟩ = some (.bool b5) /\ W.cell? ⟨w.heap.size + 1 + m2, 6, none⟩ = some (.bool b6) /\ W.cell? ⟨w.heap.size + 1 + m2, 7, none⟩ = some (.bool b7) /\ W.cell? ⟨w.heap.size + 1 + m2, 8, none⟩ = some (.bool b8) /\ W.cell? ⟨w.heap.size + 1 + m2, 9, none⟩ = some (.bool b9) /\ W.cell? ⟨w.heap.size + 1 + m2, 10, none⟩ = some (.bool b10) /\ W.cell? ⟨w.heap.size + 1 + m2, 11, none⟩ = some (.bool b11) /\ W.cell? ⟨w.heap.size + 1 + m2, 12, none⟩ = some (.int .u64 F) /\ W.cell? ⟨w.heap.size + 1 + m2, 13, none⟩ = some (.int .u64 X)) ?_ ?_
  · refine ⟨?_, ?_, ?_, ?_, ?_, ?_, ?_, ?_, ?_, ?_, ?_, ?_, ?_, ?_, ?_, ?_, ?_, ?_, ?_⟩
    all_goals (first | ((repeat (with_reducible first | assumption | refine c_dr _ ?_ | refine c_d1 ?_ | refine c_al _ ?_ | (refine c_set ?_ ?_; focus (dsimp only; omega)) | (apply c_be; assumption))); done) | ((repeat (first | (with_reducible first | assumption | refine o_dr _ ?_ | refine o_d1 ?_ | refine o_set ?_) | (with_reducible refine o_new ?_ ?_; (focus (simp)); (focus (simp))) | (with_reducible first | refine o_al _ ?_ | (apply o_be; assumption)))); done) | ((repeat (with_reducible first | assumption | exact Below.refl _ _ | refine Below.drew ?_ | refine below_drewN ?_ _ | refine bw_alloc ?_ _ | (refine bw_set ?_ ?_ _; focus (dsimp only; omega)) | (apply bw_behind; assumption))); done) | (simp [go_sem, *]; done) | (simp [go_sem, *]; omega))
  rintro w5 ⟨hB5, d0, d1, o5, hs5, y0, y1, y2, y3, y4, y5, y6, y7, y8, y9, y10, y11, y12, y13⟩
  have hf5 : w.heap.size < w.heap.size + 1 + m2 := by omega
  have hU5 := un_be hB5 hU
  clear hs2 hs2x hr2 hh2 hb2
  generalize w.heap.size + 1 + m2 = fb at *
  have hLb : ltB fb w5.heap.size = true := decide_eq_true hs5
  have hL5 : ltB w.heap.size w5.heap.size = true := decide_eq_true (by omega)
  have f0 := (o5 0 (by omega)).2
  have f1 := (o5 1 (by omega)).2
  clear o5
  go_wp2_with (go_at_call 33; (with_reducible refine (Cc3.out _ ?_).mono ?_); (focus (repeat (with_reducible first | assumption | refine un_dr _ ?_ | refine un_d1 ?_ | refine un_al _ ?_ | (refine un_set ?_ ?_; focus (dsimp only; omega)) | (apply un_be; assumption) | (refine un_sc _ _ ?_ ?_; focus (dsimp only; omega))))); rintro e w6 ⟨rfl, hb6⟩; obtain ⟨hr6, hh6, m6, hs6⟩ := bl_all hb6)
  refine bodyPost_ret (v := .tuple #[.agg #[.int .u64 0, .bool false], .int .i64 Q]) (by simp (maxDischargeDepth := 4) [results, Tryd.results32, go_sem, *]) rfl ?_
  refine ⟨rfl, ?_⟩
  repeat (with_reducible first | assumption | exact Below.refl _ _ | refine Below.drew ?_ | refine below_drewN ?_ _ | refine bw_alloc ?_ _ | (refine bw_set ?_ ?_ _; focus (dsimp only; omega)) | (apply bw_behind; assumption))

theorem find_ok (b0 b1 b2 b3 b4 b5 b6 b7 b8 b9 b10 b11 : Bool) (F X : Int) (S : Bool) (Z : Int) (x : Fd) (o : Nat) (N R K C : Nat) (M M' : Nat -> List Ln) (Mm Mm' : Nat -> Nat -> BitVec 64) (P A V k n : Int) (G t : Bool) (c1 : ∀ W, Calls Tryd.prog 31 #[.int .u64 V] W (Quiet (.int .u64 n) W)) (c2 : ∀ W, Tab W -> MemW W R K C Mm -> Calls Tryd.prog 41 #[.pointer (some ⟨R, 0, none⟩), .int .u64 P, .int .u64 V] W (Makes (.tuple #[.agg #[.bool b0, .bool b1, .bool b2, .bool b3, .bool b4, .bool b5, .bool b6, .bool b7, .bool b8, .bool b9, .bool b10, .bool b11, .int .u64 F, .int .u64 X], .int .i64 0]) W)) (c3 : ∀ W, UnitAt N M P A G W -> Calls Tryd.prog 33 #[.pointer (some ⟨N, 0, none⟩), .agg #[.bool b0, .bool b1, .bool b2, .bool b3, .bool b4, .bool b5, .bool b6, .bool b7, .bool b8, .bool b9, .bool b10, .bool b11, .int .u64 F], .int .u64 V, .int .i64 k, .bool t] W (Makes (.tuple #[.agg #[.int .u64 Z, .bool S], .int .i64 0]) W)) (c4 : ∀ W, Tab W -> MemW W R K C Mm -> Calls Tryd.prog 62 #[.pointer (some ⟨R, 0, none⟩), .agg #[.bool b0, .bool b1, .bool b2, .bool b3, .bool b4, .bool b5, .bool b6, .bool b7, .bool b8, .bool b9, .bool b10, .bool b11, .int .u64 F, .int .u64 X], .int .i64 k, .bool t] W (fun e w' => e = .returned (.agg #[.bool x.e0, .bool x.e1, .bool x.e2, .bool x.e3, .bool x.e4, .bool x.e5, .bool x.e6, .bool x.e7, .bool x.e8, .bool x.e9, .bool x.e10, .bool x.e11, .int .u64 x.f, .int .u64 x.a]) /\ MemW w' R K C Mm' /\ Out K o W w')) (c5 : ∀ W, TlbM W N M -> Calls Tryd.prog 61 #[.pointer (some ⟨N, 0, none⟩), .agg #[.int .u64 A, .int .u64 n, .bool x.e0, .bool x.e1, .bool x.e2, .bool x.e3, .bool x.e4, .bool x.e5, .bool x.e6, .bool x.e7, .bool x.e8, .bool x.e9, .bool x.e10, .bool x.e11, .int .u64 x.f, .int .u64 x.a]] W (fun e w' => e = .returned (.tuple #[]) /\ TlbM w' N M' /\ Out1 N W w')) (w : World) (hC : 0 < C) (hT : Tab w) (hM : MemW w R K C Mm) (hU : UnitAt N M P A G w) : Calls Tryd.prog 32 #[.pointer (some ⟨N, 0, none⟩), .pointer (some ⟨R, 0, none⟩), .int .u64 V, .int .i64 k, .bool t] w (fun e w' => e = .returned (.tuple #[.agg #[.int .u64 Z, .bool S], .int .i64 0]) /\ MemW w' R K C Mm' /\ UnitAt N M' P A G w' /\ Out2 N K w w') := by
  have Cc1 := hide c1
  have Cc2 := hide c2
  have Cc3 := hide c3
  have Cc4 := hide c4
  have Cc5 := hide c5
  clear c1 c2 c3 c4 c5
  obtain ⟨SS, LB', LS, LA', LH⟩ := rules5
  have hN := hU.here
  have hLn0 : ltB N w.heap.size = true := decide_eq_true hN
  have p0 := hU.root
  have a0 := hU.asid
  go_enter Tryd.func32, Tryd.ntmps32
  have hNK := un_nek hU hM hC
  have hNR := un_ner hU hM
  have hKw := hM.herek hC
  have hRw := hM.hereR
  have hTN := un_net hU hT
  have hTK := mw_net hM hC hT
  go_upto_region 3 with (first | (go_at_call 31; (with_reducible refine (Cc1.out _).mono ?_); rintro e w' ⟨rfl, n1, rfl⟩) | (go_at_call 41; (with_reducible refine (Cc2.out _ ?_ ?_).mono ?_); (refine hT.behind ?_; repeat (with_reducible first | assumption | exact Below.refl _ _ | refine Below.drew ?_ | refine below_drewN ?_ _ | refine bw_alloc ?_ _ | (refine bw_set ?_ ?_ _; focus (dsimp only; omega)) | (apply bw_behind; assumption))); (focus (repeat (with_reducible first | assumption | refine mw_dr _ ?_ | refine mw_d1 ?_ | refine mw_al _ ?_ | (apply mw_be; assumption)))); rintro e w2 ⟨rfl, hb2⟩; obtain ⟨hr2, hh2, m2, hs2⟩ := bl_all hb2))
  have hs2x : w2.heap.size = w.heap.size + 1 + m2 := by
    rw [hs2]; simp [go_sem]
  refine wp_abs (fun W => Below w.heap.size w W /\ W.cell? ⟨w.heap.size, 0, none⟩ = some (.int .u64 0) /\ W.cell? ⟨w.heap.size, 1, none⟩ = some (.bool false) /\ Own W w.heap.size 2 /\ w.heap.size + 1 + m2 < W.heap.size /\ W.cell? ⟨w.heap.size + 1 + m2, 0, none⟩ = some (.bool b0) /\ W.cell? ⟨w.heap.size + 1 + m2, 1, none⟩ = some (.bool b1) /\ W.cell? ⟨w.heap.size + 1 + m2, 2, none⟩ = some (.bool b2) /\ W.cell? ⟨w.heap.size + 1 + m2, 3, none⟩ = some (.bool b3) /\ W.cell? ⟨w.heap.size + 1 + m2, 4, none⟩ = some (.bool b4) /\ W.cell? ⟨w.heap.size + 1 + m2, 5, none⟩ = some (.bool b5) /\ W.cell? ⟨w.heap.size + 1 + m2, 6, none⟩ = some (.bool b6) /\ W.cell? ⟨w.heap.size + 1 + m2, 7, none⟩ = some (.bool b7) /\ W.cell? ⟨w.heap.size + 1 + m2, 8, none⟩ = some (.bool b8) /\ W.cell? ⟨w.heap.size + 1 + m2, 9, none⟩ = some (.bool b9) /\ W.cell? ⟨w.heap.size + 1 + m2, 10, none⟩ = some (.bool b10) /\ W.cell? ⟨w.heap.size + 1 + m2, 11, none⟩ = some (.bool b11) /\ W.cell? ⟨w.heap.size + 1 + m2, 12, none⟩ = some (.int .u64 F) /\ W.cell? ⟨w.heap.size + 1 + m2, 13, none⟩ = some (.int .u64 X)) ?_ ?_
  · refine ⟨?_, ?_, ?_, ?_, ?_, ?_, ?_, ?_, ?_, ?_, ?_, ?_, ?_, ?_, ?_, ?_, ?_, ?_, ?_⟩
    all_goals (first | ((repeat (with_reducible first | assumption | refine c_dr _ ?_ | refine c_d1 ?_ | refine c_al _ ?_ | (refine c_set ?_ ?_; focus (dsimp only; omega)) | (apply c_be; assumption))); done) | ((repeat (first | (with_reducible first | assumption | refine o_dr _ ?_ | refine o_d1 ?_ | refine o_set ?_) | (with_reducible refine o_new ?_ ?_; (focus (simp)); (focus (simp))) | (with_reducible first | refine o_al _ ?_ | (apply o_be; assumption)))); done) | ((repeat (with_reducible first | assumption | exact Below.refl _ _ | refine Below.drew ?_ | refine below_drewN ?_ _ | refine bw_alloc ?_ _ | (refine bw_set ?_ ?_ _; focus (dsimp only; omega)) | (apply bw_behind; assumption))); done) | (simp [go_sem, *]; done) | (simp [go_sem, *]; omega))
  rintro w5 ⟨hB5, d0, d1, o5, hs5, y0, y1, y2, y3, y4, y5, y6, y7, y8, y9, y10, y11, y12, y13⟩
  have hf5 : w.heap.size < w.heap.size + 1 + m2 := by omega
  have hT5 := hT.behind hB5
  have hM5 := mw_be hB5 hM
  have hU5 := un_be hB5 hU
  have a5 := hU5.asid
  have t5 := hU5.here
  clear hs2 hs2x hr2 hh2 hb2
  generalize w.heap.size + 1 + m2 = fb at *
  have hLb : ltB fb w5.heap.size = true := decide_eq_true hs5
  have hLn : ltB N w5.heap.size = true := decide_eq_true t5
  have hL5 : ltB w.heap.size w5.heap.size = true := decide_eq_true (by omega)
  go_upto_region 7 with (go_at_call 33; (with_reducible refine (Cc3.out _ ?_).mono ?_); (focus (repeat (with_reducible first | assumption | refine un_dr _ ?_ | refine un_d1 ?_ | refine un_al _ ?_ | (refine un_set ?_ ?_; focus (dsimp only; omega)) | (apply un_be; assumption) | (refine un_sc _ _ ?_ ?_; focus (dsimp only; omega))))); rintro e w6 ⟨rfl, hb6⟩; obtain ⟨hr6, hh6, m6, hs6⟩ := bl_all hb6)
  have hs6x : w6.heap.size = w5.heap.size + m6 := by
    first | exact hs6 | (rw [hs6]; simp [go_sem])
  refine wp_abs (fun W => Below w.heap.size w W /\ W.cell? ⟨w.heap.size, 0, none⟩ = some (.int .u64 0) /\ W.cell? ⟨w.heap.size, 1, none⟩ = some (.bool false) /\ Own W w.heap.size 2 /\ w5.heap.size + m6 < W.heap.size /\ W.cell? ⟨w5.heap.size + m6, 0, none⟩ = some (.int .u64 Z) /\ W.cell? ⟨w5.heap.size + m6, 1, none⟩ = some (.bool S) /\ W.cell? ⟨fb, 0, none⟩ = some (.bool b0) /\ W.cell? ⟨fb, 1, none⟩ = some (.bool b1) /\ W.cell? ⟨fb, 2, none⟩ = some (.bool b2) /\ W.cell? ⟨fb, 3, none⟩ = some (.bool b3) /\ W.cell? ⟨fb, 4, none⟩ = some (.bool b4) /\ W.cell? ⟨fb, 5, none⟩ = some (.bool b5) /\ W.cell? ⟨fb, 6, none⟩ = some (.bool b6) /\ W.cell? ⟨fb, 7, none⟩ = some (.bool b7) /\ W.cell? ⟨fb, 8, none⟩ = some (.bool b8) /\ W.cell? ⟨fb, 9, none⟩ = some (.bool b9) /\ W.cell? ⟨fb, 10, none⟩ = some (.bool b10) /\ W.cell? ⟨fb, 11, none⟩ = some (.bool b11) /\ W.cell? ⟨fb, 12, none⟩ = some (.int .u64 F) /\ W.cell? ⟨fb, 13, none⟩ = some (.int .u64 X)) ?_ ?_
  · refine ⟨?_, ?_, ?_, ?_, ?_, ?_, ?_, ?_, ?_, ?_, ?_, ?_, ?_, ?_, ?_, ?_, ?_, ?_, ?_, ?_, ?_⟩
    all_goals (first | ((repeat (with_reducible first | assumption | refine c_dr _ ?_ | refine c_d1 ?_ | refine c_al _ ?_ | (refine c_set ?_ ?_; focus (dsimp only; omega)) | (apply c_be; assumption))); done) | ((repeat (first | (with_reducible first | assumption | refine o_dr _ ?_ | refine o_d1 ?_ | refine o_set ?_) | (with_reducible refine o_new ?_ ?_; (focus (simp)); (focus (simp))) | (with_reducible first | refine o_al _ ?_ | (apply o_be; assumption)))); done) | ((repeat (with_reducible first | assumption | exact Below.refl _ _ | refine Below.drew ?_ | refine below_drewN ?_ _ | refine bw_alloc ?_ _ | (refine bw_set ?_ ?_ _; focus (dsimp only; omega)) | (apply bw_behind; assumption))); done) | (simp [go_sem, *]; done) | (simp [go_sem, *]; omega))
  rintro w7 ⟨hB7, g0, g1, o7, hs7, p7, p8, v0, v1, v2, v3, v4, v5, v6, v7, v8, v9, v10, v11, v12, v13⟩
  have hf7 : fb < w5.heap.size + m6 := by omega
  have hT7 := hT.behind hB7
  have hM7 := mw_be hB7 hM
  have hU7 := un_be hB7 hU
  have a7 := hU7.asid
  have hTm := hU7.tlb
  clear hs6 hs6x hr6 hh6 hb6 y0 y1 y2 y3 y4 y5 y6 y7 y8 y9 y10 y11 y12 y13 d0 d1 o5 hL5 hLb hLn hT5 hM5 hU5 hB5 a5 t5
  generalize w5.heap.size + m6 = pb at *
  clear hs5
  have hLb : ltB fb w7.heap.size = true := decide_eq_true (by omega)
  have hLn : ltB N w7.heap.size = true := decide_eq_true (by omega)
  go_upto_region 8 with fail
  go_cut [] (fun wx => MemW wx R K C Mm' /\ UnitAt N M' P A G wx /\ Out2 N K w7 wx)
  case first =>
    go_region_with (first | (go_at_call 62; (with_reducible refine (Cc4.out _ ?_ ?_).mono ?_); (refine hT7.behind ?_; repeat (with_reducible first | assumption | exact Below.refl _ _ | refine Below.drew ?_ | refine below_drewN ?_ _ | refine bw_alloc ?_ _ | (refine bw_set ?_ ?_ _; focus (dsimp only; omega)) | (apply bw_behind; assumption))); (focus (repeat (with_reducible first | assumption | refine mw_dr _ ?_ | refine mw_d1 ?_ | refine mw_al _ ?_ | (apply mw_be; assumption)))); rintro e wm ⟨rfl, hMm, hOm⟩; have hnm := hOm.reads (p := ⟨N, 133, none⟩) (by dsimp only; omega) a7; have hzm := hOm.size; have hXm : Out2 N K w7 wm := Out2.trans (by repeat (with_reducible first | exact Out2.refl _ _ _ | refine x2_dr _ ?_ | refine x2_d1 ?_)) (Out2.ofm hOm); have hUm : UnitAt N M P A G wm := un_out hOm hNK (by repeat (with_reducible first | assumption | refine un_dr _ ?_ | refine un_d1 ?_))) | (go_at_call 61; (with_reducible refine (Cc5.out _ ?_).mono ?_); (focus ((repeat (with_reducible first | refine tm_dr _ ?_ | refine tm_d1 ?_)); exact hUm.tlb)); rintro e wd ⟨rfl, hTd, hUd⟩; have hzd := hUd.size; have hMd : MemW wd R K C Mm' := mw_o1 hUd hNK hNR hC (by repeat (with_reducible first | assumption | refine mw_dr _ ?_ | refine mw_d1 ?_)); have hUd2 : UnitAt N M' P A G wd := un_tlb hUd hTd (by repeat (with_reducible first | assumption | refine un_dr _ ?_ | refine un_d1 ?_)); have hXd : Out2 N K w7 wd := Out2.trans (by repeat (with_reducible first | assumption | refine x2_dr _ ?_ | refine x2_d1 ?_)) (Out2.of1 hUd)))
    all_goals
      go_wp2_with fail
      go_meet
      refine ⟨?_, ?_, ?_⟩
      · repeat (with_reducible first | assumption | refine mw_dr _ ?_ | refine mw_d1 ?_)
      · repeat (with_reducible first | assumption | refine un_dr _ ?_ | refine un_d1 ?_)
      · repeat (with_reducible first | assumption | refine x2_dr _ ?_ | refine x2_d1 ?_)
  case rest =>
    obtain ⟨hMx, hUx, hXx⟩ := hcut
    have e0 := hXx.reads (p := ⟨w.heap.size, 0, none⟩) (by dsimp only; omega) (by dsimp only; omega) g0
    have e1 := hXx.reads (p := ⟨w.heap.size, 1, none⟩) (by dsimp only; omega) (by dsimp only; omega) g1
    have e7 := hXx.reads (p := ⟨pb, 0, none⟩) (by dsimp only; omega) (by dsimp only; omega) p7
    have e8 := hXx.reads (p := ⟨pb, 1, none⟩) (by dsimp only; omega) (by dsimp only; omega) p8
    have oX := hXx.own (by omega) (by omega) o7
    have f0 := (oX 0 (by omega)).2
    have f1 := (oX 1 (by omega)).2
    have hOw : Out2 N K w wc := (Out2.ofb hB7 (Nat.le_refl _)).trans hXx
    have HM := hide hMx
    have HU := hide hUx
    have HO := hide hOw
    have hzx := hXx.size
    clear hMx hUx hXx hOw oX g0 g1 p7 p8 o7 a7 hTm hM7 hU7 hT7 hLb hLn
    go_wp2
    refine bodyPost_ret (v := .tuple #[.agg #[.int .u64 Z, .bool S], .int .i64 0]) (by simp (maxDischargeDepth := 4) [results, Tryd.results32, go_sem, *]) rfl ?_
    refine ⟨rfl, mw_set ?_ ?_ (mw_set ?_ ?_ HM.out), un_set ?_ (un_set ?_ HU.out), x2_new _ ?_ (x2_new _ ?_ HO.out)⟩
    all_goals (dsimp only; omega)
end Go.Proofs.YtkajndonefkegaaDoor
