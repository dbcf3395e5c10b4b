/-
  A memory as a word for each frame and index: what Load and Store of eight bytes answer and turn; which frames exist; what read answers.
-/
import Derived.Test.YtkajndonefkegaaDoorGRam
import Derived.Test.YtkajndonefkegaaDoorPteRight
import Derived.Test.YtkajndonefkegaaDoorGPte
set_option maxRecDepth 100000
set_option maxHeartbeats 64000000
namespace Go.Proofs.YtkajndonefkegaaDoor
open Go.RowKit Words FieldMath PteMath

def putM (M : Nat -> Nat -> BitVec 64) (p k : Nat) (v : BitVec 64) : Nat -> Nat -> BitVec 64 := fun q j => if q = p /\ j = k then v else M q j
def MemW (W : World) (R N C : Nat) (M : Nat -> Nat -> BitVec 64) : Prop := ∃ B S, Mem W R N C B S /\ ∀ p k, p < C -> k < 512 -> numB (fun i => B p (8 * k + i)) 8 = M p k
theorem mw_dr {W : World} {R N C : Nat} {M : Nat -> Nat -> BitVec 64} (n : Nat) (h : MemW W R N C M) : MemW (W.drewN n) R N C M := by
  obtain ⟨B, S, h1, h2⟩ := h
  exact ⟨B, S, mem_dr n h1, h2⟩
theorem mw_d1 {W : World} {R N C : Nat} {M : Nat -> Nat -> BitVec 64} (h : MemW W R N C M) : MemW W.drew R N C M := by
  obtain ⟨B, S, h1, h2⟩ := h
  exact ⟨B, S, mem_d1 h1, h2⟩
theorem mw_be {W W' : World} {R N C : Nat} {M : Nat -> Nat -> BitVec 64} (hb : Below W.heap.size W W') (h : MemW W R N C M) : MemW W' R N C M := by
  obtain ⟨B, S, h1, h2⟩ := h
  exact ⟨B, S, mem_be hb h1, h2⟩
theorem mw_al {W : World} {R N C : Nat} {M : Nat -> Nat -> BitVec 64} (ob : Obj) (h : MemW W R N C M) : MemW (W.alloc ob) R N C M := mw_be (below_alloc (Below.refl _ _) (Nat.le_refl _) ob) h
theorem mw_set {W : World} {R N C : Nat} {M : Nat -> Nat -> BitVec 64} {p : Addr} {u : Value} (h1 : p.block ≠ N) (h2 : p.block ≠ R) (h : MemW W R N C M) : MemW (W.setCell p u) R N C M := by
  obtain ⟨B, S, h3, h4⟩ := h
  exact ⟨B, S, mem_set h1 h2 h3, h4⟩
theorem MemW.ram {W : World} {R N C : Nat} {M : Nat -> Nat -> BitVec 64} (h : MemW W R N C M) : W.cell? ⟨R, 0, none⟩ = some (.slice (some ⟨N, 0, none⟩) C C) := by
  obtain ⟨B, S, h1, _⟩ := h
  exact h1.ram
theorem MemW.ne {W : World} {R N C : Nat} {M : Nat -> Nat -> BitVec 64} (h : MemW W R N C M) : R ≠ N := by
  obtain ⟨B, S, h1, _⟩ := h
  exact h1.ne
theorem whole (v : BitVec 64) : numB (by8 v) 8 = v := by
  rw [numB_by8]
  refine ext64 (fun j hj => ?_)
  rw [BitVec.getLsbD_and, BitVec.getLsbD_ushiftRight, BitVec.getLsbD_allOnes]
  simp
  omega
theorem zero_word : numB (fun _ => 0#8) 8 = 0#64 := by
  refine ext64 (fun j hj => ?_)
  rw [numB_bit _ _ _ hj]
  simp
theorem at_word {p k C : Nat} (hp : p < C) (hk : k < 512) (hC : C ≤ 64) : At (p * 4096 + 8 * k) p (8 * k) 8 C := ⟨rfl, hp, by omega, by omega, by omega, hC⟩
theorem put_word (B : Nat -> Nat -> BitVec 8) (M : Nat -> Nat -> BitVec 64) (p k C : Nat) (v : BitVec 64) (h : ∀ p k, p < C -> k < 512 -> numB (fun i => B p (8 * k + i)) 8 = M p k) :
    ∀ q j, q < C -> j < 512 -> numB (fun i => updP B p (putB (B p) (8 * k) v 8) q (8 * j + i)) 8 = putM M p k v q j := fun q j hq hj => by
  by_cases e : q = p
  · subst e
    by_cases e2 : j = k
    · subst e2
      rw [show putM M q j v q j = v from if_pos ⟨rfl, rfl⟩, ← whole v]
      unfold updP putB
      refine numB_congr (fun i hi => ?_)
      rw [if_pos rfl, if_pos (by omega), whole]
      congr 1
      omega
    · rw [show putM M q k v q j = M q j from if_neg (fun x => e2 x.2), ← h q j hq hj]
      unfold updP putB
      refine numB_congr (fun i hi => ?_)
      rw [if_pos rfl, if_neg (by omega)]
  · rw [show putM M p k v q j = M q j from if_neg (fun x => e x.1), ← h q j hq hj]
    unfold updP putB
    refine numB_congr (fun i hi => ?_)
    rw [if_neg e]
theorem putM_same (M : Nat -> Nat -> BitVec 64) (p k : Nat) (v : BitVec 64) : putM M p k v p k = v := if_pos ⟨rfl, rfl⟩
theorem putM_else (M : Nat -> Nat -> BitVec 64) (p k q j : Nat) (v : BitVec 64) (h : q ≠ p ∨ j ≠ k) : putM M p k v q j = M q j := if_neg (fun x => by rcases h with h | h <;> simp_all)
theorem load_w {p k C : Nat} (hp : p < C) (hk : k < 512) (hC : C ≤ 64) (R N : Nat) (M : Nat -> Nat -> BitVec 64) (w : World) (h : MemW w R N C M) : Calls Tryd.prog 23 #[.pointer (some ⟨R, 0, none⟩), .int .u64 ((p * 4096 + 8 * k : Nat) : Int), .int .i64 8] w (Quiet (.tuple #[.int .u64 ((M p k).toNat : Int), .int .i64 0]) w) := by
  obtain ⟨B, S, h1, h2⟩ := h
  have := load_any (at_word hp hk hC) (by omega) R N B S w h1
  rw [h2 p k hp hk] at this
  exact this
theorem store_w {p k C : Nat} (hp : p < C) (hk : k < 512) (hC : C ≤ 64) (v : BitVec 64) (R N : Nat) (M : Nat -> Nat -> BitVec 64) (w : World) (h : MemW w R N C M) : Calls Tryd.prog 11 #[.pointer (some ⟨R, 0, none⟩), .int .u64 ((p * 4096 + 8 * k : Nat) : Int), .int .i64 8, .int .u64 (v.toNat : Int)] w fun e w' => e = .returned (.int .i64 0) /\ MemW w' R N C (putM M p k v) /\ Out N (p * 4100) w w' := by
  obtain ⟨B, S, h1, h2⟩ := h
  exact (store_any (at_word hp hk hC) (by omega) v R N B S w h1).mono fun _ _ ⟨he, hm, ho⟩ => ⟨he, ⟨_, _, hm, put_word B M p k C v h2⟩, ho⟩
theorem new_w (C : Nat) (h0 : 1 ≤ C) (hC : C ≤ 64) (w : World) : Calls Tryd.prog 27 #[.int .i64 (C : Int)] w fun e w' => e = .returned (.tuple #[.pointer (some ⟨w.heap.size + 1, 0, none⟩), .int .i64 0]) /\ MemW w' (w.heap.size + 1) w.heap.size C (fun _ _ => 0#64) /\ Below w.heap.size w w' /\ w'.heap.size = w.heap.size + 2 :=
  (new_n C h0 hC w).mono fun _ _ ⟨he, hm, hb, hs⟩ => ⟨he, ⟨_, _, hm, fun _ _ _ _ => zero_word⟩, hb, hs⟩

theorem exists_any (R N C : Nat) (F : Int) (hC : C ≤ 64) (w : World) (h : w.cell? ⟨R, 0, none⟩ = some (.slice (some ⟨N, 0, none⟩) C C)) : Calls Tryd.prog 71 #[.pointer (some ⟨R, 0, none⟩), .int .u64 F] w (Quiet (.bool (decide (F < (C : Int)))) w) := by
  have hu : IntKind.u64.wrap (C : Int) = (C : Int) := by rw [IntKind.wrap_u64]; omega
  have C1 := hide (frames_n R N C)
  go_enter Tryd.func71, Tryd.ntmps71
  go_wp2_with (go_at_call 76; (with_reducible refine (C1.out _ ?_).mono ?_); (focus (repeat (with_reducible first | assumption | refine c_dr _ ?_ | refine c_d1 ?_ | refine c_al _ ?_ | (refine c_set ?_ ?_; focus (dsimp only; omega)) | (apply c_be; assumption)))); rintro e w' ⟨rfl, n1, rfl⟩)
  go_ret
  exact ⟨rfl, _, rfl⟩

theorem read_let (R N C : Nat) (M : Nat -> Nat -> BitVec 64) (b0 b1 b2 b3 b4 b5 b6 b7 b8 b9 b10 b11 : Bool) (P K Z E A X F : Int) (c1 : ∀ W, Calls Tryd.prog 64 #[.int .u64 P] W (Quiet (.int .u64 Z) W)) (c2 : ∀ W, MemW W R N C M -> Calls Tryd.prog 23 #[.pointer (some ⟨R, 0, none⟩), .int .u64 A, .int .i64 8] W (Quiet (.tuple #[.int .u64 X, .int .i64 0]) W)) (c3 : ∀ W, Tab W -> Calls Tryd.prog 26 #[.int .u64 X] W (Makes (.agg #[.bool b0, .bool b1, .bool b2, .bool b3, .bool b4, .bool b5, .bool b6, .bool b7, .bool b8, .bool b9, .bool b10, .bool b11, .int .u64 F]) W)) (_e1 : IntKind.u64.wrap K = K) (_e2 : IntKind.u64.wrap (K * 8) = E) (_e3 : IntKind.u64.wrap (Z + E) = A) (w : World) (hT : Tab w) (hM : MemW w R N C M) : Calls Tryd.prog 72 #[.pointer (some ⟨R, 0, none⟩), .int .u64 P, .int .i64 K] w (Makes (.agg #[.bool b0, .bool b1, .bool b2, .bool b3, .bool b4, .bool b5, .bool b6, .bool b7, .bool b8, .bool b9, .bool b10, .bool b11, .int .u64 F, .int .u64 A]) w) := by
  have Cc1 := hide c1
  have Cc2 := hide c2
  have Cc3 := hide c3
  clear c1 c2 c3
  obtain ⟨SS, LB', LS, LA', LH⟩ := rules5
  go_enter Tryd.func72, Tryd.ntmps72
  go_wp2_with (first | (go_at_call 64; (with_reducible refine (Cc1.out _).mono ?_); rintro e w' ⟨rfl, n1, rfl⟩) | (go_at_call 23; (first | ((with_reducible refine (Cc2.out _ ?_).mono ?_); (focus (repeat (with_reducible first | assumption | refine mw_dr _ ?_ | refine mw_d1 ?_ | refine mw_al _ ?_ | (apply mw_be; assumption)))))); rintro e w' ⟨rfl, n1, rfl⟩) | (go_at_call 26; (first | ((with_reducible refine (Cc3.out _ ?_).mono ?_); (refine hT.behind ?_; repeat (with_reducible first | assumption | exact Below.refl _ _ | refine Below.drew ?_ | refine below_drewN ?_ _ | refine bw_alloc ?_ _ | (refine bw_set ?_ ?_ _; focus (dsimp only; omega)) | (apply bw_behind; assumption))))); rintro e w1 ⟨rfl, hb1⟩; obtain ⟨hr1, hh1, m1, hs1⟩ := bl_all hb1))
  refine bodyPost_ret (v := .agg #[.bool b0, .bool b1, .bool b2, .bool b3, .bool b4, .bool b5, .bool b6, .bool b7, .bool b8, .bool b9, .bool b10, .bool b11, .int .u64 F, .int .u64 A]) (by simp (maxDischargeDepth := 4) [results, Tryd.results72, go_sem, *]) rfl ?_
  refine ⟨rfl, ?_⟩
  repeat (with_reducible first | assumption | exact Below.refl _ _ | refine Below.drew ?_ | refine below_drewN ?_ _ | refine bw_alloc ?_ _ | (refine bw_set ?_ ?_ _; focus (dsimp only; omega)) | (apply bw_behind; assumption))

theorem read_any {p k C : Nat} (hp : p < C) (hk : k < 512) (hC : C ≤ 64) (R N : Nat) (M : Nat -> Nat -> BitVec 64) (w : World) (hT : Tab w) (hM : MemW w R N C M) : Calls Tryd.prog 72 #[.pointer (some ⟨R, 0, none⟩), .int .u64 (p : Int), .int .i64 (k : Int)] w (Makes (.agg #[.bool ((M p k).getLsbD 0), .bool ((M p k).getLsbD 1), .bool ((M p k).getLsbD 2), .bool ((M p k).getLsbD 3), .bool ((M p k).getLsbD 4), .bool ((M p k).getLsbD 5), .bool ((M p k).getLsbD 6), .bool ((M p k).getLsbD 7), .bool ((M p k).getLsbD 58), .bool ((M p k).getLsbD 59), .bool ((M p k).getLsbD 60), .bool ((M p k).getLsbD 61), .int .u64 ((getB (M p k) 10 44).toNat : Int), .int .u64 ((p * 4096 + 8 * k : Nat) : Int)]) w) := by
  have hq : (BitVec.ofNat 64 p).toNat = p := by rw [BitVec.toNat_ofNat, Nat.mod_eq_of_lt (by omega)]
  have c1 := fun W => address_any (BitVec.ofNat 64 p) W
  rw [hq] at c1
  exact read_let R N C M ((M p k).getLsbD 0) ((M p k).getLsbD 1) ((M p k).getLsbD 2) ((M p k).getLsbD 3) ((M p k).getLsbD 4) ((M p k).getLsbD 5) ((M p k).getLsbD 6) ((M p k).getLsbD 7) ((M p k).getLsbD 58) ((M p k).getLsbD 59) ((M p k).getLsbD 60) ((M p k).getLsbD 61) (p : Int) (k : Int) _ ((k * 8 : Nat) : Int) ((p * 4096 + 8 * k : Nat) : Int) _ _ c1 (fun W h => load_w hp hk hC R N M W h) (fun W h => of_any (M p k) W h) (by rw [IntKind.wrap_u64]; omega) (by rw [IntKind.wrap_u64]; omega) (by rw [IntKind.wrap_u64, IntKind.wrap_u64]; omega) w hT hM
end Go.Proofs.YtkajndonefkegaaDoor
