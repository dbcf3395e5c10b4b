/-
  Texts laid one behind the other: MmuRef, MmuRefP, MmuRefT.
-/
import Derived.Test.YtkajndonefkegaaDoorGTr
import Derived.Test.YtkajndonefkegaaDoorWalkRWalk
import Derived.Test.YtkajndonefkegaaDoorWalkRCheck
import Derived.Test.YtkajndonefkegaaDoorGWm
import Derived.Test.YtkajndonefkegaaDoorGMref
import Derived.Deep.DeepCutAuto
import Derived.Test.YtkajndonefkegaaDoorGMath
set_option maxRecDepth 100000
set_option maxHeartbeats 64000000
namespace Go.Proofs.YtkajndonefkegaaDoor
open Go.RowKit Words FieldMath PteMath

theorem rplace_let (b0 b1 b2 b3 b4 b5 b6 b7 b8 b9 b10 b11 S : Bool) (F V k X Y Z : Int) (_h1 : IntKind.u64.wrap (F * 4096) = X) (_h2 : V.tmod 4096 = Y) (_h3 : V % 4096 = Y) (_h4 : IntKind.u64.wrap Y = Y) (_h5 : IntKind.u64.wrap (X + Y) = Z) (hk : ((k == 3) = true /\ S = !b9) ∨ ((k == 3) = false /\ S = false)) (w : World) : Calls Tryd.prog 38 #[.agg #[.bool b0, .bool b1, .bool b2, .bool b3, .bool b4, .bool b5, .bool b6, .bool b7, .bool b8, .bool b9, .bool b10, .bool b11, .int .u64 F], .int .u64 V, .int .i64 k] w (Makes (.agg #[.int .u64 Z, .bool S]) w) := by
  obtain ⟨SS, LB', LS, LA', LH⟩ := rules5
  rcases hk with ⟨hk, rfl⟩ | ⟨hk, rfl⟩
  · go_enter Tryd.func38, Tryd.ntmps38
    go_wp2
    refine bodyPost_ret (v := .agg #[.int .u64 Z, .bool (!b9)]) (by simp (maxDischargeDepth := 4) [results, Tryd.results38, go_sem, *]) rfl ?_
    refine ⟨rfl, ?_⟩
    repeat (with_reducible first | assumption | exact Below.refl _ _ | refine Below.drew ?_ | refine below_drewN ?_ _ | refine bw_alloc ?_ _ | (refine bw_set ?_ ?_ _; focus (dsimp only; omega)) | (apply bw_behind; assumption))
  · go_enter Tryd.func38, Tryd.ntmps38
    go_wp2
    refine bodyPost_ret (v := .agg #[.int .u64 Z, .bool false]) (by simp (maxDischargeDepth := 4) [results, Tryd.results38, go_sem, *]) rfl ?_
    refine ⟨rfl, ?_⟩
    repeat (with_reducible first | assumption | exact Below.refl _ _ | refine Below.drew ?_ | refine below_drewN ?_ _ | refine bw_alloc ?_ _ | (refine bw_set ?_ ?_ _; focus (dsimp only; omega)) | (apply bw_behind; assumption))
theorem rplace_any (b0 b1 b2 b3 b4 b5 b6 b7 b8 b9 b10 b11 : Bool) (F V k : Int) (hV : 0 ≤ V) (w : World) : Calls Tryd.prog 38 #[.agg #[.bool b0, .bool b1, .bool b2, .bool b3, .bool b4, .bool b5, .bool b6, .bool b7, .bool b8, .bool b9, .bool b10, .bool b11, .int .u64 F], .int .u64 V, .int .i64 k] w (Makes (.agg #[.int .u64 (accA F V 0), .bool ((k == 3) && !b9)]) w) := by
  refine rplace_let b0 b1 b2 b3 b4 b5 b6 b7 b8 b9 b10 b11 ((k == 3) && !b9) F V k _ (V % 4096) (accA F V 0) rfl (by rw [Int.tmod_eq_emod_of_nonneg hV]) rfl (by rw [IntKind.wrap_u64]; omega) rfl ?_ w
  cases h : (k == 3)
  · exact .inr ⟨rfl, rfl⟩
  · exact .inl ⟨rfl, by simp⟩
theorem rwalk_more (l : List LayD) (hl : l.length ≤ 100) (sa : Option Addr) (na ca : Nat) (sb : Option Addr) (nb cb : Nat) (root v : BitVec 64) (w : World) (hA : Sl w sa na ca (numA (laidR l))) (hB : Sl w sb nb cb (numV (laidR l))) : Calls Tryd.prog 39 #[.agg #[.int .i64 8, .slice sa na ca, .slice sb nb cb, .slice none 0 0], .int .u64 (root.toNat : Int), .int .u64 (v.toNat : Int)] w (Makes (rwalkV (walkM (laidM l) 8 root.toNat v.toNat)) w) := by
  unfold walkM
  by_cases hv : v.toNat < 274877906944
  · by_cases hr : root.toNat < 8
    · rw [if_pos ⟨hv, hr⟩]
      refine rwalk_let sa na ca sb nb cb _ _ (laidM l) v.toNat _ root.toNat _ rfl (by omega) (fun i W => rindex_any v i W) (fun p k W hp hk x y => ?_) (fun x W => rof_any x W) (fun b0 b1 b2 b3 b4 b5 b6 b7 b8 b9 b10 b11 F W => rright_any b0 b1 b2 b3 b4 b5 b6 b7 b8 b9 b10 b11 F W) (fun b0 b1 b2 b3 b4 b5 b6 b7 b8 b9 b10 b11 F W => rleaf_any b0 b1 b2 b3 b4 b5 b6 b7 b8 b9 b10 b11 F W) hr w hA hB
      have := rload_any sa na ca sb nb cb (laidR l) (p * 4096 + 8 * k) (by omega) (by omega) (by rw [laidR_length]; omega) W x y
      rw [laid_word l p k hp hk] at this
      exact this
    · rw [if_neg (fun h => hr h.2)]
      exact rwalk_root sa na ca sb nb cb _ _ (by omega) (by omega) w
  · rw [if_neg (fun h => hv h.1)]
    exact rwalk_far sa na ca sb nb cb _ _ (by omega) w

theorem rplain_none (w : World) (sa sb s1 s2 : Option Addr) (na ca nb cb n1 q1 n2 q2 : Nat) (A V k : Int) (G t : Bool) (c1 : ∀ W, Below w.heap.size w W -> Calls Tryd.prog 39 #[.agg #[.int .i64 8, .slice sa na ca, .slice sb nb cb, .slice none 0 0], .int .u64 0, .int .u64 V] W (Makes (.tuple #[.agg #[.bool false, .bool false, .bool false, .bool false, .bool false, .bool false, .bool false, .bool false, .bool false, .bool false, .bool false, .bool false, .int .u64 0], .int .u64 0, .int .i64 1]) W)) : Calls Tryd.prog 10 #[.agg #[.slice s1 n1 q1, .slice s2 n2 q2, .int .u64 0, .int .u64 A, .bool G], .agg #[.int .i64 8, .slice sa na ca, .slice sb nb cb, .slice none 0 0], .int .u64 V, .int .i64 k, .bool t] w (Makes (.tuple #[.agg #[.int .u64 0, .bool false], .int .i64 1]) w) := by
  have Cc1 := hide c1
  clear c1
  obtain ⟨SS, LB', LS, LA', LH⟩ := rules5
  go_enter Tryd.func10, Tryd.ntmps10
  go_wp2_with (first | (go_at_call 39; (with_reducible refine (Cc1.out _ ?_).mono ?_); (focus (repeat (with_reducible first | assumption | exact Below.refl _ _ | refine Below.drew ?_ | refine below_drewN ?_ _ | refine bw_alloc ?_ _ | (refine bw_set ?_ ?_ _; focus (dsimp only; omega)) | (apply bw_behind; assumption)))); rintro e w1 ⟨rfl, hb1⟩; obtain ⟨hr1, hh1, m1, hs1⟩ := bl_all hb1))
  refine bodyPost_ret (v := .tuple #[.agg #[.int .u64 0, .bool false], .int .i64 1]) (by simp (maxDischargeDepth := 4) [results, Tryd.results10, go_sem, *]) rfl ?_
  refine ⟨rfl, ?_⟩
  repeat (with_reducible first | assumption | exact Below.refl _ _ | refine Below.drew ?_ | refine below_drewN ?_ _ | refine bw_alloc ?_ _ | (refine bw_set ?_ ?_ _; focus (dsimp only; omega)) | (apply bw_behind; assumption))

theorem rplain_bad (w : World) (sa sb s1 s2 : Option Addr) (na ca nb cb n1 q1 n2 q2 : Nat) (A V k : Int) (G t : Bool) (b0 b1 b2 b3 b4 b5 b6 b7 b8 b9 b10 b11 : Bool) (F X Q : Int) (c1 : ∀ W, Below w.heap.size w W -> Calls Tryd.prog 39 #[.agg #[.int .i64 8, .slice sa na ca, .slice sb nb cb, .slice none 0 0], .int .u64 0, .int .u64 V] W (Makes (.tuple #[.agg #[.bool b0, .bool b1, .bool b2, .bool b3, .bool b4, .bool b5, .bool b6, .bool b7, .bool b8, .bool b9, .bool b10, .bool b11, .int .u64 F], .int .u64 X, .int .i64 0]) W)) (c2 : ∀ W, Calls Tryd.prog 36 #[.agg #[.bool b0, .bool b1, .bool b2, .bool b3, .bool b4, .bool b5, .bool b6, .bool b7, .bool b8, .bool b9, .bool b10, .bool b11, .int .u64 F], .int .i64 k, .bool t, .bool G] W (Makes (.int .i64 Q) W)) (_hQ : (Q != 0) = true) : Calls Tryd.prog 10 #[.agg #[.slice s1 n1 q1, .slice s2 n2 q2, .int .u64 0, .int .u64 A, .bool G], .agg #[.int .i64 8, .slice sa na ca, .slice sb nb cb, .slice none 0 0], .int .u64 V, .int .i64 k, .bool t] w (Makes (.tuple #[.agg #[.int .u64 0, .bool false], .int .i64 Q]) w) := by
  have Cc1 := hide c1
  have Cc2 := hide c2
  clear c1 c2
  obtain ⟨SS, LB', LS, LA', LH⟩ := rules5
  go_enter Tryd.func10, Tryd.ntmps10
  go_wp2_with (first | (go_at_call 39; (with_reducible refine (Cc1.out _ ?_).mono ?_); (focus (repeat (with_reducible first | assumption | exact Below.refl _ _ | refine Below.drew ?_ | refine below_drewN ?_ _ | refine bw_alloc ?_ _ | (refine bw_set ?_ ?_ _; focus (dsimp only; omega)) | (apply bw_behind; assumption)))); rintro e w1 ⟨rfl, hb1⟩; obtain ⟨hr1, hh1, m1, hs1⟩ := bl_all hb1) | (go_at_call 36; (with_reducible refine (Cc2.out _).mono ?_); rintro e w2 ⟨rfl, hb2⟩; obtain ⟨hr2, hh2, m2, hs2⟩ := bl_all hb2))
  refine bodyPost_ret (v := .tuple #[.agg #[.int .u64 0, .bool false], .int .i64 Q]) (by simp (maxDischargeDepth := 4) [results, Tryd.results10, go_sem, *]) rfl ?_
  refine ⟨rfl, ?_⟩
  repeat (with_reducible first | assumption | exact Below.refl _ _ | refine Below.drew ?_ | refine below_drewN ?_ _ | refine bw_alloc ?_ _ | (refine bw_set ?_ ?_ _; focus (dsimp only; omega)) | (apply bw_behind; assumption))

theorem rplain_ok (w : World) (sa sb s1 s2 : Option Addr) (na ca nb cb n1 q1 n2 q2 : Nat) (A V k : Int) (G t : Bool) (b0 b1 b2 b3 b4 b5 b6 b7 b8 b9 b10 b11 S : Bool) (F X Z : Int) (c1 : ∀ W, Below w.heap.size w W -> Calls Tryd.prog 39 #[.agg #[.int .i64 8, .slice sa na ca, .slice sb nb cb, .slice none 0 0], .int .u64 0, .int .u64 V] W (Makes (.tuple #[.agg #[.bool b0, .bool b1, .bool b2, .bool b3, .bool b4, .bool b5, .bool b6, .bool b7, .bool b8, .bool b9, .bool b10, .bool b11, .int .u64 F], .int .u64 X, .int .i64 0]) W)) (c2 : ∀ W, Calls Tryd.prog 36 #[.agg #[.bool b0, .bool b1, .bool b2, .bool b3, .bool b4, .bool b5, .bool b6, .bool b7, .bool b8, .bool b9, .bool b10, .bool b11, .int .u64 F], .int .i64 k, .bool t, .bool G] W (Makes (.int .i64 0) W)) (c3 : ∀ W, Calls Tryd.prog 38 #[.agg #[.bool b0, .bool b1, .bool b2, .bool b3, .bool b4, .bool b5, .bool b6, .bool b7, .bool b8, .bool b9, .bool b10, .bool b11, .int .u64 F], .int .u64 V, .int .i64 k] W (Makes (.agg #[.int .u64 Z, .bool S]) W)) : Calls Tryd.prog 10 #[.agg #[.slice s1 n1 q1, .slice s2 n2 q2, .int .u64 0, .int .u64 A, .bool G], .agg #[.int .i64 8, .slice sa na ca, .slice sb nb cb, .slice none 0 0], .int .u64 V, .int .i64 k, .bool t] w (Makes (.tuple #[.agg #[.int .u64 Z, .bool S], .int .i64 0]) w) := by
  have Cc1 := hide c1
  have Cc2 := hide c2
  have Cc3 := hide c3
  clear c1 c2 c3
  obtain ⟨SS, LB', LS, LA', LH⟩ := rules5
  go_enter Tryd.func10, Tryd.ntmps10
  go_wp2_with (first | (go_at_call 39; (with_reducible refine (Cc1.out _ ?_).mono ?_); (focus (repeat (with_reducible first | assumption | exact Below.refl _ _ | refine Below.drew ?_ | refine below_drewN ?_ _ | refine bw_alloc ?_ _ | (refine bw_set ?_ ?_ _; focus (dsimp only; omega)) | (apply bw_behind; assumption)))); rintro e w1 ⟨rfl, hb1⟩; obtain ⟨hr1, hh1, m1, hs1⟩ := bl_all hb1) | (go_at_call 36; (with_reducible refine (Cc2.out _).mono ?_); rintro e w2 ⟨rfl, hb2⟩; obtain ⟨hr2, hh2, m2, hs2⟩ := bl_all hb2) | (go_at_call 38; (with_reducible refine (Cc3.out _).mono ?_); rintro e w3 ⟨rfl, hb3⟩; obtain ⟨hr3, hh3, m3, hs3⟩ := bl_all hb3))
  refine bodyPost_ret (v := .tuple #[.agg #[.int .u64 Z, .bool S], .int .i64 0]) (by simp (maxDischargeDepth := 4) [results, Tryd.results10, go_sem, *]) rfl ?_
  refine ⟨rfl, ?_⟩
  repeat (with_reducible first | assumption | exact Below.refl _ _ | refine Below.drew ?_ | refine below_drewN ?_ _ | refine bw_alloc ?_ _ | (refine bw_set ?_ ?_ _; focus (dsimp only; omega)) | (apply bw_behind; assumption))
end Go.Proofs.YtkajndonefkegaaDoor

namespace Go.Proofs.YtkajndonefkegaaDoor
open Go.RowKit Words FieldMath PteMath

theorem rplain_any (l : List LayD) (hl : l.length ≤ 100) (sa sb s1 s2 : Option Addr) (na ca nb cb n1 q1 n2 q2 : Nat) (v : BitVec 64) (A k : Int) (t G : Bool) (w : World) (hA : Sl w sa na ca (numA (laidR l))) (hB : Sl w sb nb cb (numV (laidR l))) : Calls Tryd.prog 10 #[.agg #[.slice s1 n1 q1, .slice s2 n2 q2, .int .u64 0, .int .u64 A, .bool G], .agg #[.int .i64 8, .slice sa na ca, .slice sb nb cb, .slice none 0 0], .int .u64 (v.toNat : Int), .int .i64 k, .bool t] w (Makes (outV (plainR (laidM l) 8 0 v.toNat k t G)) w) := by
  have c1 := fun W (hb : Below w.heap.size w W) => rwalk_more l hl sa na ca sb nb cb 0#64 v W (sl_be hb hA) (sl_be hb hB)
  rw [show (0#64).toNat = 0 from rfl] at c1
  unfold plainR
  cases hw : walkM (laidM l) 8 0 v.toNat with
  | none =>
    rw [hw] at c1
    exact rplain_none w sa sb s1 s2 na ca nb cb n1 q1 n2 q2 A _ k G t c1
  | some y =>
    obtain ⟨x, a⟩ := y
    rw [hw] at c1
    have c2 := fun W => rcheck_any (x.getLsbD 0) (x.getLsbD 1) (x.getLsbD 2) (x.getLsbD 3) (x.getLsbD 4) (x.getLsbD 5) (x.getLsbD 6) (x.getLsbD 7) (x.getLsbD 58) (x.getLsbD 59) (x.getLsbD 60) (x.getLsbD 61) t G (getB x 10 44) k W
    dsimp only
    by_cases hQ : ckW x k t G = 0
    · rw [hQ]
      unfold ckW at hQ
      rw [hQ] at c2
      have c3 := fun W => rplace_any (x.getLsbD 0) (x.getLsbD 1) (x.getLsbD 2) (x.getLsbD 3) (x.getLsbD 4) (x.getLsbD 5) (x.getLsbD 6) (x.getLsbD 7) (x.getLsbD 58) (x.getLsbD 59) (x.getLsbD 60) (x.getLsbD 61) ((getB x 10 44).toNat : Int) (v.toNat : Int) k (by omega) W
      exact rplain_ok w sa sb s1 s2 na ca nb cb n1 q1 n2 q2 A _ k G t (x.getLsbD 0) (x.getLsbD 1) (x.getLsbD 2) (x.getLsbD 3) (x.getLsbD 4) (x.getLsbD 5) (x.getLsbD 6) (x.getLsbD 7) (x.getLsbD 58) (x.getLsbD 59) (x.getLsbD 60) (x.getLsbD 61) _ _ _ _ c1 c2 c3
    · have hA : accA ((getB x 10 44).toNat : Int) (v.toNat : Int) (ckW x k t G) = 0 := if_neg hQ
      have hS : accS k (x.getLsbD 59) (ckW x k t G) = false := if_neg hQ
      rw [hA, hS]
      exact rplain_bad w sa sb s1 s2 na ca nb cb n1 q1 n2 q2 A _ k G t (x.getLsbD 0) (x.getLsbD 1) (x.getLsbD 2) (x.getLsbD 3) (x.getLsbD 4) (x.getLsbD 5) (x.getLsbD 6) (x.getLsbD 7) (x.getLsbD 58) (x.getLsbD 59) (x.getLsbD 60) (x.getLsbD 61) _ _ _ c1 c2 (by simpa using hQ)
end Go.Proofs.YtkajndonefkegaaDoor

namespace Go.Proofs.YtkajndonefkegaaDoor
open Go.RowKit Words FieldMath PteMath

def MemR (W : World) (B : Nat -> Prop) (sa : Option Addr) (na ca : Nat) (sb : Option Addr) (nb cb : Nat) (D : List (Nat × BitVec 8)) : Prop := Sl W sa na ca (numA D) /\ Sl W sb nb cb (numV D) /\ (∀ g, sa = some ⟨g, 0, none⟩ -> B g) /\ (∀ g, sb = some ⟨g, 0, none⟩ -> B g)
theorem mr_be {W W' : World} {B : Nat -> Prop} {sa sb : Option Addr} {na ca nb cb : Nat} {D : List (Nat × BitVec 8)} (hb : Below W.heap.size W W') (h : MemR W B sa na ca sb nb cb D) : MemR W' B sa na ca sb nb cb D := ⟨sl_be hb h.1, sl_be hb h.2.1, h.2.2.1, h.2.2.2⟩
theorem mr_sub {W : World} {B C : Nat -> Prop} {sa sb : Option Addr} {na ca nb cb : Nat} {D : List (Nat × BitVec 8)} (hb : ∀ g, C g -> B g) (h : MemR W C sa na ca sb nb cb D) : MemR W B sa na ca sb nb cb D := ⟨h.1, h.2.1, fun g hg => hb g (h.2.2.1 g hg), fun g hg => hb g (h.2.2.2 g hg)⟩
theorem mr_set {W : World} {B : Nat -> Prop} {sa sb : Option Addr} {na ca nb cb : Nat} {D : List (Nat × BitVec 8)} {p : Addr} {u : Value} (hp : ∀ g, B g -> g ≠ p.block) (h : MemR W B sa na ca sb nb cb D) : MemR (W.setCell p u) B sa na ca sb nb cb D :=
  ⟨sl_set h.1 (fun g hg => hp g (h.2.2.1 g hg)), sl_set h.2.1 (fun g hg => hp g (h.2.2.2 g hg)), h.2.2.1, h.2.2.2⟩
theorem mr_al {W : World} {B : Nat -> Prop} {sa sb : Option Addr} {na ca nb cb : Nat} {D : List (Nat × BitVec 8)} (ob : Obj) (h : MemR W B sa na ca sb nb cb D) : MemR (W.alloc ob) B sa na ca sb nb cb D := mr_be (below_alloc (Below.refl _ _) (Nat.le_refl _) ob) h
theorem mr_dr {W : World} {B : Nat -> Prop} {sa sb : Option Addr} {na ca nb cb : Nat} {D : List (Nat × BitVec 8)} (k : Nat) (h : MemR W B sa na ca sb nb cb D) : MemR (W.drewN k) B sa na ca sb nb cb D := ⟨sl_dr k h.1, sl_dr k h.2.1, h.2.2⟩
theorem mr_d1 {W : World} {B : Nat -> Prop} {sa sb : Option Addr} {na ca nb cb : Nat} {D : List (Nat × BitVec 8)} (h : MemR W B sa na ca sb nb cb D) : MemR W.drew B sa na ca sb nb cb D := ⟨sl_d1 h.1, sl_d1 h.2.1, h.2.2⟩
theorem owns_set {W : World} {base n size : Nat} {e : TypeId} {v : Value} {xs : List Value} {p : Addr} {u : Value} (hp : p.block < base) (h : W.ownsRow base e size v n xs) : (W.setCell p u).ownsRow base e size v n xs := by
  refine ⟨h.1, ?_⟩
  rcases h.2 with h2 | ⟨g, cap, cur, rfl, h3, h4, h5⟩
  · exact .inl h2
  · exact .inr ⟨g, cap, cur, rfl, h3, (Below.heap_setCell _ _ _ _ (by omega)).trans h4, h5⟩
theorem rb_set {W : World} {b : Nat} {v : Value} {L : List (LnX Int)} {p : Addr} {u : Value} (hp : p.block < b) (h : RefB W b v L) : RefB (W.setCell p u) b v L := owns_set hp h
theorem ez_rb_set {W : World} {b : Nat} {v : Value} {L : List Fd} {p : Addr} {u : Value} (hp : p.block < b) (h : EntB W b v L) : EntB (W.setCell p u) b v L := owns_set hp h
theorem fr_bn {n b k : Nat} {W W' : World} (hb : Below n W W') (hlt : b < n) (h : W.frozen? ⟨b, k, none⟩ = false) : W'.frozen? ⟨b, k, none⟩ = false := (hb.frozen (p := ⟨b, k, none⟩) hlt).trans h
theorem bsz {n : Nat} {a c : World} (h1 : n + 5 ≤ a.heap.size) (h : Below a.heap.size a c) : n + 5 ≤ c.heap.size := Nat.le_trans h1 h.size
theorem rb_slice {W : World} {b : Nat} {v : Value} {L : List (LnX Int)} (h : RefB W b v L) : ∃ s n q, v = .slice s n q := by
  rcases (rb_t h).form with ⟨rfl, _⟩ | ⟨g, cap, rfl, _⟩
  · exact ⟨_, _, _, rfl⟩
  · exact ⟨_, _, _, rfl⟩
theorem ent_len {W : World} {b : Nat} {s : Option Addr} {n q : Nat} {L : List Fd} (h : EntB W b (.slice s n q) L) : n = L.length := by
  rcases (ez_rb_t h).form with ⟨h1, rfl⟩ | ⟨g, cap, h1, _⟩
  · injection h1
  · injection h1
theorem ent_src {W : World} {b : Nat} {s : Option Addr} {n q : Nat} {L : List Fd} (h : EntB W b (.slice s n q) L) : ESrc W W.heap.size (.slice s n q) n L := by
  have hn := ent_len h
  subst hn
  refine ⟨rfl, ?_⟩
  rcases (ez_rb_t h).form with ⟨h1, rfl⟩ | ⟨g, cap, h1, h2, _, h4⟩
  · exact .inl ⟨h1, rfl⟩
  · exact .inr ⟨g, 0, cap, h1, h2, fun j v hv => by rw [Nat.zero_add]; exact h4 j v hv⟩
theorem fit_slice {n : Nat} {v : Value} {W : World} {base : Nat} {L : List Fd} (h : W.ownsRow base 66 13 v n (entF L)) : ∃ s q, v = .slice s n q := by
  rcases h.2 with ⟨rfl, rfl⟩ | ⟨g, cap, cur, rfl, _⟩
  · exact ⟨_, _, rfl⟩
  · exact ⟨_, _, rfl⟩

theorem rt_far (w : World) (b : Nat) (_hbw : b ≤ w.heap.size) (B : Nat -> Prop) (_hB : ∀ g, w.heap.size ≤ g -> B g) (sa sb s1 s2 : Option Addr) (na ca nb cb n1 q1 n2 q2 : Nat) (A V k Z Q : Int) (G t S : Bool) (L L' : List (LnX Int)) (E E' : List Fd) (D D' : List (Nat × BitVec 8))  (_hV : 274877906944 ≤ V) (hZ : Z = 0) (hS : S = false) (hQ : Q = 1) (hLL : L' = L) (hEE : E' = E) (hDD : D' = D) (hL : RefB w b (.slice s1 n1 q1) L) (hE : EntB w b (.slice s2 n2 q2) E) (hD : MemR w B sa na ca sb nb cb D) : Calls Tryd.prog 8 #[.agg #[.slice s1 n1 q1, .slice s2 n2 q2, .int .u64 0, .int .u64 A, .bool G], .agg #[.int .i64 8, .slice sa na ca, .slice sb nb cb, .slice none 0 0], .int .u64 V, .int .i64 k, .bool t] w (fun e w' => ∃ s1' n1' q1' s2' n2' q2' sa' na' ca' sb' nb' cb', e = .returned (.tuple #[.agg #[.slice s1' n1' q1', .slice s2' n2' q2', .int .u64 0, .int .u64 A, .bool G], .agg #[.int .i64 8, .slice sa' na' ca', .slice sb' nb' cb', .slice none 0 0], .agg #[.int .u64 Z, .bool S], .int .i64 Q]) /\ RefB w' b (.slice s1' n1' q1') L' /\ EntB w' b (.slice s2' n2' q2') E' /\ MemR w' B sa' na' ca' sb' nb' cb' D' /\ Below w.heap.size w w') := by
  obtain ⟨SS, LB', LS, LA', LH⟩ := rules5
  go_enter Tryd.func8, Tryd.ntmps8
  subst hZ hS hQ hLL hEE hDD
  go_upto_region 2 with fail
  refine wp_abs (fun W => Below w.heap.size w W /\ W.cell? ⟨w.heap.size, 0, none⟩ = some (.slice s1 n1 q1) /\ W.cell? ⟨w.heap.size, 1, none⟩ = some (.slice s2 n2 q2) /\ W.cell? ⟨w.heap.size, 2, none⟩ = some (.int .u64 0) /\ W.cell? ⟨w.heap.size, 3, none⟩ = some (.int .u64 A) /\ W.cell? ⟨w.heap.size, 4, none⟩ = some (.bool G) /\ W.cell? ⟨w.heap.size + 1, 0, none⟩ = some (.int .i64 8) /\ W.cell? ⟨w.heap.size + 1, 1, none⟩ = some (.slice sa na ca) /\ W.cell? ⟨w.heap.size + 1, 2, none⟩ = some (.slice sb nb cb) /\ W.cell? ⟨w.heap.size + 1, 3, none⟩ = some (.slice none 0 0) /\ Own W (w.heap.size) 5 /\ Own W (w.heap.size + 1) 4 /\ Own W (w.heap.size + 2) 5 /\ Own W (w.heap.size + 3) 4 /\ Own W (w.heap.size + 4) 2) ?_ ?_
  · refine ⟨?_, ?_, ?_, ?_, ?_, ?_, ?_, ?_, ?_, ?_, ?_, ?_, ?_, ?_, ?_⟩
    all_goals (first | ((repeat (with_reducible first | assumption | exact Below.refl _ _ | refine Below.drew ?_ | refine below_drewN ?_ _ | refine bw_alloc ?_ _ | (refine bw_set ?_ ?_ _; focus (dsimp only; omega)) | (apply bw_behind; assumption))); done) | ((repeat (first | (with_reducible first | assumption | refine o_dr _ ?_ | refine o_d1 ?_ | refine o_set ?_) | (with_reducible refine o_new ?_ ?_; (focus (simp)); (focus (simp))) | (with_reducible first | refine o_al _ ?_ | (apply o_be; assumption)))); done) | (simp [go_sem, *]; done))
  rintro w1 ⟨hB1, u1_0, u1_1, u1_2, u1_3, u1_4, m1_0, m1_1, m1_2, m1_3, o1_0, o1_1, o1_2, o1_3, o1_4⟩
  have hz1 : w.heap.size + 4 < w1.heap.size := by
    obtain ⟨x, hx⟩ := Option.isSome_iff_exists.1 (o1_4 0 (by omega)).1
    exact World.block_lt_of_cell? w1 _ hx
  have lb1_0 : ltB (w.heap.size) w1.heap.size = true := decide_eq_true (by omega)
  have lb1_1 : ltB (w.heap.size + 1) w1.heap.size = true := decide_eq_true (by omega)
  have lb1_2 : ltB (w.heap.size + 2) w1.heap.size = true := decide_eq_true (by omega)
  have lb1_3 : ltB (w.heap.size + 3) w1.heap.size = true := decide_eq_true (by omega)
  have lb1_4 : ltB (w.heap.size + 4) w1.heap.size = true := decide_eq_true (by omega)
  have fr2_0 := (o1_2 0 (by omega)).2
  obtain ⟨x2_0, v2_0⟩ := Option.isSome_iff_exists.1 (o1_2 0 (by omega)).1
  have fr2_1 := (o1_2 1 (by omega)).2
  obtain ⟨x2_1, v2_1⟩ := Option.isSome_iff_exists.1 (o1_2 1 (by omega)).1
  have fr2_2 := (o1_2 2 (by omega)).2
  obtain ⟨x2_2, v2_2⟩ := Option.isSome_iff_exists.1 (o1_2 2 (by omega)).1
  have fr2_3 := (o1_2 3 (by omega)).2
  obtain ⟨x2_3, v2_3⟩ := Option.isSome_iff_exists.1 (o1_2 3 (by omega)).1
  have fr2_4 := (o1_2 4 (by omega)).2
  obtain ⟨x2_4, v2_4⟩ := Option.isSome_iff_exists.1 (o1_2 4 (by omega)).1
  have fr3_0 := (o1_3 0 (by omega)).2
  obtain ⟨x3_0, v3_0⟩ := Option.isSome_iff_exists.1 (o1_3 0 (by omega)).1
  have fr3_1 := (o1_3 1 (by omega)).2
  obtain ⟨x3_1, v3_1⟩ := Option.isSome_iff_exists.1 (o1_3 1 (by omega)).1
  have fr3_2 := (o1_3 2 (by omega)).2
  obtain ⟨x3_2, v3_2⟩ := Option.isSome_iff_exists.1 (o1_3 2 (by omega)).1
  have fr3_3 := (o1_3 3 (by omega)).2
  obtain ⟨x3_3, v3_3⟩ := Option.isSome_iff_exists.1 (o1_3 3 (by omega)).1
  have fr4_0 := (o1_4 0 (by omega)).2
  obtain ⟨x4_0, v4_0⟩ := Option.isSome_iff_exists.1 (o1_4 0 (by omega)).1
  have fr4_1 := (o1_4 1 (by omega)).2
  obtain ⟨x4_1, v4_1⟩ := Option.isSome_iff_exists.1 (o1_4 1 (by omega)).1
  go_region
  go_wp2
  refine bodyPost_ret (v := .tuple #[.agg #[.slice s1 n1 q1, .slice s2 n2 q2, .int .u64 0, .int .u64 A, .bool G], .agg #[.int .i64 8, .slice sa na ca, .slice sb nb cb, .slice none 0 0], .agg #[.int .u64 0, .bool false], .int .i64 1]) (by simp (maxDischargeDepth := 4) [results, Tryd.results8, go_sem, *]) rfl ?_
  refine ⟨s1, n1, q1, s2, n2, q2, sa, na, ca, sb, nb, cb, rfl, ?_, ?_, ?_, ?_⟩
  · refine rb_be ?_ hL; repeat (with_reducible first | assumption | exact Below.refl _ _ | refine Below.drew ?_ | refine below_drewN ?_ _ | refine bw_alloc ?_ _ | (refine bw_set ?_ ?_ _; focus (dsimp only; omega)) | (apply bw_behind; assumption))
  · refine ez_rb_be ?_ hE; repeat (with_reducible first | assumption | exact Below.refl _ _ | refine Below.drew ?_ | refine below_drewN ?_ _ | refine bw_alloc ?_ _ | (refine bw_set ?_ ?_ _; focus (dsimp only; omega)) | (apply bw_behind; assumption))
  · refine mr_be ?_ hD; repeat (with_reducible first | assumption | exact Below.refl _ _ | refine Below.drew ?_ | refine below_drewN ?_ _ | refine bw_alloc ?_ _ | (refine bw_set ?_ ?_ _; focus (dsimp only; omega)) | (apply bw_behind; assumption))
  · repeat (with_reducible first | assumption | exact Below.refl _ _ | refine Below.drew ?_ | refine below_drewN ?_ _ | refine bw_alloc ?_ _ | (refine bw_set ?_ ?_ _; focus (dsimp only; omega)) | (apply bw_behind; assumption))
end Go.Proofs.YtkajndonefkegaaDoor
