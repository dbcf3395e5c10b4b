/-
  What Evict turns; what Put, Clear, Look and Lines answer for a nil buffer.
-/
import Derived.Test.YtkajndonefkegaaDoorMtb5
import Derived.Test.YtkajndonefkegaaDoorMtb6
namespace Go.Proofs.YtkajndonefkegaaDoor
open Go.RowKit

/-- What Evict leaves. -/
def evictM {α : Type} (M : Nat → List (LnX α)) (p : Int) : Nat → List (LnX α) := match (upF M 4)[(p % ((upF M 4).length : Int)).toNat]? with
  | none => M
  | some l => dropM M l.1 l.2.1
theorem flat_at {W : World} {A k : Nat} {L : List Ln} (h : W.rangeAt A 0 (flatC L)) (l : Ln) (hl : L[k]? = some l) : W.rangeAt A (k * 16) (lineI l.1 l.2.1 l.2.2) := by
  have := flat_line h k l hl
  rw [Nat.mul_comm] at this
  exact this

set_option maxRecDepth 100000 in
set_option maxHeartbeats 2000000 in
theorem evict_none (N : Nat) (M : Nat → List Ln) (p : Int) (hn : (upF M 4).length = 0) (w : World) (hM : TlbM w N M) :
    Calls Tryd.prog 20 #[.pointer (some ⟨N, 0, none⟩), .int .i64 p] w (fun e w' => e = .returned (.tuple #[]) ∧ TlbM w' N M ∧ Out1 N w w') := by
  have SS := cell_same
  have LB' := ltB_add
  have LS := ltB_self
  have LA' := alloc_reads
  have LH := alloc_holds
  have C1 := hide (fun W hM => lines_any N M W hM)
  rw [hn] at C1
  have HM := hide hM
  clear hM hn
  go_enter Tryd.func20, Tryd.ntmps20
  go_wp2_with (go_at_call 22; (with_reducible refine (C1.out _ ?_).mono ?_); (focus (have hM := HM.out; repeat (first | with_reducible assumption | with_reducible refine tm_dr _ ?_ | with_reducible refine tm_d1 ?_ | with_reducible refine tm_al _ ?_ | (with_reducible refine tm_set ?_ ?_; focus (dsimp only; omega)) | (with_reducible apply tm_be; with_reducible assumption) | (with_reducible refine tm_bn (by with_reducible assumption) ?_ ?_; focus omega) | (with_reducible refine tm_out (by with_reducible assumption) ?_ ?_; focus omega)))); rintro e wl ⟨A, rfl, hrl, hAl, hbl⟩; have hTl := hide (tm_be hbl HM.out))
  refine bodyPost_ret (v := .tuple #[]) (by simp (maxDischargeDepth := 4) [results, Tryd.results20, go_sem, *]) rfl ?_
  exact ⟨rfl, hTl.out, Out1.of_below hbl (Nat.le_refl _)⟩

set_option maxRecDepth 100000 in
set_option maxHeartbeats 4000000 in
theorem evict_let (N n k : Nat) (M : Nat → List Ln) (p P1 P2 a b : Int) (x : Fd) (hn : (upF M 4).length = n) (_n0 : ((n : Int) == 0) = false) (hk : (upF M 4)[k]? = some (a, b, x)) (_k1 : (k : Int) < (n : Int)) (_k2 : ¬ ((n : Int) ≤ (k : Int))) (_k3 : (0 : Int) ≤ (k : Int))
    (_p1 : p.tmod (n : Int) = P1) (_p2 : IntKind.i64.wrap P1 = P1) (_p4 : IntKind.i64.wrap (P1 + (n : Int)) = P2) (_p6 : P2.tmod (n : Int) = (k : Int)) (_p7 : IntKind.i64.wrap (k : Int) = (k : Int)) (w : World) (hM : TlbM w N M) :
    Calls Tryd.prog 20 #[.pointer (some ⟨N, 0, none⟩), .int .i64 p] w (fun e w' => e = .returned (.tuple #[]) ∧ TlbM w' N (dropM M a b) ∧ Out1 N w w') := by
  have SS := cell_same
  have LB' := ltB_add
  have LS := ltB_self
  have LA' := alloc_reads
  have LH := alloc_holds
  have C1 := hide (fun W hM => lines_any N M W hM)
  have C2 := hide (fun W hM => drop_any N M a b W hM)
  rw [hn] at C1
  have HK := hide hk
  have HM := hide hM
  have hN : N < w.heap.size := hM.here
  clear hM hn hk
  go_enter Tryd.func20, Tryd.ntmps20
  go_wp2_with (first | ((refine wpList_load_line rfl _ rfl (_) (k * 16) rfl a b x ?_ ?_); (focus ((repeat (first | with_reducible assumption | with_reducible refine rg_dr _ ?_ | with_reducible refine rg_d1 ?_ | with_reducible refine rg_al _ ?_ | (with_reducible refine rg_set ?_ ?_; focus (dsimp only; omega)) | (with_reducible apply rg_be; with_reducible assumption) | (with_reducible refine rg_bn (by with_reducible assumption) ?_ ?_; focus omega) | (with_reducible refine rg_out (by with_reducible assumption) ?_ ?_; focus omega))); done))) | ((refine wpList_store_box rfl _ _ _ rfl _ a b x rfl rfl infoL ?_ ?_); (focus (repeat (first | with_reducible assumption | with_reducible refine o_dr _ ?_ | with_reducible refine o_d1 ?_ | with_reducible refine o_set ?_ | (with_reducible refine o_new ?_ ?_; (focus (simp)); (focus (simp))) | (with_reducible refine o_new ?_ ?_; (focus (simp [*]; done)); (focus (simp))) | (with_reducible refine o_new ?_ ?_; (focus (simp [*]; omega)); (focus (simp))) | with_reducible refine o_al _ ?_ | (with_reducible apply o_be; with_reducible assumption) | (with_reducible refine o_bn (by with_reducible assumption) ?_ ?_; focus omega)))); intro ws hrs hbs hos hss; have zr := row_rg hrs; have z0 := zr 0 _ rfl; have z1 := zr 1 _ rfl; clear zr) | (go_at_call 22; (with_reducible refine (C1.out _ ?_).mono ?_); (focus (have hM := HM.out; repeat (first | with_reducible assumption | with_reducible refine tm_dr _ ?_ | with_reducible refine tm_d1 ?_ | with_reducible refine tm_al _ ?_ | (with_reducible refine tm_set ?_ ?_; focus (dsimp only; omega)) | (with_reducible apply tm_be; with_reducible assumption) | (with_reducible refine tm_bn (by with_reducible assumption) ?_ ?_; focus omega) | (with_reducible refine tm_out (by with_reducible assumption) ?_ ?_; focus omega)))); rintro e wl ⟨A, rfl, hrl, hAl, hbl⟩; have hTl := hide (tm_be hbl HM.out); have rl : wl.rangeAt A (k * 16) (lineI a b x) := flat_at hrl _ HK.out; have hsl := hbl.size; have HRL := hide hrl; clear hrl) | (go_at_call 15; (with_reducible refine (C2.out _ ?_).mono ?_); (focus (have hTl := hTl.out; repeat (first | with_reducible assumption | with_reducible refine tm_dr _ ?_ | with_reducible refine tm_d1 ?_ | with_reducible refine tm_al _ ?_ | (with_reducible refine tm_set ?_ ?_; focus (dsimp only; omega)) | (with_reducible apply tm_be; with_reducible assumption) | (with_reducible refine tm_bn (by with_reducible assumption) ?_ ?_; focus omega) | (with_reducible refine tm_out (by with_reducible assumption) ?_ ?_; focus omega)))); rintro e we ⟨rfl, hTe, hUe⟩; have hTe := hide hTe))
  refine bodyPost_end (v := .tuple #[]) (by simp (maxDischargeDepth := 4) [results, Tryd.results20, go_sem, *]) rfl ?_
  refine ⟨rfl, hTe.out, ?_⟩
  repeat (first | with_reducible assumption | with_reducible exact Out1.refl _ _ | with_reducible refine u_dr _ ?_ | with_reducible refine u_d1 ?_ | with_reducible refine u_al _ ?_ | (with_reducible refine u_in _ ?_ ?_; focus omega) | (with_reducible refine u_new _ ?_ ?_; focus (dsimp only; omega)) | (with_reducible refine Out1.trans ?_ (by with_reducible assumption)) | (with_reducible apply u_bh; with_reducible assumption) | (with_reducible refine u_be (by with_reducible assumption) ?_ ?_; focus omega))
theorem evict_any (N : Nat) (M : Nat → List Ln) (p : Int) (w : World) (hM : TlbM w N M) :
    Calls Tryd.prog 20 #[.pointer (some ⟨N, 0, none⟩), .int .i64 p] w (fun e w' => e = .returned (.tuple #[]) ∧ TlbM w' N (evictM M p) ∧ Out1 N w w') := by
  have hl8 : (upF M 4).length ≤ 8 := by
    obtain ⟨R, _, hP⟩ := hM
    exact upF_length M 4 (fun r hr => (hP r hr).1)
  obtain ⟨n, hn⟩ : ∃ n, (upF M 4).length = n := ⟨_, rfl⟩
  rw [hn] at hl8
  unfold evictM
  rw [hn]
  by_cases h0 : n = 0
  · subst h0
    have : (upF M 4) = [] := List.eq_nil_of_length_eq_zero hn
    rw [this]
    exact evict_none N M p hn w hM
  · have e1 : 0 ≤ p % (n : Int) := Int.emod_nonneg _ (by omega)
    have e2 : p % (n : Int) < (n : Int) := Int.emod_lt_of_pos _ (by omega)
    obtain ⟨k, hk⟩ : ∃ k : Nat, p % (n : Int) = (k : Int) := ⟨(p % (n : Int)).toNat, by omega⟩
    rw [hk, Int.toNat_natCast]
    have hkn : k < (upF M 4).length := by omega
    rw [List.getElem?_eq_getElem hkn]
    have t1 : (p.tmod (n : Int)).natAbs < n := by
      rw [Int.natAbs_tmod]
      exact Nat.mod_lt _ (by omega)
    have t2 : p.tmod (n : Int) = p - n * p.tdiv n := Int.tmod_def _ _
    obtain ⟨P1, hP1⟩ : ∃ P1, p.tmod (n : Int) = P1 := ⟨_, rfl⟩
    rw [hP1] at t1
    have t3 : -(n : Int) < P1 ∧ P1 < (n : Int) := by omega
    have t4 : (P1 + (n : Int)).tmod (n : Int) = (k : Int) := by
      rw [Int.tmod_eq_emod_of_nonneg (by omega), Int.add_emod_right, ← hP1, t2, Int.sub_mul_emod_self_left, hk]
    have t5 : ∀ X : Int, -100 < X → X < 100 → IntKind.i64.wrap X = X := fun X h1 h2 => by rw [IntKind.wrap_i64]; omega
    exact evict_let N n k M p P1 (P1 + (n : Int)) _ _ _ hn (by simp; omega) (by rw [List.getElem?_eq_getElem hkn]) (by omega) (by omega) (by omega) hP1 (t5 _ (by omega) (by omega)) (t5 _ (by omega) (by omega)) t4 (t5 _ (by omega) (by omega)) w hM

set_option maxRecDepth 100000 in
set_option maxHeartbeats 1000000 in
theorem nput_any (w : World) : Calls Tryd.prog 61 #[.pointer none, .agg #[.int .u64 0, .int .u64 0, .bool false, .bool false, .bool false, .bool false, .bool false, .bool false, .bool false, .bool false, .bool false, .bool false, .bool false, .bool false, .int .u64 0, .int .u64 0]] w (Makes (.tuple #[]) w) := by
  have SS := cell_same
  have LB' := ltB_add
  have LS := ltB_self
  have LA' := alloc_reads
  have LH := alloc_holds
  go_enter Tryd.func61, Tryd.ntmps61
  go_wp2
  refine bodyPost_ret (v := .tuple #[]) (by simp (maxDischargeDepth := 4) [results, Tryd.results61, go_sem, *]) rfl ?_
  refine ⟨rfl, ?_⟩
  repeat (first | with_reducible assumption | with_reducible exact Below.refl _ _ | with_reducible refine Below.drew ?_ | with_reducible refine below_drewN ?_ _ | with_reducible refine bw_alloc ?_ _ | (with_reducible refine bw_set ?_ ?_ _; focus (dsimp only; omega)) | (with_reducible apply bw_behind; with_reducible assumption))

set_option maxRecDepth 100000 in
set_option maxHeartbeats 1000000 in
theorem nlines_any (w : World) : Calls Tryd.prog 22 #[.pointer none] w (Makes (.slice none 0 0) w) := by
  have SS := cell_same
  have LB' := ltB_add
  have LS := ltB_self
  have LA' := alloc_reads
  have LH := alloc_holds
  go_enter Tryd.func22, Tryd.ntmps22
  go_wp2
  refine bodyPost_ret (v := .slice none 0 0) (by simp (maxDischargeDepth := 4) [results, Tryd.results22, go_sem, *]) rfl ?_
  refine ⟨rfl, ?_⟩
  repeat (first | with_reducible assumption | with_reducible exact Below.refl _ _ | with_reducible refine Below.drew ?_ | with_reducible refine below_drewN ?_ _ | with_reducible refine bw_alloc ?_ _ | (with_reducible refine bw_set ?_ ?_ _; focus (dsimp only; omega)) | (with_reducible apply bw_behind; with_reducible assumption))

set_option maxRecDepth 100000 in
set_option maxHeartbeats 1000000 in
theorem nremove_any (w : World) : Calls Tryd.prog 50 #[.pointer none, .func (.func 54) #[] #[]] w (Makes (.tuple #[]) w) := by
  have SS := cell_same
  have LB' := ltB_add
  have LS := ltB_self
  have LA' := alloc_reads
  have LH := alloc_holds
  go_enter Tryd.func50, Tryd.ntmps50
  go_wp2
  refine bodyPost_ret (v := .tuple #[]) (by simp (maxDischargeDepth := 4) [results, Tryd.results50, go_sem, *]) rfl ?_
  refine ⟨rfl, ?_⟩
  repeat (first | with_reducible assumption | with_reducible exact Below.refl _ _ | with_reducible refine Below.drew ?_ | with_reducible refine below_drewN ?_ _ | with_reducible refine bw_alloc ?_ _ | (with_reducible refine bw_set ?_ ?_ _; focus (dsimp only; omega)) | (with_reducible apply bw_behind; with_reducible assumption))

set_option maxRecDepth 100000 in
set_option maxHeartbeats 1000000 in
theorem nclear_any (w : World) : Calls Tryd.prog 19 #[.pointer none] w (Makes (.tuple #[]) w) := by
  have SS := cell_same
  have LB' := ltB_add
  have LS := ltB_self
  have LA' := alloc_reads
  have LH := alloc_holds
  have C1 := hide nremove_any
  go_enter Tryd.func19, Tryd.ntmps19
  go_wp2_with (go_at_call 50; (with_reducible refine (C1.out _).mono ?_); rintro e w1 ⟨rfl, hb1⟩; have hr1 := below_reads hb1; have hh1 := below_holds hb1; obtain ⟨m1, hs1⟩ := below_grew hb1)
  refine bodyPost_end (v := .tuple #[]) (by simp (maxDischargeDepth := 4) [results, Tryd.results19, go_sem, *]) rfl ?_
  refine ⟨rfl, ?_⟩
  repeat (first | with_reducible assumption | with_reducible exact Below.refl _ _ | with_reducible refine Below.drew ?_ | with_reducible refine below_drewN ?_ _ | with_reducible refine bw_alloc ?_ _ | (with_reducible refine bw_set ?_ ?_ _; focus (dsimp only; omega)) | (with_reducible apply bw_behind; with_reducible assumption))

attribute [local irreducible] World.setCells in
set_option maxRecDepth 100000 in
set_option maxHeartbeats 2000000 in
theorem nlook_any (w : World) : Calls Tryd.prog 30 #[.pointer none, .int .u64 0, .int .u64 0] w (Makes (.tuple #[.agg #[.int .u64 0, .int .u64 0, .bool false, .bool false, .bool false, .bool false, .bool false, .bool false, .bool false, .bool false, .bool false, .bool false, .bool false, .bool false, .int .u64 0, .int .u64 0], .bool false]) w) := by
  have SS := cell_same
  have LB' := ltB_add
  have LS := ltB_self
  have LA' := alloc_reads
  have LH := alloc_holds
  go_enter Tryd.func30, Tryd.ntmps30
  go_wp2_with (first | ((refine wpList_store_box rfl _ _ _ rfl w.heap.size 0 0 (Fd.mk false false false false false false false false false false false false 0 0) rfl rfl infoL ?_ ?_); (focus (repeat (first | with_reducible assumption | with_reducible refine o_dr _ ?_ | with_reducible refine o_d1 ?_ | with_reducible refine o_set ?_ | (with_reducible refine o_new ?_ ?_; (focus (simp)); (focus (simp))) | (with_reducible refine o_new ?_ ?_; (focus (simp [*]; done)); (focus (simp))) | (with_reducible refine o_new ?_ ?_; (focus (simp [*]; omega)); (focus (simp))) | with_reducible refine o_al _ ?_ | (with_reducible apply o_be; with_reducible assumption) | (with_reducible refine o_bn (by with_reducible assumption) ?_ ?_; focus omega)))); intro wr hrr hbr hor hsr; have hrow := row_rg hrr; have z0 := hrow 0 _ rfl; have z1 := hrow 1 _ rfl; have z2 := hrow 2 _ rfl; have z3 := hrow 3 _ rfl; have z4 := hrow 4 _ rfl; have z5 := hrow 5 _ rfl; have z6 := hrow 6 _ rfl; have z7 := hrow 7 _ rfl; have z8 := hrow 8 _ rfl; have z9 := hrow 9 _ rfl; have z10 := hrow 10 _ rfl; have z11 := hrow 11 _ rfl; have z12 := hrow 12 _ rfl; have z13 := hrow 13 _ rfl; have z14 := hrow 14 _ rfl; have z15 := hrow 15 _ rfl; clear hrow))
  refine bodyPost_ret (v := .tuple #[.agg #[.int .u64 0, .int .u64 0, .bool false, .bool false, .bool false, .bool false, .bool false, .bool false, .bool false, .bool false, .bool false, .bool false, .bool false, .bool false, .int .u64 0, .int .u64 0], .bool false]) (by simp (maxDischargeDepth := 4) [results, Tryd.results30, go_sem, *]) rfl ?_
  refine ⟨rfl, ?_⟩
  refine Below.trans ?_ hbr
  repeat (first | with_reducible assumption | with_reducible exact Below.refl _ _ | with_reducible refine Below.drew ?_ | with_reducible refine below_drewN ?_ _ | with_reducible refine bw_alloc ?_ _ | (with_reducible refine bw_set ?_ ?_ _; focus (dsimp only; omega)) | (with_reducible apply bw_behind; with_reducible assumption))
end Go.Proofs.YtkajndonefkegaaDoor
