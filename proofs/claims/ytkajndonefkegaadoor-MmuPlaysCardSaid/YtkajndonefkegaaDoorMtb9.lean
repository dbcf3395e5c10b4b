/-
  What Evict turns; what Put, Clear, Look and Lines answer for a nil buffer.
-/
import Derived.Test.YtkajndonefkegaaDoorGMtbD
import Derived.Test.YtkajndonefkegaaDoorGMtbC
set_option maxRecDepth 100000
set_option maxHeartbeats 64000000
namespace Go.Proofs.YtkajndonefkegaaDoor
open Go.RowKit

def evictM {α : Type} (M : Nat -> List (LnX α)) (p : Int) : Nat -> List (LnX α) := match (upF M 4)[(p % ((upF M 4).length : Int)).toNat]? with
  | none => M
  | some l => dropM M l.1 l.2.1
theorem flat_at {W : World} {A k : Nat} {L : List Ln} (h : W.rangeAt A 0 (flatC L)) (l : Ln) (hl : L[k]? = some l) : W.rangeAt A (k * 16) (lineI l.1 l.2.1 l.2.2) := by
  have := flat_line h k l hl
  rw [Nat.mul_comm] at this
  exact this

theorem evict_none (N : Nat) (M : Nat -> List Ln) (p : Int) (hn : (upF M 4).length = 0) (w : World) (hM : TlbM w N M) :
    Calls Tryd.prog 20 #[.pointer (some ⟨N, 0, none⟩), .int .i64 p] w (fun e w' => e = .returned (.tuple #[]) /\ TlbM w' N M /\ Out1 N w w') := by
  obtain ⟨SS, LB', LS, LA', LH⟩ := rules5
  have C1 := hide (fun W hM => lines_any N M W hM)
  rw [hn] at C1
  have HM := hide hM
  clear hM hn
  go_enter Tryd.func20, Tryd.ntmps20
  go_wp2_with (go_at_call 22; (with_reducible refine (C1.out _ ?_).mono ?_); (focus (have hM := HM.out; repeat (with_reducible first | assumption | refine tm_dr _ ?_ | refine tm_d1 ?_ | refine tm_al _ ?_ | (refine tm_set ?_ ?_; focus (dsimp only; omega)) | (apply tm_be; assumption) | (refine tm_bn (by assumption) ?_ ?_; focus omega) | (refine tm_out (by assumption) ?_ ?_; focus omega)))); rintro e wl ⟨A, rfl, hrl, hAl, hbl⟩; have hTl := hide (tm_be hbl HM.out))
  refine bodyPost_ret (v := .tuple #[]) (by simp (maxDischargeDepth := 4) [results, Tryd.results20, go_sem, *]) rfl ?_
  exact ⟨rfl, hTl.out, Out1.of_below hbl (Nat.le_refl _)⟩

theorem evict_let (N n k : Nat) (M : Nat -> List Ln) (p P1 P2 a b : Int) (x : Fd) (hn : (upF M 4).length = n) (_n0 : ((n : Int) == 0) = false) (hk : (upF M 4)[k]? = some (a, b, x)) (_k1 : (k : Int) < (n : Int)) (_k2 : ¬ ((n : Int) ≤ (k : Int))) (_k3 : (0 : Int) ≤ (k : Int))
    (_p1 : p.tmod (n : Int) = P1) (_p2 : IntKind.i64.wrap P1 = P1) (_p4 : IntKind.i64.wrap (P1 + (n : Int)) = P2) (_p6 : P2.tmod (n : Int) = (k : Int)) (_p7 : IntKind.i64.wrap (k : Int) = (k : Int)) (w : World) (hM : TlbM w N M) :
    Calls Tryd.prog 20 #[.pointer (some ⟨N, 0, none⟩), .int .i64 p] w (fun e w' => e = .returned (.tuple #[]) /\ TlbM w' N (dropM M a b) /\ Out1 N w w') := by
  obtain ⟨SS, LB', LS, LA', LH⟩ := rules5
  have C1 := hide (fun W hM => lines_any N M W hM)
  have C2 := hide (fun W hM => drop_any N M a b W hM)
  rw [hn] at C1
  have HK := hide hk
  have HM := hide hM
  have hN : N < w.heap.size := hM.here
  clear hM hn hk
  go_enter Tryd.func20, Tryd.ntmps20
  go_wp2_with (first | ((refine wpList_load_line rfl _ rfl (_) (k * 16) rfl a b x ?_ ?_); (focus ((repeat (with_reducible first | assumption | refine rg_dr _ ?_ | refine rg_d1 ?_ | refine rg_al _ ?_ | (refine rg_set ?_ ?_; focus (dsimp only; omega)) | (apply rg_be; assumption) | (refine rg_bn (by assumption) ?_ ?_; focus omega) | (refine rg_out (by assumption) ?_ ?_; focus omega))); done))) | ((refine wpList_store_box rfl _ _ _ rfl _ a b x rfl rfl infoL ?_ ?_); (focus (repeat (first | (with_reducible first | assumption | refine o_dr _ ?_ | refine o_d1 ?_ | refine o_set ?_) | (with_reducible refine o_new ?_ ?_; (focus (simp)); (focus (simp))) | (with_reducible refine o_new ?_ ?_; (focus (simp [*]; done)); (focus (simp))) | (with_reducible refine o_new ?_ ?_; (focus (simp [*]; omega)); (focus (simp))) | (with_reducible first | refine o_al _ ?_ | (apply o_be; assumption) | (refine o_bn (by assumption) ?_ ?_; focus omega))))); intro ws hrs hbs hos hss; have zr := row_rg hrs; have z0 := zr 0 _ rfl; have z1 := zr 1 _ rfl; clear zr) | (go_at_call 22; (with_reducible refine (C1.out _ ?_).mono ?_); (focus (have hM := HM.out; repeat (with_reducible first | assumption | refine tm_dr _ ?_ | refine tm_d1 ?_ | refine tm_al _ ?_ | (refine tm_set ?_ ?_; focus (dsimp only; omega)) | (apply tm_be; assumption) | (refine tm_bn (by assumption) ?_ ?_; focus omega) | (refine tm_out (by assumption) ?_ ?_; focus omega)))); rintro e wl ⟨A, rfl, hrl, hAl, hbl⟩; have hTl := hide (tm_be hbl HM.out); have rl : wl.rangeAt A (k * 16) (lineI a b x) := flat_at hrl _ HK.out; have hsl := hbl.size; have HRL := hide hrl; clear hrl) | (go_at_call 15; (with_reducible refine (C2.out _ ?_).mono ?_); (focus (have hTl := hTl.out; repeat (with_reducible first | assumption | refine tm_dr _ ?_ | refine tm_d1 ?_ | refine tm_al _ ?_ | (refine tm_set ?_ ?_; focus (dsimp only; omega)) | (apply tm_be; assumption) | (refine tm_bn (by assumption) ?_ ?_; focus omega) | (refine tm_out (by assumption) ?_ ?_; focus omega)))); rintro e we ⟨rfl, hTe, hUe⟩; have hTe := hide hTe))
  refine bodyPost_end (v := .tuple #[]) (by simp (maxDischargeDepth := 4) [results, Tryd.results20, go_sem, *]) rfl ?_
  refine ⟨rfl, hTe.out, ?_⟩
  repeat (with_reducible first | assumption | exact Out1.refl _ _ | refine u_dr _ ?_ | refine u_d1 ?_ | refine u_al _ ?_ | (refine u_in _ ?_ ?_; focus omega) | (refine u_new _ ?_ ?_; focus (dsimp only; omega)) | (refine Out1.trans ?_ (by assumption)) | (apply u_bh; assumption) | (refine u_be (by assumption) ?_ ?_; focus omega))
theorem evict_any (N : Nat) (M : Nat -> List Ln) (p : Int) (w : World) (hM : TlbM w N M) :
    Calls Tryd.prog 20 #[.pointer (some ⟨N, 0, none⟩), .int .i64 p] w (fun e w' => e = .returned (.tuple #[]) /\ TlbM w' N (evictM M p) /\ Out1 N w w') := by
  have hl8 : (upF M 4).length ≤ 8 := by
    obtain ⟨R, _, hP⟩ := hM
    exact upF_length M 4 (fun r hr => (hP r hr).1)
  obtain ⟨n, hn⟩ : ∃ n, (upF M 4).length = n := ⟨_, rfl⟩
  rw [hn] at hl8
  unfold evictM
  rw [hn]
  by_cases h0 : n = 0
  · subst h0
    have : (upF M 4) = [] := List.eq_nil_of_length_eq_zero hn
    rw [this]
    exact evict_none N M p hn w hM
  · have e1 : 0 ≤ p % (n : Int) := Int.emod_nonneg _ (by omega)
    have e2 : p % (n : Int) < (n : Int) := Int.emod_lt_of_pos _ (by omega)
    obtain ⟨k, hk⟩ : ∃ k : Nat, p % (n : Int) = (k : Int) := ⟨(p % (n : Int)).toNat, by omega⟩
    rw [hk, Int.toNat_natCast]
    have hkn : k < (upF M 4).length := by omega
    rw [List.getElem?_eq_getElem hkn]
    have t1 : (p.tmod (n : Int)).natAbs < n := by
      rw [Int.natAbs_tmod]
      exact Nat.mod_lt _ (by omega)
    have t2 : p.tmod (n : Int) = p - n * p.tdiv n := Int.tmod_def _ _
    obtain ⟨P1, hP1⟩ : ∃ P1, p.tmod (n : Int) = P1 := ⟨_, rfl⟩
    rw [hP1] at t1
    have t3 : -(n : Int) < P1 /\ P1 < (n : Int) := by omega
    have t4 : (P1 + (n : Int)).tmod (n : Int) = (k : Int) := by
      rw [Int.tmod_eq_emod_of_nonneg (by omega), Int.add_emod_right, ← hP1, t2, Int.sub_mul_emod_self_left, hk]
    have t5 : ∀ X : Int, -100 < X -> X < 100 -> IntKind.i64.wrap X = X := fun X h1 h2 => by rw [IntKind.wrap_i64]; omega
    exact evict_let N n k M p P1 (P1 + (n : Int)) _ _ _ hn (by simp; omega) (by rw [List.getElem?_eq_getElem hkn]) (by omega) (by omega) (by omega) hP1 (t5 _ (by omega) (by omega)) (t5 _ (by omega) (by omega)) t4 (t5 _ (by omega) (by omega)) w hM

end Go.Proofs.YtkajndonefkegaaDoor
