/-
  What Drop, Flush and Clear turn.
-/
import Derived.Test.YtkajndonefkegaaDoorMtb4d
import Derived.Test.YtkajndonefkegaaDoorMtb4f
import Derived.Test.YtkajndonefkegaaDoorGMtbC
namespace Go.Proofs.YtkajndonefkegaaDoor
open Go.RowKit

/-- The buffer without those lines. -/
def dropM {α : Type} (M : Nat → List (LnX α)) (a n : Int) : Nat → List (LnX α) := fun q => (M q).filter (fun l => !((l.1 == a) && (l.2.1 == n)))

set_option maxRecDepth 100000 in
set_option maxHeartbeats 2000000 in
theorem drop_any (N : Nat) (M : Nat → List Ln) (a n : Int) (w : World) (hM : TlbM w N M) :
    Calls Tryd.prog 15 #[.pointer (some ⟨N, 0, none⟩), .int .u64 a, .int .u64 n] w (fun e w' => e = .returned (.tuple #[]) ∧ TlbM w' N (dropM M a n) ∧ Out1 N w w') := by
  have SS := cell_same
  have LB' := ltB_add
  have LS := ltB_self
  have LA' := alloc_reads
  have LH := alloc_holds
  have hmf : ∀ (fn : Fn) (first cap : Array Value) (w : World), (Instr.makeFunc fn first cap).run Tryd.prog w = .ok (.func fn first cap) w := fun _ _ _ _ => rfl
  have RD := hide (fun ba bn W hM c0 c1 n0 n1 => rem_any_d (fun l => (l.1 == a) && (l.2.1 == n)) ba bn a n (fun l W h0 h1 => cdrop_let l.1 l.2.1 l.2.2 a n ba bn W h0 h1) N M W hM c0 c1 n0 n1)
  have hN : N < w.heap.size := hM.here
  have HM := hide hM
  clear hM
  go_enter Tryd.func15, Tryd.ntmps15
  go_wp2_with (go_at_call 50; (with_reducible refine (RD.out _ _ _ ?_ ?_ ?_ ?_ ?_).mono ?_); (focus (have hM := HM.out; repeat (first | with_reducible assumption | with_reducible refine tm_dr _ ?_ | with_reducible refine tm_d1 ?_ | with_reducible refine tm_al _ ?_ | (with_reducible refine tm_set ?_ ?_; focus (dsimp only; omega)) | (with_reducible apply tm_be; with_reducible assumption) | (with_reducible refine tm_bn (by with_reducible assumption) ?_ ?_; focus omega) | (with_reducible refine tm_out (by with_reducible assumption) ?_ ?_; focus omega)))); (focus (simp [go_sem])); (focus (simp [go_sem])); (focus (omega)); (focus (omega)); rintro e wd ⟨rfl, hTd, hUd⟩; have hTd := hide hTd)
  refine bodyPost_end (v := .tuple #[]) (by simp (maxDischargeDepth := 4) [results, Tryd.results15, go_sem, *]) rfl ?_
  have hTd := hTd.out
  refine ⟨rfl, ?_, ?_⟩
  · exact hTd
  · repeat (first | with_reducible assumption | with_reducible exact Out1.refl _ _ | with_reducible refine u_dr _ ?_ | with_reducible refine u_d1 ?_ | with_reducible refine u_al _ ?_ | (with_reducible refine u_in _ ?_ ?_; focus omega) | (with_reducible refine u_new _ ?_ ?_; focus (dsimp only; omega)) | (with_reducible refine Out1.trans ?_ (by with_reducible assumption)) | (with_reducible apply u_bh; with_reducible assumption) | (with_reducible refine u_be (by with_reducible assumption) ?_ ?_; focus omega))

/-- The buffer without those lines. -/
def flushM {α : Type} (M : Nat → List (LnX α)) (a : Int) : Nat → List (LnX α) := fun q => (M q).filter (fun l => !(l.1 == a))

set_option maxRecDepth 100000 in
set_option maxHeartbeats 2000000 in
theorem flush_any (N : Nat) (M : Nat → List Ln) (a : Int) (w : World) (hM : TlbM w N M) :
    Calls Tryd.prog 17 #[.pointer (some ⟨N, 0, none⟩), .int .u64 a] w (fun e w' => e = .returned (.tuple #[]) ∧ TlbM w' N (flushM M a) ∧ Out1 N w w') := by
  have SS := cell_same
  have LB' := ltB_add
  have LS := ltB_self
  have LA' := alloc_reads
  have LH := alloc_holds
  have hmf : ∀ (fn : Fn) (first cap : Array Value) (w : World), (Instr.makeFunc fn first cap).run Tryd.prog w = .ok (.func fn first cap) w := fun _ _ _ _ => rfl
  have RD := hide (fun ba W hM c0 n0 => rem_any_f (fun l => l.1 == a) ba a (fun l W h0 => cflush_let l.1 l.2.1 l.2.2 a ba W h0) N M W hM c0 n0)
  have hN : N < w.heap.size := hM.here
  have HM := hide hM
  clear hM
  go_enter Tryd.func17, Tryd.ntmps17
  go_wp2_with (go_at_call 50; (with_reducible refine (RD.out _ _ ?_ ?_ ?_).mono ?_); (focus (have hM := HM.out; repeat (first | with_reducible assumption | with_reducible refine tm_dr _ ?_ | with_reducible refine tm_d1 ?_ | with_reducible refine tm_al _ ?_ | (with_reducible refine tm_set ?_ ?_; focus (dsimp only; omega)) | (with_reducible apply tm_be; with_reducible assumption) | (with_reducible refine tm_bn (by with_reducible assumption) ?_ ?_; focus omega) | (with_reducible refine tm_out (by with_reducible assumption) ?_ ?_; focus omega)))); (focus (simp [go_sem])); (focus (omega)); rintro e wd ⟨rfl, hTd, hUd⟩; have hTd := hide hTd)
  refine bodyPost_end (v := .tuple #[]) (by simp (maxDischargeDepth := 4) [results, Tryd.results17, go_sem, *]) rfl ?_
  have hTd := hTd.out
  refine ⟨rfl, ?_, ?_⟩
  · exact hTd
  · repeat (first | with_reducible assumption | with_reducible exact Out1.refl _ _ | with_reducible refine u_dr _ ?_ | with_reducible refine u_d1 ?_ | with_reducible refine u_al _ ?_ | (with_reducible refine u_in _ ?_ ?_; focus omega) | (with_reducible refine u_new _ ?_ ?_; focus (dsimp only; omega)) | (with_reducible refine Out1.trans ?_ (by with_reducible assumption)) | (with_reducible apply u_bh; with_reducible assumption) | (with_reducible refine u_be (by with_reducible assumption) ?_ ?_; focus omega))

/-- The buffer without those lines. -/
def clearM {α : Type} (M : Nat → List (LnX α)) : Nat → List (LnX α) := fun q => (M q).filter (fun _ => !(true))

set_option maxRecDepth 100000 in
set_option maxHeartbeats 2000000 in
theorem clear_any (N : Nat) (M : Nat → List Ln) (w : World) (hM : TlbM w N M) :
    Calls Tryd.prog 19 #[.pointer (some ⟨N, 0, none⟩)] w (fun e w' => e = .returned (.tuple #[]) ∧ TlbM w' N (clearM M) ∧ Out1 N w w') := by
  have SS := cell_same
  have LB' := ltB_add
  have LS := ltB_self
  have LA' := alloc_reads
  have LH := alloc_holds
  have hmf : ∀ (fn : Fn) (first cap : Array Value) (w : World), (Instr.makeFunc fn first cap).run Tryd.prog w = .ok (.func fn first cap) w := fun _ _ _ _ => rfl
  have RD := hide (fun W hM  => rem_any_c (fun _ => true)  (fun _ => rfl) (fun l W => cclear_let l.1 l.2.1 l.2.2 W) N M W hM )
  have hN : N < w.heap.size := hM.here
  have HM := hide hM
  clear hM
  go_enter Tryd.func19, Tryd.ntmps19
  go_wp2_with (go_at_call 50; (with_reducible refine (RD.out _ ?_).mono ?_); (focus (have hM := HM.out; repeat (first | with_reducible assumption | with_reducible refine tm_dr _ ?_ | with_reducible refine tm_d1 ?_ | with_reducible refine tm_al _ ?_ | (with_reducible refine tm_set ?_ ?_; focus (dsimp only; omega)) | (with_reducible apply tm_be; with_reducible assumption) | (with_reducible refine tm_bn (by with_reducible assumption) ?_ ?_; focus omega) | (with_reducible refine tm_out (by with_reducible assumption) ?_ ?_; focus omega)))); rintro e wd ⟨rfl, hTd, hUd⟩; have hTd := hide hTd)
  refine bodyPost_end (v := .tuple #[]) (by simp (maxDischargeDepth := 4) [results, Tryd.results19, go_sem, *]) rfl ?_
  have hTd := hTd.out
  refine ⟨rfl, ?_, ?_⟩
  · exact hTd
  · repeat (first | with_reducible assumption | with_reducible exact Out1.refl _ _ | with_reducible refine u_dr _ ?_ | with_reducible refine u_d1 ?_ | with_reducible refine u_al _ ?_ | (with_reducible refine u_in _ ?_ ?_; focus omega) | (with_reducible refine u_new _ ?_ ?_; focus (dsimp only; omega)) | (with_reducible refine Out1.trans ?_ (by with_reducible assumption)) | (with_reducible apply u_bh; with_reducible assumption) | (with_reducible refine u_be (by with_reducible assumption) ?_ ?_; focus omega))
end Go.Proofs.YtkajndonefkegaaDoor
