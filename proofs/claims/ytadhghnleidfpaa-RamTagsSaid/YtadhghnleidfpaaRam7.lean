/-
  What StoreCap turns, and LoadCap answers.
-/
import Derived.Test.YtadhghnleidfpaaRam6
namespace Go.Proofs.Ytadhghnleidfpaa
open Go.RowKit Words

set_option maxHeartbeats 1000000 in
theorem storecap_let (R N o : Nat) (q : Bool) (A O X Y : Int) (B B' : Nat → BitVec 8) (s s' : BitVec 256) (c2 : ∀ W, W.cell? ⟨R, 0, none⟩ = some (.slice (some ⟨N, 0, none⟩) 2 2) → Calls Try.prog 11 #[.pointer (some ⟨R, 0, none⟩), .int .u64 A, .int .i64 16, .bool true] W (Quiet (.tuple #[.pointer (some ⟨N, o, none⟩), .int .i64 O, .int .i64 0]) W))
    (c3 : ∀ W, PageAt W N o B s → Calls Try.prog 12 #[.pointer (some ⟨N, o, none⟩), .int .i64 O, .agg #[.bool q, .int .u64 X, .int .u64 Y]] W fun e w' => e = .returned (.tuple #[]) ∧ PageAt w' N o B' s' ∧ Out N o W w') (w : World) (hc : w.cell? ⟨R, 0, none⟩ = some (.slice (some ⟨N, 0, none⟩) 2 2)) (hp : PageAt w N o B s) :
    Calls Try.prog 6 #[.pointer (some ⟨R, 0, none⟩), .int .u64 A, .agg #[.bool q, .int .u64 X, .int .u64 Y]] w fun e w' => e = .returned (.int .i64 0) ∧ PageAt w' N o B' s' ∧ Out N o w w' := by
  have C2 := hide c2
  have C3 := hide c3
  clear c2 c3
  go_enter Try.func6, Try.ntmps6
  go_wp2_with (first | (go_at_call 11; (with_reducible refine (C2.out _ ?_).mono ?_); (focus (repeat (first | with_reducible assumption | with_reducible refine c_dr _ ?_ | with_reducible refine c_d1 ?_ | with_reducible refine c_al _ ?_ | (with_reducible refine c_set ?_ ?_; focus (dsimp only; omega)) | (with_reducible apply c_be; with_reducible assumption)))); rintro e w' ⟨rfl, n2, rfl⟩) | (go_at_call 12; (with_reducible refine (C3.out _ ?_).mono ?_); (focus (repeat (first | with_reducible assumption | with_reducible refine pg_dr _ ?_ | with_reducible refine pg_d1 ?_ | with_reducible refine pg_al _ ?_ | (with_reducible refine pg_set ?_ ?_; focus (dsimp only; omega)) | (with_reducible apply pg_be; with_reducible assumption)))); rintro e w3 ⟨rfl, hq, ho⟩))
  refine bodyPost_ret (v := .int .i64 0) (by simp (maxDischargeDepth := 4) [results, Try.results6, go_sem, *]) rfl ?_
  refine ⟨rfl, hq, ?_⟩
  refine Out.trans ?_ ho
  repeat (first | with_reducible assumption | with_reducible exact Out.refl _ _ _ | with_reducible refine out_dr _ ?_ | with_reducible refine out_d1 ?_ | with_reducible refine out_al _ ?_ | (with_reducible refine out_new _ ?_ ?_; focus (dsimp only; omega)) | (with_reducible refine out_in _ ?_ ?_ ?_; (focus omega); (focus omega)) | (with_reducible apply out_be; with_reducible assumption))
theorem storecap_any {A p off : Nat} (h : At A p off 16) (q : Bool) (m a : BitVec 64) (R N : Nat) (B : Nat → Nat → BitVec 8) (S : Nat → BitVec 256) (w : World) (hm : Mem w R N B S) : Calls Try.prog 6 #[.pointer (some ⟨R, 0, none⟩), .int .u64 (A : Int), .agg #[.bool q, .int .u64 (m.toNat : Int), .int .u64 (a.toNat : Int)]] w fun e w' => e = .returned (.int .i64 0) ∧ Mem w' R N (updP B p (putC (B p) off (capF m a))) (updP S p (withS (S p) ((off / 16 : Nat) : Int) q)) ∧ Out N (p * 4100) w w' :=
  (storecap_let R N (p * 4100) q _ _ _ _ (B p) (putC (B p) off (capF m a)) (S p) (withS (S p) ((off / 16 : Nat) : Int) q) (fun W hc => found h R N W hc) (fun W hp => putcap_any N (p * 4100) off ((off / 16 : Nat) : Int) q m a (B p) (S p) h.fits (by omega) (by rw [Int.tdiv_eq_ediv_of_nonneg (by omega)]; omega) W hp) w hm.ram (hm.page p h.h2)).mono fun _ _ ⟨he, hq, ho⟩ => ⟨he, mem_out hm h.h2 hq ho, ho⟩

set_option maxHeartbeats 1000000 in
theorem loadcap_let (R N o : Nat) (q : Bool) (A O X Y : Int) (B : Nat → BitVec 8) (s : BitVec 256) (c2 : ∀ W, W.cell? ⟨R, 0, none⟩ = some (.slice (some ⟨N, 0, none⟩) 2 2) → Calls Try.prog 11 #[.pointer (some ⟨R, 0, none⟩), .int .u64 A, .int .i64 16, .bool true] W (Quiet (.tuple #[.pointer (some ⟨N, o, none⟩), .int .i64 O, .int .i64 0]) W))
    (c3 : ∀ W, PageAt W N o B s → Calls Try.prog 15 #[.pointer (some ⟨N, o, none⟩), .int .i64 O] W (Makes (.agg #[.bool q, .int .u64 X, .int .u64 Y]) W)) (w : World) (hc : w.cell? ⟨R, 0, none⟩ = some (.slice (some ⟨N, 0, none⟩) 2 2)) (hp : PageAt w N o B s) :
    Calls Try.prog 8 #[.pointer (some ⟨R, 0, none⟩), .int .u64 A] w (Makes (.tuple #[.agg #[.bool q, .int .u64 X, .int .u64 Y], .int .i64 0]) w) := by
  have C2 := hide c2
  have C3 := hide c3
  clear c2 c3
  have SS := cell_same
  have LB' := ltB_add
  have LS := ltB_self
  have LA' := alloc_reads
  have LH := alloc_holds
  go_enter Try.func8, Try.ntmps8
  go_wp2_with (first | (go_at_call 11; (with_reducible refine (C2.out _ ?_).mono ?_); (focus (repeat (first | with_reducible assumption | with_reducible refine c_dr _ ?_ | with_reducible refine c_d1 ?_ | with_reducible refine c_al _ ?_ | (with_reducible refine c_set ?_ ?_; focus (dsimp only; omega)) | (with_reducible apply c_be; with_reducible assumption)))); rintro e w' ⟨rfl, n2, rfl⟩) | (go_at_call 15; (with_reducible refine (C3.out _ ?_).mono ?_); (focus (repeat (first | with_reducible assumption | with_reducible refine pg_dr _ ?_ | with_reducible refine pg_d1 ?_ | with_reducible refine pg_al _ ?_ | (with_reducible refine pg_set ?_ ?_; focus (dsimp only; omega)) | (with_reducible apply pg_be; with_reducible assumption)))); rintro e w3 ⟨rfl, hb3⟩; have hr3 := below_reads hb3; have hh3 := below_holds hb3; obtain ⟨m3, hs3⟩ := below_grew hb3))
  refine bodyPost_ret (v := .tuple #[.agg #[.bool q, .int .u64 X, .int .u64 Y], .int .i64 0]) (by simp (maxDischargeDepth := 4) [results, Try.results8, go_sem, *]) rfl ?_
  refine ⟨rfl, ?_⟩
  repeat (first | with_reducible assumption | with_reducible exact Below.refl _ _ | with_reducible refine Below.drew ?_ | with_reducible refine below_drewN ?_ _ | with_reducible refine bw_alloc ?_ _ | (with_reducible refine bw_set ?_ ?_ _; focus (dsimp only; omega)) | (with_reducible apply bw_behind; with_reducible assumption))
theorem loadcap_any {A p off : Nat} (h : At A p off 16) (R N : Nat) (B : Nat → Nat → BitVec 8) (S : Nat → BitVec 256) (w : World) (hm : Mem w R N B S) : Calls Try.prog 8 #[.pointer (some ⟨R, 0, none⟩), .int .u64 (A : Int)] w (Makes (.tuple #[.agg #[.bool (getS (S p) ((off / 16 : Nat) : Int)), .int .u64 ((metF (fun i => B p (off + i))).toNat : Int), .int .u64 ((adrF (fun i => B p (off + i))).toNat : Int)], .int .i64 0]) w) :=
  loadcap_let R N (p * 4100) _ _ _ _ _ (B p) (S p) (fun W hc => found h R N W hc) (fun W hp => cap_any N (p * 4100) off ((off / 16 : Nat) : Int) (B p) (S p) h.fits (by omega) (by rw [Int.tdiv_eq_ediv_of_nonneg (by omega)]; omega) W hp) w hm.ram (hm.page p h.h2)
end Go.Proofs.Ytadhghnleidfpaa
