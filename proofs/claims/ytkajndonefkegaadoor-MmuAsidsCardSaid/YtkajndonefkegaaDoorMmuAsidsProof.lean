/-
  MmuAsids holds: for every a, b and page the law returns true and turns nothing that was there, where the table of places holds what the program's text lays.
-/
import Derived.Test.YtkajndonefkegaaDoorGOne
import Derived.Test.YtkajndonefkegaaDoorMmuAsidsWalks
import Derived.Test.YtkajndonefkegaaDoorPteLaid
namespace Go.Proofs.YtkajndonefkegaaDoor.MmuAsids
open Go.RowKit Words FieldMath PteMath

theorem step_of (x y : BitVec 64) (V : Int) (hw : ∀ n : Fin 8, walkM (putM (laidM (setupL 2)) 2 n.val x) 8 0 (n.val * 4096) = some (x, 8192 + 8 * n.val)) (hQ : ckW x 1 false false = 0) (hS : accS 1 (x.getLsbD 59) 0 = false) (hV : ∀ n : Fin 8, accA ((getB x 10 44).toNat : Int) ((n.val * 4096 : Nat) : Int) 0 = V) (hy : (if sameW x 1 false = true then x else mkW x 1 false) = y) (M : Nat → List Ln) (A : Int) (n : Nat) (hn : n < 8) :
    findR (putM (laidM (setupL 2)) 2 n x) M 8 0 A (n * 4096) 1 false false = ((V, false, 0), putM (laidM (setupL 2)) 2 n y, lputM M (n % 4) (A, (n : Int), fdW x 1 false ((8192 + 8 * n : Nat) : Int))) := by
  rw [find_at (hw ⟨n, hn⟩) hQ, hS, hV ⟨n, hn⟩]
  dsimp only
  rw [show n * 4096 / 4096 = n by omega]
  have hp : putW (putM (laidM (setupL 2)) 2 n x) (8192 + 8 * n) x 1 false = putM (laidM (setupL 2)) 2 n y := by
    unfold putW
    rw [← hy]
    by_cases h : sameW x 1 false = true
    · rw [if_pos h, if_pos h]
    · rw [if_neg h, if_neg h, show (8192 + 8 * n) / 4096 = 2 by omega, show (8192 + 8 * n) % 4096 / 8 = n by omega, putM_twice]
  rw [hp]
def w5 : BitVec 64 := wk (bs true true false false true false false false false false false false) 5#64 12
def w6 : BitVec 64 := wk (bs true true false false true false false false false false false false) 6#64 12
theorem at5 : ∀ n : Fin 8, walkM (putM (laidM (setupL 2)) 2 n.val w5) 8 0 (n.val * 4096) = some (w5, 8192 + 8 * n.val) := by decide +kernel
theorem at6 : ∀ n : Fin 8, walkM (putM (laidM (setupL 2)) 2 n.val w6) 8 0 (n.val * 4096) = some (w6, 8192 + 8 * n.val) := by decide +kernel
theorem at7 : ∀ n : Fin 8, walkM (putM (laidM (setupL 2)) 2 n.val (mkW w6 1 false)) 8 0 (n.val * 4096) = some (mkW w6 1 false, 8192 + 8 * n.val) := by decide +kernel
theorem v5 : ∀ n : Fin 8, accA ((getB w5 10 44).toNat : Int) ((n.val * 4096 : Nat) : Int) 0 = 20480 := by decide +kernel
theorem v6 : ∀ n : Fin 8, accA ((getB w6 10 44).toNat : Int) ((n.val * 4096 : Nat) : Int) 0 = 24576 := by decide +kernel
theorem v7 : ∀ n : Fin 8, accA ((getB (mkW w6 1 false) 10 44).toNat : Int) ((n.val * 4096 : Nat) : Int) 0 = 24576 := by decide +kernel
theorem step5 (M : Nat → List Ln) (A : Int) (n : Nat) (hn : n < 8) : findR (putM (laidM (setupL 2)) 2 n w5) M 8 0 A (n * 4096) 1 false false = ((20480, false, 0), putM (laidM (setupL 2)) 2 n (mkW w5 1 false), lputM M (n % 4) (A, (n : Int), fdW w5 1 false ((8192 + 8 * n : Nat) : Int))) := step_of w5 (mkW w5 1 false) 20480 at5 (by decide +kernel) (by decide +kernel) v5 (by decide +kernel) M A n hn
theorem step6 (M : Nat → List Ln) (A : Int) (n : Nat) (hn : n < 8) : findR (putM (laidM (setupL 2)) 2 n w6) M 8 0 A (n * 4096) 1 false false = ((24576, false, 0), putM (laidM (setupL 2)) 2 n (mkW w6 1 false), lputM M (n % 4) (A, (n : Int), fdW w6 1 false ((8192 + 8 * n : Nat) : Int))) := step_of w6 (mkW w6 1 false) 24576 at6 (by decide +kernel) (by decide +kernel) v6 (by decide +kernel) M A n hn
theorem step7 (M : Nat → List Ln) (A : Int) (n : Nat) (hn : n < 8) : findR (putM (laidM (setupL 2)) 2 n (mkW w6 1 false)) M 8 0 A (n * 4096) 1 false false = ((24576, false, 0), putM (laidM (setupL 2)) 2 n (mkW w6 1 false), lputM M (n % 4) (A, (n : Int), fdW (mkW w6 1 false) 1 false ((8192 + 8 * n : Nat) : Int))) := step_of (mkW w6 1 false) (mkW w6 1 false) 24576 at7 (by decide +kernel) (by decide +kernel) v7 (by decide +kernel) M A n hn
theorem q5 (a : Int) : lineQ (fdW w5 1 false a) 1 false false = 0 := by
  unfold lineQ fdW
  dsimp only
  decide +kernel
theorem s5 (a : Int) : sameX (fdW w5 1 false a) 1 false = true := by
  unfold sameX fdW
  dsimp only
  decide +kernel
theorem t5 (a : Int) : accS 1 (fdW w5 1 false a).e9 0 = false := by
  unfold fdW
  dsimp only
  decide +kernel
theorem q6 (a : Int) : lineQ (fdW w6 1 false a) 1 false false = 0 := by
  unfold lineQ fdW
  dsimp only
  decide +kernel
theorem s6 (a : Int) : sameX (fdW w6 1 false a) 1 false = true := by
  unfold sameX fdW
  dsimp only
  decide +kernel
theorem t6 (a : Int) : accS 1 (fdW w6 1 false a).e9 0 = false := by
  unfold fdW
  dsimp only
  decide +kernel

theorem find_one {A B n : Int} {X : Fd} : List.find? (pageQ B n) [((A, n, X) : Ln)] = if A = B then some (A, n, X) else none := by
  by_cases h : A = B
  · subst h; rw [if_pos rfl]; simp [pageQ]
  · rw [if_neg h]; simp [pageQ, h]
theorem lput_one (M : Nat → List Ln) (q : Nat) (A B n : Int) (X Y : Fd) (h : M q = [(A, n, X)]) (hne : A ≠ B) : lputM M q (B, n, Y) q = [(A, n, X), (B, n, Y)] := by
  rw [lput_at, h]
  have h2 : (A == B) = false := by simpa using hne
  simp [lputL, List.filter, h2]
theorem lput_none (M : Nat → List Ln) (q : Nat) (B n : Int) (Y : Fd) (h : M q = []) : lputM M q (B, n, Y) q = [(B, n, Y)] := by
  rw [lput_at, h]
  rfl
theorem setup_mem (W : World) (hT : Tab W) : Calls Tryd.prog 6 #[] W (fun e W' => ∃ R K sa na ca sb nb cb, e = .returned (.tuple #[.pointer (some ⟨R, 0, none⟩), .agg #[.int .i64 8, .slice sa na ca, .slice sb nb cb, .slice none 0 0]]) ∧ MemW W' R K 8 (laidM (setupL 2)) ∧ Below W.heap.size W W' ∧ W.heap.size ≤ R ∧ W.heap.size ≤ K) := by
  refine (setup_any W hT).mono ?_
  rintro e W' ⟨R, K, sa, na, ca, sb, nb, cb, rfl, h1, _, _, h2, h3, h4, _, _⟩
  exact ⟨R, K, sa, na, ca, sb, nb, cb, rfl, h1, h2, h3, h4⟩
set_option maxRecDepth 100000 in
set_option maxHeartbeats 4000000 in
theorem walk (a b : BitVec 64) (p : Int) (w : World) (hT : Tab w) : Calls Tryd.prog 5 #[.int .u64 (a.toNat : Int), .int .u64 (b.toNat : Int), .int .i64 p] w (Makes (.bool true) w) := by
  obtain ⟨n, hn⟩ : ∃ n : Nat, p % 8 = (n : Int) := ⟨(p % 8).toNat, by omega⟩
  have hn8 : n < 8 := by omega
  have g1 : bits .and .i64 p 7 = (n : Int) := by
    have := iand_low p 7 3 rfl (by omega)
    rw [← hn]
    exact this
  have hv : (BitVec.ofNat 64 (n * 4096)).toNat = n * 4096 := by rw [BitVec.toNat_ofNat]; omega
  have hlt : n * 4096 < 274877906944 := by omega
  have hd : n * 4096 / 4096 = n := by omega
  have TR := fun (M : Nat → List Ln) (hW : WfL M) (Mm : Nat → Nat → BitVec 64) (A : Int) N R K W h1 h2 h3 => (by have := trans_any N R K 8 (by omega) (by omega) M hW Mm 0#64 (BitVec.ofNat 64 (n * 4096)) A 1 false false W h1 h2 h3; rw [show (0#64).toNat = 0 from rfl, hv] at this; exact this : Calls Tryd.prog 7 #[.pointer (some ⟨N, 0, none⟩), .pointer (some ⟨R, 0, none⟩), .int .u64 ((n * 4096 : Nat) : Int), .int .i64 1, .bool false] W (Leaves N R K 8 ((0 : Nat) : Int) A false (transR Mm M 8 0 A (n * 4096) 1 false false) W))
  have ST := fun (x : BitVec 64) (Mm : Nat → Nat → BitVec 64) R K W h => store_w (p := 2) (k := n) (by omega) (by omega) (by omega : 8 ≤ 64) x R K Mm W h
  have c5 : ∀ W, Tab W → Calls Tryd.prog 12 #[.agg #[.bool true, .bool true, .bool false, .bool false, .bool true, .bool false, .bool false, .bool false, .bool false, .bool false, .bool false, .bool false, .int .u64 5]] W (Makes (.int .u64 (w5.toNat : Int)) W) := fun W h => word_any true true false false true false false false false false false false 5#64 W h
  have c6 : ∀ W, Tab W → Calls Tryd.prog 12 #[.agg #[.bool true, .bool true, .bool false, .bool false, .bool true, .bool false, .bool false, .bool false, .bool false, .bool false, .bool false, .bool false, .int .u64 6]] W (Makes (.int .u64 (w6.toNat : Int)) W) := fun W h => word_any true true false false true false false false false false false false 6#64 W h

  have cf := fun (L : Nat → List Ln) (N : Nat) (W : World) h => flush_any N L (b.toNat : Int) W h
  have q1 : lputM (fun _ => ([] : List Ln)) (n % 4) ((a.toNat : Int), (n : Int), fdW w5 1 false ((8192 + 8 * n : Nat) : Int)) (n % 4) = [((a.toNat : Int), (n : Int), fdW w5 1 false ((8192 + 8 * n : Nat) : Int))] := lput_none _ _ _ _ _ rfl
  have T1 : transR (putM (laidM (setupL 2)) 2 n w5) (fun _ => []) 8 0 (a.toNat : Int) (n * 4096) 1 false false = _ := (trans_miss hlt rfl).trans (step5 (fun _ => []) (a.toNat : Int) n hn8)
  have W1 := wfl_trans (Mm := putM (laidM (setupL 2)) 2 n w5) (C := 8) (P := 0) (v := n * 4096) (A := (a.toNat : Int)) (k := 1) (t := false) (G := false) wfl_nil
  rw [T1] at W1
  generalize hL1 : lputM (fun _ => ([] : List Ln)) (n % 4) ((a.toNat : Int), (n : Int), fdW w5 1 false ((8192 + 8 * n : Nat) : Int)) = L1 at *
  have S2 : ∀ x, putM (putM (laidM (setupL 2)) 2 n x) 2 n w6 = putM (laidM (setupL 2)) 2 n w6 := fun x => putM_twice _ _ _ _ _
  by_cases e : (a.toNat : Int) = (b.toNat : Int)
  · have T2 : transR (putM (laidM (setupL 2)) 2 n w6) L1 8 0 (b.toNat : Int) (n * 4096) 1 false false = ((20480, false, 0), putM (laidM (setupL 2)) 2 n w6, L1) := by
      rw [trans_hit hlt (by rw [hd, q1, find_one, if_pos e]) (q5 _) (s5 _), t5]
      rw [show accA (fdW w5 1 false ((8192 + 8 * n : Nat) : Int)).f ((n * 4096 : Nat) : Int) 0 = 20480 from v5 ⟨n, hn8⟩]
    have W3 := wfl_flush (b.toNat : Int) W1
    have q3 : flushM L1 (b.toNat : Int) (n % 4) = [] := by
      show List.filter _ (L1 (n % 4)) = []
      rw [q1]
      simp [e]
    have T3 : transR (putM (laidM (setupL 2)) 2 n w6) (flushM L1 (b.toNat : Int)) 8 0 (b.toNat : Int) (n * 4096) 1 false false = _ := (trans_miss hlt (by rw [hd, q3]; rfl)).trans (step6 _ (b.toNat : Int) n hn8)
    have W4 := wfl_trans (Mm := putM (laidM (setupL 2)) 2 n w6) (C := 8) (P := 0) (v := n * 4096) (A := (b.toNat : Int)) (k := 1) (t := false) (G := false) W3
    rw [T3] at W4
    have q4 : lputM (flushM L1 (b.toNat : Int)) (n % 4) ((b.toNat : Int), (n : Int), fdW w6 1 false ((8192 + 8 * n : Nat) : Int)) (n % 4) = [((b.toNat : Int), (n : Int), fdW w6 1 false ((8192 + 8 * n : Nat) : Int))] := lput_none _ _ _ _ _ q3
    generalize hL4 : lputM (flushM L1 (b.toNat : Int)) (n % 4) ((b.toNat : Int), (n : Int), fdW w6 1 false ((8192 + 8 * n : Nat) : Int)) = L4 at *
    have T4 : transR (putM (laidM (setupL 2)) 2 n (mkW w6 1 false)) L4 8 0 (a.toNat : Int) (n * 4096) 1 false false = ((24576, false, 0), putM (laidM (setupL 2)) 2 n (mkW w6 1 false), L4) := by
      rw [trans_hit hlt (by rw [hd, q4, find_one, if_pos e.symm]) (q6 _) (s6 _), t6]
      rw [show accA (fdW w6 1 false ((8192 + 8 * n : Nat) : Int)).f ((n * 4096 : Nat) : Int) 0 = 24576 from v6 ⟨n, hn8⟩]
    have r1 := TR (fun _ => []) wfl_nil (putM (laidM (setupL 2)) 2 n w5) (a.toNat : Int)
    rw [T1] at r1
    have r2 := TR L1 W1 (putM (laidM (setupL 2)) 2 n w6) (b.toNat : Int)
    rw [T2] at r2
    have r3 := TR _ W3 (putM (laidM (setupL 2)) 2 n w6) (b.toNat : Int)
    rw [T3] at r3
    have r4 := TR L4 W4 (putM (laidM (setupL 2)) 2 n (mkW w6 1 false)) (a.toNat : Int)
    rw [T4] at r4
    have sb := ST w6 (putM (laidM (setupL 2)) 2 n (mkW w5 1 false))
    rw [S2] at sb
    exact walk_eq (2 * 4100) (a.toNat : Int) (b.toNat : Int) (n : Int) p ((n * 4096 : Nat) : Int) ((8 * n : Nat) : Int) ((2 * 4096 + 8 * n : Nat) : Int) (w5.toNat : Int) (w6.toNat : Int) 20480 24576 (laidM (setupL 2)) (putM (laidM (setupL 2)) 2 n w5) (putM (laidM (setupL 2)) 2 n (mkW w5 1 false)) (putM (laidM (setupL 2)) 2 n w6) (putM (laidM (setupL 2)) 2 n w6) (putM (laidM (setupL 2)) 2 n (mkW w6 1 false)) (putM (laidM (setupL 2)) 2 n (mkW w6 1 false)) L1 L1 (flushM L1 (b.toNat : Int)) L4 L4 setup_mem c5 c6 (ST w5 _) sb r1 r2 (cf _) r3 r4 (fun W h => one_any W h) g1 (by rw [IntKind.wrap_u64]; omega) (by rw [IntKind.wrap_u64]; omega) (by rw [IntKind.wrap_u64]; omega) (by rw [IntKind.wrap_u64]; omega) (by simpa using e) rfl rfl w hT
  · have T2 : transR (putM (laidM (setupL 2)) 2 n w6) L1 8 0 (b.toNat : Int) (n * 4096) 1 false false = _ := (trans_miss hlt (by rw [hd, q1, find_one, if_neg e])).trans (step6 L1 (b.toNat : Int) n hn8)
    have W2 := wfl_trans (Mm := putM (laidM (setupL 2)) 2 n w6) (C := 8) (P := 0) (v := n * 4096) (A := (b.toNat : Int)) (k := 1) (t := false) (G := false) W1
    rw [T2] at W2
    have q2 := lput_one L1 (n % 4) (a.toNat : Int) (b.toNat : Int) (n : Int) _ (fdW w6 1 false ((8192 + 8 * n : Nat) : Int)) q1 e
    generalize hL2 : lputM L1 (n % 4) ((b.toNat : Int), (n : Int), fdW w6 1 false ((8192 + 8 * n : Nat) : Int)) = L2 at *
    have W3 := wfl_flush (b.toNat : Int) W2
    have q3 : flushM L2 (b.toNat : Int) (n % 4) = [((a.toNat : Int), (n : Int), fdW w5 1 false ((8192 + 8 * n : Nat) : Int))] := by
      show List.filter _ (L2 (n % 4)) = _
      rw [q2]
      have : ((a.toNat : Int) == (b.toNat : Int)) = false := by simpa using e
      simp only [List.filter, this, beq_self_eq_true]
      rfl
    have T3 : transR (putM (laidM (setupL 2)) 2 n (mkW w6 1 false)) (flushM L2 (b.toNat : Int)) 8 0 (b.toNat : Int) (n * 4096) 1 false false = _ := (trans_miss hlt (by rw [hd, q3, find_one, if_neg e])).trans (step7 _ (b.toNat : Int) n hn8)
    have W4 := wfl_trans (Mm := putM (laidM (setupL 2)) 2 n (mkW w6 1 false)) (C := 8) (P := 0) (v := n * 4096) (A := (b.toNat : Int)) (k := 1) (t := false) (G := false) W3
    rw [T3] at W4
    have q4 := lput_one (flushM L2 (b.toNat : Int)) (n % 4) (a.toNat : Int) (b.toNat : Int) (n : Int) _ (fdW (mkW w6 1 false) 1 false ((8192 + 8 * n : Nat) : Int)) q3 e
    generalize hL4 : lputM (flushM L2 (b.toNat : Int)) (n % 4) ((b.toNat : Int), (n : Int), fdW (mkW w6 1 false) 1 false ((8192 + 8 * n : Nat) : Int)) = L4 at *
    have T4 : transR (putM (laidM (setupL 2)) 2 n (mkW w6 1 false)) L4 8 0 (a.toNat : Int) (n * 4096) 1 false false = ((20480, false, 0), putM (laidM (setupL 2)) 2 n (mkW w6 1 false), L4) := by
      rw [trans_hit (l := ((a.toNat : Int), (n : Int), fdW w5 1 false ((8192 + 8 * n : Nat) : Int))) hlt (by rw [hd, q4]; simp [List.find?, pageQ]) (q5 _) (s5 _), t5]
      rw [show accA (fdW w5 1 false ((8192 + 8 * n : Nat) : Int)).f ((n * 4096 : Nat) : Int) 0 = 20480 from v5 ⟨n, hn8⟩]
    have r1 := TR (fun _ => []) wfl_nil (putM (laidM (setupL 2)) 2 n w5) (a.toNat : Int)
    rw [T1] at r1
    have r2 := TR L1 W1 (putM (laidM (setupL 2)) 2 n w6) (b.toNat : Int)
    rw [T2] at r2
    have r3 := TR _ W3 (putM (laidM (setupL 2)) 2 n (mkW w6 1 false)) (b.toNat : Int)
    rw [T3] at r3
    have r4 := TR L4 W4 (putM (laidM (setupL 2)) 2 n (mkW w6 1 false)) (a.toNat : Int)
    rw [T4] at r4
    have sb := ST w6 (putM (laidM (setupL 2)) 2 n (mkW w5 1 false))
    rw [S2] at sb
    exact walk_ne (2 * 4100) (a.toNat : Int) (b.toNat : Int) (n : Int) p ((n * 4096 : Nat) : Int) ((8 * n : Nat) : Int) ((2 * 4096 + 8 * n : Nat) : Int) (w5.toNat : Int) (w6.toNat : Int) 24576 20480 (laidM (setupL 2)) (putM (laidM (setupL 2)) 2 n w5) (putM (laidM (setupL 2)) 2 n (mkW w5 1 false)) (putM (laidM (setupL 2)) 2 n w6) (putM (laidM (setupL 2)) 2 n (mkW w6 1 false)) (putM (laidM (setupL 2)) 2 n (mkW w6 1 false)) (putM (laidM (setupL 2)) 2 n (mkW w6 1 false)) L1 L2 (flushM L2 (b.toNat : Int)) L4 L4 setup_mem c5 c6 (ST w5 _) sb r1 r2 (cf _) r3 r4 (fun W h => one_any W h) g1 (by rw [IntKind.wrap_u64]; omega) (by rw [IntKind.wrap_u64]; omega) (by rw [IntKind.wrap_u64]; omega) (by rw [IntKind.wrap_u64]; omega) (by simpa using e) rfl rfl w hT

open Go.ChangeShapes Go.WideShapes Go.ChangeAt
set_option maxRecDepth 100000 in
theorem walks : Frame.WalksLaid [("mintmark/pte.places", Rows.laid_mintmark_pte_places)] 5 Tryd.f5 := by
  intro H enc W base args ds ps hL hval hA
  rw [Tryd.params5] at hA hval
  obtain ⟨v0, v1, v2, d0, d1, d2, p0, p1, p2, hargs, rfl, rfl, h0, h1, h2⟩ := trodAll_three hA
  obtain rfl : args = #[v0, v1, v2] := by cases args; simp_all
  obtain ⟨x0, rfl, rfl, rfl, w0⟩ := open_int Tryd.underlying30 (hval 0 30 v0 rfl rfl) h0
  obtain ⟨x1, rfl, rfl, rfl, w1⟩ := open_int Tryd.underlying30 (hval 1 30 v1 rfl rfl) h1
  obtain ⟨x2, rfl, rfl, rfl, w2⟩ := open_int Tryd.underlying3 (hval 2 3 v2 rfl rfl) h2
  obtain ⟨X0, rfl⟩ := Frame.wf_u64 w0
  obtain ⟨X1, rfl⟩ := Frame.wf_u64 w1
  exact walk X0 X1 x2 W (tab_of_laid hL)
set_option maxRecDepth 100000 in
theorem said : Rows.MmuAsidsSaid :=
  OpenClaim.holds_of_wide 5 Tryd.f5 rfl rfl rfl rfl rfl rfl rfl ⟨rfl, rfl, rfl, rfl, rfl⟩ rfl rfl rfl rfl rfl (by kernel_rfl) Tryd.func5 (by kernel_rfl)
    (of_decide_eq_true (by kernel_rfl)) (by unfold Func.isWrapper; first | (rw [if_pos (by decide +kernel)]; kernel_rfl) | (rw [if_neg (by decide +kernel)]; exact ⟨rfl, rfl⟩))
    (fun os started H enc _ => Frame.liftLaid [("mintmark/pte.places", Rows.laid_mintmark_pte_places)] os started H enc _ _ Rows.mmuAsidsSpec 4 (by kernel_rfl) Tryd.func5 Tryd.underlying4 (by kernel_rfl) rfl (by kernel_rfl)
      (fun ds h => by match ds, h with | [_, _, _], _ => exact ⟨rfl, rfl, rfl⟩)
      (ChangeSpec.witness_shaped (enc := enc) (C := Tryd.checked) (os := os) (X := fun w _ => laidMetH Tryd.prog [("mintmark/pte.places", Rows.laid_mintmark_pte_places)] w) false (World.doorLaid Tryd.prog 400 os) #[.int .u64 0, .int .u64 0, .int .i64 0] 8 rfl (World.shaped_of_RefB (by kernel_rfl) (by kernel_rfl)) (by kernel_rfl) (by kernel_rfl) (by kernel_rfl) (door_met os _)) walks)
set_option maxRecDepth 100000 in
theorem proved : Rows.MmuAsidsCardSaid :=
  Claim7.holds_tied_plain_at .later [] [.data] true _ false said (fun _ h => by cases h) (by kernel_rfl) (fun _ h => by cases h) mmuAsids_row_tie rfl ⟨rfl, rfl⟩ (by kernel_rfl) rfl
    (fun f fn hf hfn => by
      obtain rfl : f = 5 := Option.some.inj ((show Tryd.prog.funcNamed "mintmark/mintmarklaw12.MmuAsids" = some 5 by kernel_rfl).symm.trans hf) |>.symm
      obtain rfl : fn = Tryd.f5 := (Option.some.inj (Tryd.func5.symm.trans hfn)).symm
      exact ⟨by kernel_rfl, fun j t ht => by
        rw [Tryd.params5] at ht
        have hm : t ∈ [30, 3] := by have := Array.mem_of_getElem? ht; simp at this; simp; first | omega | grind
        have hall : ([30, 3].all fun u => !Tryd.prog.wantsStandIn u) = true := by kernel_rfl
        exact (show Tryd.prog.wantsStandIn t = false by simpa using List.all_eq_true.1 hall t hm)⟩)
    (by kernel_rfl)
end Go.Proofs.YtkajndonefkegaaDoor.MmuAsids
