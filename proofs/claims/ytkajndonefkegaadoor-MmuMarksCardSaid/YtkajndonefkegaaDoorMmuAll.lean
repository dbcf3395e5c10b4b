/-
  What find, Translate and Plain answer, turn and keep, as functions of the memory's words and the buffer's lists.
-/
import Derived.Test.YtkajndonefkegaaDoorMmuTrans2
import Derived.Test.YtkajndonefkegaaDoorMtb9
namespace Go.Proofs.YtkajndonefkegaaDoor
open Go.RowKit Words FieldMath PteMath

/-- What is kept of an entry's word after such an access. -/
def fdW (x : BitVec 64) (k : Int) (t : Bool) (a : Int) : Fd := ⟨(x.getLsbD 0), (x.getLsbD 1), (x.getLsbD 2), (x.getLsbD 3), (x.getLsbD 4), (x.getLsbD 5), true, markD (x.getLsbD 7) k, (x.getLsbD 58), (x.getLsbD 59), markC (x.getLsbD 60) k t, (x.getLsbD 61), ((getB x 10 44).toNat : Int), a⟩
def ckW (x : BitVec 64) (k : Int) (t G : Bool) : Int := checkQ ((x.getLsbD 0) && ((x.getLsbD 1) || (x.getLsbD 2) || (x.getLsbD 3))) (x.getLsbD 4) (allowQ k (x.getLsbD 1) (x.getLsbD 2) (x.getLsbD 3)) (x.getLsbD 58) (x.getLsbD 59) (x.getLsbD 61) k t G
def mkW (x : BitVec 64) (k : Int) (t : Bool) : BitVec 64 := markW (x.getLsbD 0) (x.getLsbD 1) (x.getLsbD 2) (x.getLsbD 3) (x.getLsbD 4) (x.getLsbD 5) (x.getLsbD 6) (x.getLsbD 7) (x.getLsbD 58) (x.getLsbD 59) (x.getLsbD 60) (x.getLsbD 61) k t (getB x 10 44)
def sameW (x : BitVec 64) (k : Int) (t : Bool) : Bool := sameQ (x.getLsbD 6) (x.getLsbD 7) (x.getLsbD 60) k t
def accA (F v : Int) (Q : Int) : Int := if Q = 0 then IntKind.u64.wrap (IntKind.u64.wrap (F * 4096) + v % 4096) else 0
def accS (k : Int) (b9 : Bool) (Q : Int) : Bool := if Q = 0 then (k == 3) && !b9 else false
theorem accV_eq (F v k : Int) (b9 : Bool) (Q : Int) : accV F v k b9 Q = .tuple #[.agg #[.int .u64 (accA F v Q), .bool (accS k b9 Q)], .int .i64 Q] := by
  unfold accV accA accS
  by_cases h : Q = 0
  · subst h; simp
  · rw [if_neg h, if_neg h, if_neg h]
/-- An answer, the memory's words, the buffer's lists. -/
abbrev ResR := (Int × Bool × Int) × (Nat → Nat → BitVec 64) × (Nat → List Ln)
def outV (o : Int × Bool × Int) : Value := .tuple #[.agg #[.int .u64 o.1, .bool o.2.1], .int .i64 o.2.2]
def putW (Mm : Nat → Nat → BitVec 64) (a : Nat) (x : BitVec 64) (k : Int) (t : Bool) : Nat → Nat → BitVec 64 := if sameW x k t = true then Mm else putM Mm (a / 4096) (a % 4096 / 8) (mkW x k t)
def findR (Mm : Nat → Nat → BitVec 64) (M : Nat → List Ln) (C P : Nat) (A : Int) (v : Nat) (k : Int) (t G : Bool) : ResR := match walkM Mm C P v with
  | none => ((0, false, 1), Mm, dropM M A ((v / 4096 : Nat) : Int))
  | some (x, a) => ((accA ((getB x 10 44).toNat : Int) (v : Int) (ckW x k t G), accS k (x.getLsbD 59) (ckW x k t G), ckW x k t G), if ckW x k t G = 0 then putW Mm a x k t else Mm, if ckW x k t G = 0 then lputM M (v / 4096 % 4) (A, ((v / 4096 : Nat) : Int), fdW x k t (a : Int)) else M)
def plainR (Mm : Nat → Nat → BitVec 64) (C P : Nat) (v : Nat) (k : Int) (t G : Bool) : Int × Bool × Int := match walkM Mm C P v with
  | none => (0, false, 1)
  | some (x, _) => (accA ((getB x 10 44).toNat : Int) (v : Int) (ckW x k t G), accS k (x.getLsbD 59) (ckW x k t G), ckW x k t G)
def lineQ (X : Fd) (k : Int) (t G : Bool) : Int := checkQ (X.e0 && (X.e1 || X.e2 || X.e3)) X.e4 (allowQ k X.e1 X.e2 X.e3) X.e8 X.e9 X.e11 k t G
def sameX (X : Fd) (k : Int) (t : Bool) : Bool := sameQ X.e6 X.e7 X.e10 k t
def transR (Mm : Nat → Nat → BitVec 64) (M : Nat → List Ln) (C P : Nat) (A : Int) (v : Nat) (k : Int) (t G : Bool) : ResR :=
  if v < 274877906944 then
    match (M (v / 4096 % 4)).find? (pageQ A ((v / 4096 : Nat) : Int)) with
    | none => findR Mm M C P A v k t G
    | some l => if lineQ l.2.2 k t G = 0 ∧ sameX l.2.2 k t = false then findR Mm M C P A v k t G else ((accA l.2.2.f (v : Int) (lineQ l.2.2 k t G), accS k l.2.2.e9 (lineQ l.2.2 k t G), lineQ l.2.2 k t G), Mm, M)
  else ((0, false, 1), Mm, M)
/-- A call answers so, and leaves memory and unit so. -/
def Leaves (N R K C : Nat) (P A : Int) (G : Bool) (r : ResR) (w : World) (e : Ending) (w' : World) : Prop := e = .returned (outV r.1) ∧ MemW w' R K C r.2.1 ∧ UnitAt N r.2.2 P A G w' ∧ Out2 N K w w'

theorem find_any (N R K C : Nat) (hC : 0 < C) (hC2 : C ≤ 64) (M : Nat → List Ln) (Mm : Nat → Nat → BitVec 64) (root v : BitVec 64) (A k : Int) (t G : Bool) (w : World) (hT : Tab w) (hM : MemW w R K C Mm) (hU : UnitAt N M (root.toNat : Int) A G w) : Calls Tryd.prog 32 #[.pointer (some ⟨N, 0, none⟩), .pointer (some ⟨R, 0, none⟩), .int .u64 (v.toNat : Int), .int .i64 k, .bool t] w (Leaves N R K C (root.toNat : Int) A G (findR Mm M C root.toNat A v.toNat k t G) w) := by
  have c1 := fun W => number_any v W
  have c2 := fun W h1 h2 => walk_any R K C hC2 Mm root v W h1 h2
  unfold findR Leaves
  cases hw : walkM Mm C root.toNat v.toNat with
  | none =>
    rw [hw] at c2
    have hc3 := fun W h => drop_any N M A ((v.toNat / 4096 : Nat) : Int) W h
    refine (find_none N R K C M _ Mm _ A _ k _ G t c1 c2 hc3 w hT hM hU).mono ?_
    rintro e w' ⟨rfl, h1, h2⟩
    exact ⟨rfl, mw_o1 h2 (un_nek hU hM hC) (un_ner hU hM) hC hM, h1, Out2.of1 h2⟩
  | some y =>
    obtain ⟨x, a⟩ := y
    rw [hw] at c2
    have c3 := fun W h => access_any (x.getLsbD 0) (x.getLsbD 1) (x.getLsbD 2) (x.getLsbD 3) (x.getLsbD 4) (x.getLsbD 5) (x.getLsbD 6) (x.getLsbD 7) (x.getLsbD 58) (x.getLsbD 59) (x.getLsbD 60) (x.getLsbD 61) t (getB x 10 44) v k (N := N) (M := M) (P := (root.toNat : Int)) (A := A) (G := G) W h
    simp only [accV_eq] at c3
    dsimp only
    obtain ⟨p, i, hp, hi, ha, hx, hg, _⟩ := walk_put Mm C root.toNat v.toNat 0#64 x a hw
    by_cases hQ : ckW x k t G = 0
    · rw [if_pos hQ, if_pos hQ]
      unfold ckW at hQ
      rw [hQ] at c3
      unfold ckW
      rw [hQ]
      have c4 := fun W h1 h2 => mark_any hp hi hC2 (x.getLsbD 0) (x.getLsbD 1) (x.getLsbD 2) (x.getLsbD 3) (x.getLsbD 4) (x.getLsbD 5) (x.getLsbD 6) (x.getLsbD 7) (x.getLsbD 58) (x.getLsbD 59) (x.getLsbD 60) (x.getLsbD 61) t (getB x 10 44) k R K Mm W h1 h2
      rw [← ha] at c4
      have c5 := fun W h => lput_any N (v.toNat / 4096 % 4) A ((v.toNat / 4096 : Nat) : Int) (fdW x k t (a : Int)) M (by omega) (by omega) W h
      refine (find_ok (x.getLsbD 0) (x.getLsbD 1) (x.getLsbD 2) (x.getLsbD 3) (x.getLsbD 4) (x.getLsbD 5) (x.getLsbD 6) (x.getLsbD 7) (x.getLsbD 58) (x.getLsbD 59) (x.getLsbD 60) (x.getLsbD 61) _ _ _ _ (fdW x k t (a : Int)) (p * 4100) N R K C M _ Mm _ _ A _ k _ G t c1 c2 c3 c4 c5 w hC hT hM hU).mono ?_
      rintro e w' ⟨rfl, h1, h2, h3⟩
      refine ⟨rfl, ?_, h2, h3⟩
      unfold putW sameW mkW
      rw [show a / 4096 = p by omega, show a % 4096 / 8 = i by omega]
      exact h1
    · rw [if_neg hQ, if_neg hQ]
      have hA : accA ((getB x 10 44).toNat : Int) (v.toNat : Int) (ckW x k t G) = 0 := if_neg hQ
      have hS : accS k (x.getLsbD 59) (ckW x k t G) = false := if_neg hQ
      unfold ckW at hQ hA hS
      rw [hA, hS] at c3
      unfold ckW
      rw [hA, hS]
      refine (find_bad (x.getLsbD 0) (x.getLsbD 1) (x.getLsbD 2) (x.getLsbD 3) (x.getLsbD 4) (x.getLsbD 5) (x.getLsbD 6) (x.getLsbD 7) (x.getLsbD 58) (x.getLsbD 59) (x.getLsbD 60) (x.getLsbD 61) _ _ _ N R K C M Mm _ A _ k _ G t c1 c2 c3 w (by simpa using hQ) hT hM hU).mono ?_
      rintro e w' ⟨rfl, hb⟩
      exact ⟨rfl, mw_be hb hM, un_be hb hU, Out2.ofb hb (Nat.le_refl _)⟩

set_option maxRecDepth 100000 in
set_option maxHeartbeats 8000000 in
theorem eqi_mark2 (b0 b1 b2 b3 b4 b5 b6 b7 b8 b9 b10 b11 D X : Bool) (N : Int) : ∀ W, (Op.equalIn 10000 32 (.agg #[.bool b0, .bool b1, .bool b2, .bool b3, .bool b4, .bool b5, .bool b6, .bool b7, .bool b8, .bool b9, .bool b10, .bool b11, .int .u64 N]) (.agg #[.bool b0, .bool b1, .bool b2, .bool b3, .bool b4, .bool b5, .bool true, .bool D, .bool b8, .bool b9, .bool X, .bool b11, .int .u64 N])).run Tryd.prog W = .ok (b6 && (D == b7) && (X == b10)) W := by
  intro W
  cases b6
  · simp [go_sem]
  · cases b7 <;> cases D
    all_goals first | (cases b10 <;> cases X <;> simp [go_sem]; done) | simp [go_sem]
theorem ne_mark2 (b0 b1 b2 b3 b4 b5 b6 b7 b8 b9 b10 b11 D X : Bool) (N : Int) : ∀ W, (binOp .neq 32 (.agg #[.bool b0, .bool b1, .bool b2, .bool b3, .bool b4, .bool b5, .bool b6, .bool b7, .bool b8, .bool b9, .bool b10, .bool b11, .int .u64 N]) (.agg #[.bool b0, .bool b1, .bool b2, .bool b3, .bool b4, .bool b5, .bool true, .bool D, .bool b8, .bool b9, .bool X, .bool b11, .int .u64 N])).run Tryd.prog W = .ok (.bool (!(b6 && (D == b7) && (X == b10)))) W := fun W => by
  rw [run_neq_struct, eqi_mark2]
  rfl

set_option maxRecDepth 100000 in
set_option maxHeartbeats 8000000 in
theorem trans_may (V k : Int) (t : Bool) (N R : Nat) (c1 : ∀ W, Calls Tryd.prog 29 #[.int .u64 V] W (Quiet (.bool false) W)) (w : World) : Calls Tryd.prog 7 #[.pointer (some ⟨N, 0, none⟩), .pointer (some ⟨R, 0, none⟩), .int .u64 V, .int .i64 k, .bool t] w (Makes (.tuple #[.agg #[.int .u64 0, .bool false], .int .i64 1]) w) := by
  have Cc1 := hide c1
  clear c1
  have SS := cell_same
  have LB' := ltB_add
  have LS := ltB_self
  have LA' := alloc_reads
  have LH := alloc_holds
  go_enter Tryd.func7, Tryd.ntmps7
  go_wp2_with (go_at_call 29; (with_reducible first | refine (Cc1.out _).mono ?_); rintro e w' ⟨rfl, n1, rfl⟩)
  refine bodyPost_ret (v := .tuple #[.agg #[.int .u64 0, .bool false], .int .i64 1]) (by simp (maxDischargeDepth := 4) [results, Tryd.results7, go_sem, *]) rfl ?_
  refine ⟨rfl, ?_⟩
  repeat (first | with_reducible assumption | with_reducible exact Below.refl _ _ | with_reducible refine Below.drew ?_ | with_reducible refine below_drewN ?_ _ | with_reducible refine bw_alloc ?_ _ | (with_reducible refine bw_set ?_ ?_ _; focus (dsimp only; omega)) | (with_reducible apply bw_behind; with_reducible assumption))
theorem page_eq {A n : Int} {L : List Ln} {l : Ln} (h : L.find? (pageQ A n) = some l) : l.1 = A ∧ l.2.1 = n := by
  have := List.find?_some h
  unfold pageQ at this
  simp only [Bool.and_eq_true, beq_iff_eq] at this
  exact this
/-- Translate. -/
theorem trans_any (N R K C : Nat) (hC : 0 < C) (hC2 : C ≤ 64) (M : Nat → List Ln) (hW : ∀ q, q < 4 → ∀ l ∈ M q, ∃ F : BitVec 64, l.2.2.f = (F.toNat : Int)) (Mm : Nat → Nat → BitVec 64) (root v : BitVec 64) (A k : Int) (t G : Bool) (w : World) (hT : Tab w) (hM : MemW w R K C Mm) (hU : UnitAt N M (root.toNat : Int) A G w) : Calls Tryd.prog 7 #[.pointer (some ⟨N, 0, none⟩), .pointer (some ⟨R, 0, none⟩), .int .u64 (v.toNat : Int), .int .i64 k, .bool t] w (Leaves N R K C (root.toNat : Int) A G (transR Mm M C root.toNat A v.toNat k t G) w) := by
  have c1 := fun W => may_any v W
  have c2 := fun W => number_any v W
  have c3 := fun W h => look_any N M A ((v.toNat / 4096 : Nat) : Int) (v.toNat / 4096 % 4) (by omega) (by omega) W h
  have c5 := fun W h1 h2 h3 => find_any N R K C hC hC2 M Mm root v A k t G W h1 h2 h3
  unfold transR
  by_cases hv : v.toNat < 274877906944
  · rw [if_pos hv]
    rw [decide_eq_true (by omega : (v.toNat : Int) < 274877906944)] at c1
    cases hl : (M (v.toNat / 4096 % 4)).find? (pageQ A ((v.toNat / 4096 : Nat) : Int)) with
    | none =>
      rw [hl] at c3
      dsimp only
      exact trans_none _ _ _ N R K C M _ Mm _ _ A _ k _ G t c1 c2 c3 c5 w hC hT hM hU
    | some l =>
      rw [hl] at c3
      obtain ⟨e1, e2⟩ := page_eq hl
      have hin := hW (v.toNat / 4096 % 4) (by omega) l (List.mem_of_find?_eq_some hl)
      obtain ⟨la, ln, X⟩ := l
      dsimp only at e1 e2 hin
      subst e1 e2
      obtain ⟨F, hF⟩ := hin
      have c4 := fun W h => access_any X.e0 X.e1 X.e2 X.e3 X.e4 X.e5 X.e6 X.e7 X.e8 X.e9 X.e10 X.e11 t F v k (N := N) (M := M) (P := (root.toNat : Int)) (A := la) (G := G) W h
      simp only [accV_eq, ← hF] at c4
      have c6 := fun W => marked_any X.e0 X.e1 X.e2 X.e3 X.e4 X.e5 X.e6 X.e7 X.e8 X.e9 X.e10 X.e11 t X.f k W
      have ne := ne_mark2 X.e0 X.e1 X.e2 X.e3 X.e4 X.e5 X.e6 X.e7 X.e8 X.e9 X.e10 X.e11 (markD X.e7 k) (markC X.e10 k t) X.f
      dsimp only
      by_cases hQ : lineQ X k t G = 0 ∧ sameX X k t = false
      · rw [if_pos hQ]
        obtain ⟨h1, h2⟩ := hQ
        rw [show (X.e6 && (markD X.e7 k == X.e7) && (markC X.e10 k t == X.e10)) = false from h2] at ne
        unfold lineQ at h1
        rw [h1] at c4
        exact trans_some _ _ _ _ _ _ _ _ _ _ _ _ _ _ _ _ _ _ _ X N R K C M _ Mm _ _ la _ k _ G t c1 c2 c3 c4 c6 ne (Or.inr ⟨rfl, rfl, c5⟩) w hC hT hM hU
      · rw [if_neg hQ]
        refine trans_some _ _ _ _ _ _ _ _ _ _ _ _ _ _ _ _ _ _ _ X N R K C M _ Mm _ _ la _ k _ G t c1 c2 c3 c4 c6 ne (Or.inl ⟨?_, rfl, rfl, rfl, rfl, rfl⟩) w hC hT hM hU
        by_cases h1 : lineQ X k t G = 0
        · right
          have h2 : sameX X k t = true := by
            cases h : sameX X k t with
            | true => rfl
            | false => exact absurd ⟨h1, h⟩ hQ
          show (!(sameX X k t)) = false
          rw [h2]; rfl
        · left
          exact beq_eq_false_iff_ne.2 h1
  · rw [if_neg hv]
    rw [decide_eq_false (by omega : ¬ (v.toNat : Int) < 274877906944)] at c1
    refine (trans_may _ k t N R c1 w).mono ?_
    rintro e w' ⟨rfl, hb⟩
    exact ⟨rfl, mw_be hb hM, un_be hb hU, Out2.ofb hb (Nat.le_refl _)⟩
end Go.Proofs.YtkajndonefkegaaDoor
