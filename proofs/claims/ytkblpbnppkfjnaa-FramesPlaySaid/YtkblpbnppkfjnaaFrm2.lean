/-
  What has, Taken and the closure of free answer.
-/
import Derived.Test.YtkblpbnppkfjnaaFrm1
namespace Go.Proofs.Ytkblpbnppkfjnaa
open Go.RowKit Words ScaleMath FrmMath

theorem Quiet.at {f : FuncId} {args : Array Value} {v : Value} {w : World} (c : ∀ n, Calls Try.prog f args (w.drewN n) (Quiet v (w.drewN n))) {n : Nat} :
    Calls Try.prog f args (w.drewN n) fun e w'' => e = .returned v ∧ ∃ m, w'' = w.drewN m :=
  (c n).mono fun _ _ ⟨he, m, hm⟩ => ⟨he, n + m, by rw [hm, World.drewN_drewN]⟩
theorem Quiet.atAdd {f : FuncId} {args : Array Value} {v : Value} {w : World} (c : ∀ n, Calls Try.prog f args (w.drewN n) (Quiet v (w.drewN n))) {a n : Nat} :
    Calls Try.prog f args (w.drewN (a + n)) fun e w'' => e = .returned v ∧ ∃ m, w'' = w.drewN (a + m) :=
  (c (a + n)).mono fun _ _ ⟨he, m, hm⟩ => ⟨he, n + m, by rw [hm, World.drewN_drewN, Nat.add_assoc]⟩
/-- The call answers v at w, and behind any draws. -/
abbrev At (f : FuncId) (args : Array Value) (v : Value) (w : World) : Prop := ∀ n, Calls Try.prog f args (w.drewN n) (Quiet v (w.drewN n))
theorem At.of {f : FuncId} {args : Array Value} {v : Value} (c : ∀ W, Calls Try.prog f args W (Quiet v W)) (w : World) : At f args v w := fun _ => c _
theorem At.now {f : FuncId} {args : Array Value} {v : Value} {w : World} (c : At f args v w) : Calls Try.prog f args w (Quiet v w) := c 0

/-- Numbers of a test of one bit. -/
theorem test_bit (A : BitVec 64) (n : Int) : ∃ R : Int, bits .and .u64 (A.toNat : Int) ((oneW n).toNat : Int) = R ∧ (R != 0) = A.getLsbD n.toNat := by
  refine ⟨_, and_bv _ _, ?_⟩
  cases h : A.getLsbD n.toNat with
  | true => simpa using and_some A n h
  | false => rw [and_none A n h]; rfl

set_option maxHeartbeats 1000000 in
theorem has_no (p : Option Addr) (n : Int) (w : World) (cm : At 17 #[.pointer p] (.bool false) w) : Calls Try.prog 20 #[.pointer p, .int .i64 n] w (Quiet (.bool false) w) := by
  have C1 := hide cm
  clear cm
  go_enter Try.func20, Try.ntmps20
  go_wp2
  go_quiet (((go_at_call 17; with_reducible first | exact Quiet.at C1.out | exact Quiet.atAdd C1.out)))
  go_wp2
  go_ret
  exact ⟨by first | rfl | exact ret_bool hx, _, by first | rfl | exact World.drewN_drewN ..⟩

set_option maxHeartbeats 1000000 in
theorem has_neg (p : Option Addr) (n : Int) (h0 : n < 0) (w : World) (cm : At 17 #[.pointer p] (.bool true) w) : Calls Try.prog 20 #[.pointer p, .int .i64 n] w (Quiet (.bool false) w) := by
  have C1 := hide cm
  have hg : decide (0 ≤ n) = false := decide_eq_false (by omega)
  clear cm h0
  go_enter Try.func20, Try.ntmps20
  go_wp2
  go_quiet (((go_at_call 17; with_reducible first | exact Quiet.at C1.out | exact Quiet.atAdd C1.out)))
  go_wp2
  go_ret
  exact ⟨by first | rfl | exact ret_bool hx, _, by first | rfl | exact World.drewN_drewN ..⟩

set_option maxHeartbeats 1000000 in
theorem has_yes (b : Nat) (a n O R : Int) (x : Bool) (hg : decide (0 ≤ n) = true) (hR : bits .and .u64 a O = R) (hx : (R != 0) = x) (w : World) (c0 : w.cell? ⟨b, 0, none⟩ = some (.int .u64 a)) (cm : At 17 #[.pointer (some ⟨b, 0, none⟩)] (.bool true) w) (cb : At 16 #[.int .i64 n] (.int .u64 O) w) :
    Calls Try.prog 20 #[.pointer (some ⟨b, 0, none⟩), .int .i64 n] w (Quiet (.bool x) w) := by
  have C1 := hide cm
  have C2 := hide cb
  clear cm cb
  go_enter Try.func20, Try.ntmps20
  go_wp2
  go_quiet (first | ((go_at_call 17; with_reducible first | exact Quiet.at C1.out | exact Quiet.atAdd C1.out)) | ((go_at_call 16; with_reducible first | exact Quiet.at C2.out | exact Quiet.atAdd C2.out)))
  go_wp2
  go_ret
  exact ⟨by first | rfl | exact ret_bool hx, _, by first | rfl | exact World.drewN_drewN ..⟩

/-- has of a pool that was made. -/
theorem has_at (b : Nat) (A T : BitVec 64) (hA : A ≠ 0#64) (n : Int) (w : World) (hp : PoolAt w b A T) : Calls Try.prog 20 #[.pointer (some ⟨b, 0, none⟩), .int .i64 n] w (Quiet (.bool (hasB A n)) w) := by
  have cm : At 17 #[.pointer (some ⟨b, 0, none⟩)] (.bool true) w := fun k => by
    have := made_let b _ _ (w.drewN k) (pool_dr k hp).c0 (pool_dr k hp).c1
    have h0 : decide ((A.toNat : Int) = 0) = false := decide_eq_false (fun e => hA (BitVec.eq_of_toNat_eq (by simpa using e)))
    rw [h0] at this
    exact this
  by_cases h : 0 ≤ n
  · obtain ⟨R, h1, h2⟩ := test_bit A n
    have : hasB A n = A.getLsbD n.toNat := by unfold hasB; rw [decide_eq_true h]; rfl
    rw [this]
    exact has_yes b _ n _ R _ (decide_eq_true h) h1 h2 w hp.c0 cm (At.of (fun W => bit_let n h W) w)
  · have : hasB A n = false := by unfold hasB; rw [decide_eq_false h]; rfl
    rw [this]
    exact has_neg _ n (by omega) w cm
/-- A pool that nobody made. -/
theorem has_nil (n : Int) (w : World) : Calls Try.prog 20 #[.pointer none, .int .i64 n] w (Quiet (.bool false) w) := has_no none n w (At.of made_nil w)
theorem made_zero (b : Nat) (w : World) (hp : PoolAt w b 0#64 0#64) : At 17 #[.pointer (some ⟨b, 0, none⟩)] (.bool false) w := fun k => made_let b 0 0 (w.drewN k) (pool_dr k hp).c0 (pool_dr k hp).c1
theorem made_at (b : Nat) (A T : BitVec 64) (hA : A ≠ 0#64) (w : World) (hp : PoolAt w b A T) : Calls Try.prog 17 #[.pointer (some ⟨b, 0, none⟩)] w (Quiet (.bool true) w) := by
  have := made_let b _ _ w hp.c0 hp.c1
  have h0 : decide ((A.toNat : Int) = 0) = false := decide_eq_false (fun e => hA (BitVec.eq_of_toNat_eq (by simpa using e)))
  rw [h0] at this
  exact this
theorem has_zero (b : Nat) (n : Int) (w : World) (hp : PoolAt w b 0#64 0#64) : Calls Try.prog 20 #[.pointer (some ⟨b, 0, none⟩), .int .i64 n] w (Quiet (.bool false) w) := has_no _ n w (made_zero b w hp)

set_option maxHeartbeats 1000000 in
theorem taken_no (p : Option Addr) (n : Int) (w : World) (cm : At 20 #[.pointer p, .int .i64 n] (.bool false) w) : Calls Try.prog 15 #[.pointer p, .int .i64 n] w (Quiet (.bool false) w) := by
  have C1 := hide cm
  clear cm
  go_enter Try.func15, Try.ntmps15
  go_wp2
  go_quiet (((go_at_call 20; with_reducible first | exact Quiet.at C1.out | exact Quiet.atAdd C1.out)))
  go_wp2
  go_ret
  exact ⟨by first | rfl | exact ret_bool hx, _, by first | rfl | exact World.drewN_drewN ..⟩

set_option maxHeartbeats 1000000 in
theorem taken_yes (b : Nat) (t n O R : Int) (x : Bool) (hR : bits .and .u64 t O = R) (hx : (R != 0) = x) (w : World) (c1 : w.cell? ⟨b, 1, none⟩ = some (.int .u64 t)) (cm : At 20 #[.pointer (some ⟨b, 0, none⟩), .int .i64 n] (.bool true) w) (cb : At 16 #[.int .i64 n] (.int .u64 O) w) :
    Calls Try.prog 15 #[.pointer (some ⟨b, 0, none⟩), .int .i64 n] w (Quiet (.bool x) w) := by
  have C1 := hide cm
  have C2 := hide cb
  clear cm cb
  go_enter Try.func15, Try.ntmps15
  go_wp2
  go_quiet (first | ((go_at_call 20; with_reducible first | exact Quiet.at C1.out | exact Quiet.atAdd C1.out)) | ((go_at_call 16; with_reducible first | exact Quiet.at C2.out | exact Quiet.atAdd C2.out)))
  go_wp2
  go_ret
  exact ⟨by first | rfl | exact ret_bool hx, _, by first | rfl | exact World.drewN_drewN ..⟩

theorem taken_at (b : Nat) (A T : BitVec 64) (hA : A ≠ 0#64) (n : Int) (w : World) (hp : PoolAt w b A T) : Calls Try.prog 15 #[.pointer (some ⟨b, 0, none⟩), .int .i64 n] w (Quiet (.bool (takenB A T n)) w) := by
  have cm : At 20 #[.pointer (some ⟨b, 0, none⟩), .int .i64 n] (.bool (hasB A n)) w := fun k => has_at b A T hA n (w.drewN k) (pool_dr k hp)
  cases h : hasB A n with
  | true =>
    rw [h] at cm
    have h0 : 0 ≤ n := by
      unfold hasB at h
      simp only [Bool.and_eq_true, decide_eq_true_eq] at h
      exact h.1
    obtain ⟨R, h1, h2⟩ := test_bit T n
    have : takenB A T n = T.getLsbD n.toNat := by unfold takenB; rw [h]; rfl
    rw [this]
    exact taken_yes b _ n _ R _ h1 h2 w hp.c1 cm (At.of (fun W => bit_let n h0 W) w)
  | false =>
    rw [h] at cm
    have : takenB A T n = false := by unfold takenB; rw [h]; rfl
    rw [this]
    exact taken_no _ n w cm
theorem taken_nil (n : Int) (w : World) : Calls Try.prog 15 #[.pointer none, .int .i64 n] w (Quiet (.bool false) w) := taken_no none n w (fun _ => has_nil n _)
theorem taken_zero (b : Nat) (n : Int) (w : World) (hp : PoolAt w b 0#64 0#64) : Calls Try.prog 15 #[.pointer (some ⟨b, 0, none⟩), .int .i64 n] w (Quiet (.bool false) w) := taken_no _ n w (fun k => has_zero b n _ (pool_dr k hp))

set_option maxHeartbeats 1000000 in
/-- The closure that tells whether a number is not taken: the pool lies in a variable. -/
theorem isfree_at (b c : Nat) (A T : BitVec 64) (hA : A ≠ 0#64) (n : Int) (w : World) (hp : PoolAt w b A T) (hc : w.cell? ⟨c, 0, none⟩ = some (.pointer (some ⟨b, 0, none⟩))) : Calls Try.prog 22 #[.int .i64 n, .pointer (some ⟨c, 0, none⟩)] w (Quiet (.bool (!takenB A T n)) w) := by
  have C1 := hide (taken_at b A T hA n w hp)
  generalize takenB A T n = x at *
  clear hp
  go_enter Try.func22, Try.ntmps22
  go_wp2_with (go_at_call 15; refine C1.out.mono ?_; rintro e w' ⟨rfl, k, rfl⟩)
  go_ret
  exact ⟨rfl, _, rfl⟩
end Go.Proofs.Ytkblpbnppkfjnaa
