/-
  What the functions of package scale that only reckon (Add, In, Down, Up) answer, called with any arguments: each is the plain function of XScaleMath on words of 64 bits, and turns nothing in memory.
-/
import Derived.Test.YtnepnckiciapfaaDoorQuiet
import Derived.Test.YtnepnckiciapfaaDoorScaleMath
namespace Go.Proofs.YtnepnckiciapfaaDoor
open Go.RowKit Words ScaleMath

theorem ret_two {k : IntKind} {a b : Int} {c d : Bool} (h : a = b) (h2 : c = d) : Ending.returned (.tuple #[.int k a, .bool c]) = .returned (.tuple #[.int k b, .bool d]) := by rw [h, h2]

set_option maxHeartbeats 400000 in
theorem sadd_any (x y : BitVec 64) (w : World) : Calls Tryd.prog 35 #[.int .u64 (x.toNat : Int), .int .u64 (y.toNat : Int)] w (Quiet (.tuple #[.int .u64 ((x + y).toNat : Int), .bool (overB x y)]) w) := by
  go_enter Tryd.func35, Tryd.ntmps35
  go_wp2
  go_ret2
  exact ⟨ret_two (add_bv x y) (by rw [add_bv]; exact over_bv x y), 0, rfl⟩

set_option maxHeartbeats 400000 in
theorem sdown_any (x : BitVec 64) (e : Int) (w : World) : Calls Tryd.prog 36 #[.int .u64 (x.toNat : Int), .int .i64 e] w (Quiet (.int .u64 ((downB x e).toNat : Int)) w) := by
  by_cases h : e < 0
  · have hd : downB x e = x := down_low x e (by omega)
    have HD := hide hd
    clear hd
    go_enter Tryd.func36, Tryd.ntmps36
    go_wp2
    go_ret
    exact ⟨ret_int (by rw [HD.out]), 0, rfl⟩
  · have h0 : 0 ≤ e := by omega
    have HD := hide (down_walk x e _ rfl)
    clear h
    by_cases h64 : e ≤ 64
    · have hm : min e.toNat 64 = e.toNat := by omega
      rw [hm] at HD
      clear hm
      go_enter Tryd.func36, Tryd.ntmps36
      go_wp2
      go_ret
      exact ⟨ret_int HD.out, 0, rfl⟩
    · go_enter Tryd.func36, Tryd.ntmps36
      go_wp2
      go_ret
      exact ⟨ret_int HD.out, 0, rfl⟩

set_option maxHeartbeats 400000 in
theorem sup_any (x : BitVec 64) (e : Int) (w : World) : Calls Tryd.prog 25 #[.int .u64 (x.toNat : Int), .int .i64 e] w (Quiet (.tuple #[.int .u64 ((upB x e).1.toNat : Int), .bool (upB x e).2]) w) := by
  by_cases h : e < 0
  · have hu : upB x e = (x, true) := up_low x e (by omega)
    have hd : downB x e = x := down_low x e (by omega)
    have ho : overB x 0#64 = false := by have := x.isLt; unfold overB; simp; omega
    have c1 : ∀ W, Calls Tryd.prog 35 #[.int .u64 (x.toNat : Int), .int .u64 0] W (Quiet (.tuple #[.int .u64 (x.toNat : Int), .bool false]) W) := fun W => by
      have := sadd_any x 0#64 W
      rw [BitVec.add_zero, ho] at this
      exact this
    have c2 := fun W => sdown_any x 0 W
    rw [down_low x 0 (by omega)] at c2
    rw [hu]
    have C1 := hide c1
    have C2 := hide c2
    clear c1 c2 hu hd ho
    go_enter Tryd.func25, Tryd.ntmps25
    go_wp2_with (first | (go_at_call 35; (with_reducible refine (C1.out _).mono ?_); rintro e w' ⟨rfl, n1, rfl⟩) | (go_at_call 36; (with_reducible refine (C2.out _).mono ?_); rintro e w' ⟨rfl, n2, rfl⟩))
    go_ret2
    exact ⟨rfl, _, rfl⟩
  · have h0 : 0 ≤ e := by omega
    have hu := up_all x e h0
    have c1 := fun W => sadd_any x (stepB e) W
    have hst := step_walk e
    obtain ⟨T, hT⟩ : ∃ T, stepB e = T := ⟨_, rfl⟩
    rw [hT] at hu c1 hst
    rw [← hst] at c1
    have c2 := fun W => sdown_any (x + T) e W
    clear h hT hst
    generalize x + T = L at *
    cases ho : overB x T with
    | true =>
      rw [ho, if_pos rfl] at hu
      rw [ho] at c1
      rw [hu]
      have C1 := hide c1
      clear c1 c2 hu
      by_cases h64 : e ≤ 64
      · have hm : min e.toNat 64 = e.toNat := by omega
        rw [hm] at C1
        clear hm
        go_enter Tryd.func25, Tryd.ntmps25
        go_wp2_with ((go_at_call 35; (with_reducible refine (C1.out _).mono ?_); rintro e w' ⟨rfl, n1, rfl⟩))
        go_ret2
        exact ⟨rfl, _, rfl⟩
      · go_enter Tryd.func25, Tryd.ntmps25
        go_wp2_with ((go_at_call 35; (with_reducible refine (C1.out _).mono ?_); rintro e w' ⟨rfl, n1, rfl⟩))
        go_ret2
        exact ⟨rfl, _, rfl⟩
    | false =>
      rw [ho, if_neg (by decide)] at hu
      rw [ho] at c1
      rw [hu]
      have C1 := hide c1
      have C2 := hide c2
      clear c1 c2 hu
      by_cases h64 : e ≤ 64
      · have hm : min e.toNat 64 = e.toNat := by omega
        rw [hm] at C1
        clear hm
        go_enter Tryd.func25, Tryd.ntmps25
        go_wp2_with (first | (go_at_call 35; (with_reducible refine (C1.out _).mono ?_); rintro e w' ⟨rfl, n1, rfl⟩) | (go_at_call 36; (with_reducible refine (C2.out _).mono ?_); rintro e w' ⟨rfl, n2, rfl⟩))
        go_ret2
        exact ⟨rfl, _, rfl⟩
      · go_enter Tryd.func25, Tryd.ntmps25
        go_wp2_with (first | (go_at_call 35; (with_reducible refine (C1.out _).mono ?_); rintro e w' ⟨rfl, n1, rfl⟩) | (go_at_call 36; (with_reducible refine (C2.out _).mono ?_); rintro e w' ⟨rfl, n2, rfl⟩))
        go_ret2
        exact ⟨rfl, _, rfl⟩
end Go.Proofs.YtnepnckiciapfaaDoor
