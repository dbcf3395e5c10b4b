/-
  What Page.number answers, and what Page.put and Page.untag turn.
-/
import Derived.Test.YtnookalplejneaaDoorRam1
namespace Go.Proofs.YtnookalplejneaaDoor
open Go.RowKit Words

/-- One round's numbers. -/
structure NumMet (off k e : Nat) (b S T V V' : Int) : Prop where
  h1 : IntKind.i64.wrap ((off : Int) + (k : Int)) = (e : Int)
  h2 : IntKind.u64.wrap b = b
  h3 : IntKind.i64.wrap ((k : Int) * 8) = S
  h4 : IntKind.u64.wrap (b * 2 ^ S.toNat) = T
  h5 : bits .or .u64 V T = V'
  h6 : (0 : Int) ≤ (e : Int)
  h7 : (e : Int) < 4096
  h8 : 0 ≤ S
  h9 : S < 64
theorem num_met (f : Nat → BitVec 8) (off k : Nat) (hk : k < 8) (ho : off + k < 4096) : ∃ T, NumMet off k (off + k) ((f k).toNat : Int) ((k * 8 : Nat) : Int) T ((numB f k).toNat : Int) ((numB f (k + 1)).toNat : Int) := by
  refine ⟨(((f k).setWidth 64 <<< (8 * k)).toNat : Int), ⟨by rw [IntKind.wrap_i64]; omega, ?_, by rw [IntKind.wrap_i64]; omega, ?_, or_bv _ _, by omega, by omega, by omega, by omega⟩⟩
  · have := (f k).isLt
    rw [IntKind.wrap_u64]
    omega
  · rw [byte_up, Int.toNat_natCast, Nat.mul_comm k 8]
    exact shl_bv _ _
set_option maxHeartbeats 2000000 in
theorem bnumber_any (N o off n : Nat) (B : Nat → BitVec 8) (s : BitVec 256) (hn : n ≤ 8) (ho : off + n ≤ 4096) (w : World) (h : PageAt w N o B s) :
    Calls Tryd.prog 59 #[.pointer (some ⟨N, o, none⟩), .int .i64 (off : Int), .int .i64 (n : Int)] w (Quiet (.int .u64 ((numB (fun i => B (off + i)) n).toNat : Int)) w) := by
  have HB := hide h.byte
  clear h
  have HM := hide (num_met (fun i => B (off + i)) off)
  go_enter Tryd.func59, Tryd.ntmps59
  go_wp2
  go_loopw [7, 10] (fun v i wr => ∃ k : Nat, k ≤ n ∧ v = .int .u64 ((numB (fun i => B (off + i)) k).toNat : Int) ∧ i = .int .i64 (k : Int) ∧ wr = w) (fun _ i _ => n - (intOf i).toNat)
  case atStart => exact ⟨0, by omega, rfl, rfl, rfl⟩
  case round =>
    obtain ⟨k, hk, rfl, rfl, rfl⟩ := hrel
    by_cases hlt : k < n
    · obtain ⟨T, e1, e2, e3, e4, e5, e6, e7, e8, e9⟩ := HM.out k (by omega) (by omega)
      have hc := HB.out (off + k) (by omega)
      have hl : (k : Int) < (n : Int) := by omega
      unfold byI at hc
      generalize off + k = e at *
      obtain ⟨Y, hY⟩ : ∃ Y, ((numB (fun i => B (off + i)) (k + 1)).toNat : Int) = Y := ⟨_, rfl⟩
      have HY := hide hY
      rw [hY] at e5
      clear hY
      generalize ((numB (fun i => B (off + i)) k).toNat : Int) = V at *
      generalize ((B e).toNat : Int) = b at *
      generalize ((k * 8 : Nat) : Int) = S at *
      go_wp2
      go_roundw
      case rel => exact ⟨k + 1, by omega, by rw [HY.out], by go_num, by first | rfl | trivial⟩
      case measure => simp [intOf]; omega
    · have : k = n := by omega
      subst this
      go_wp2
      go_ret
      refine ⟨rfl, 0, ?_⟩
      first | rfl | trivial

set_option maxHeartbeats 1000000 in
theorem untag_any (N o : Nat) (g : Int) (B : Nat → BitVec 8) (s : BitVec 256) (w : World) (h : PageAt w N o B s) :
    Calls Tryd.prog 55 #[.pointer (some ⟨N, o, none⟩), .int .i64 g] w fun e w' => e = .returned (.tuple #[]) ∧ PageAt w' N o B (withS s g false) ∧ Out N o w w' := by
  have HP := hide h
  have c0 := h.word 0 (by omega)
  have c1 := h.word 1 (by omega)
  have c2 := h.word 2 (by omega)
  have c3 := h.word 3 (by omega)
  have f0 := h.free 4096 (by omega)
  have f1 := h.free 4097 (by omega)
  have f2 := h.free 4098 (by omega)
  have f3 := h.free 4099 (by omega)
  have hN : ltB N w.heap.size = true := decide_eq_true h.here
  clear h
  have C1 := hide (fun W => with_any s g false W)
  have HT := hide (fun W => @pg_tags W N o B s (withS s g false))
  generalize withS s g false = t at *
  generalize ((wd s 0).toNat : Int) = A0 at *
  generalize ((wd s 1).toNat : Int) = A1 at *
  generalize ((wd s 2).toNat : Int) = A2 at *
  generalize ((wd s 3).toNat : Int) = A3 at *
  generalize ((wd t 0).toNat : Int) = T0 at *
  generalize ((wd t 1).toNat : Int) = T1 at *
  generalize ((wd t 2).toNat : Int) = T2 at *
  generalize ((wd t 3).toNat : Int) = T3 at *
  have SS := cell_same
  have LB' := ltB_add
  have LS := ltB_self
  have LA' := alloc_reads
  have LH := alloc_holds
  go_enter Tryd.func55, Tryd.ntmps55
  go_wp2_with (first | (go_at_call 60; (with_reducible first | refine (C1.out _).mono ?_); rintro e w1 ⟨rfl, hb1⟩; have hr1 := below_reads hb1; have hh1 := below_holds hb1; obtain ⟨m1, hs1⟩ := below_grew hb1))
  refine bodyPost_end (v := .tuple #[]) (by simp (maxDischargeDepth := 4) [results, Tryd.results55, go_sem, *]) rfl ?_
  refine ⟨rfl, ?_, ?_⟩
  · exact HT.out _ (pg_be hb1 HP.out)
  · repeat (first | with_reducible assumption | with_reducible exact Out.refl _ _ _ | with_reducible refine out_dr _ ?_ | with_reducible refine out_d1 ?_ | with_reducible refine out_al _ ?_ | (with_reducible refine out_new _ ?_ ?_; focus (dsimp only; omega)) | (with_reducible refine out_in _ ?_ ?_ ?_; (focus omega); (focus omega)) | (with_reducible apply out_be; with_reducible assumption))

/-- Bytes off .. off + k - 1 are those of a number. -/
def putB (B : Nat → BitVec 8) (off : Nat) (v : BitVec 64) (k : Nat) : Nat → BitVec 8 := fun j => if off ≤ j ∧ j < off + k then by8 v (j - off) else B j
theorem putB_zero (B : Nat → BitVec 8) (off : Nat) (v : BitVec 64) : putB B off v 0 = B := by
  funext j
  unfold putB
  rw [if_neg (by omega)]
theorem putB_succ (B : Nat → BitVec 8) (off : Nat) (v : BitVec 64) (k : Nat) : updB (putB B off v k) (off + k) (by8 v k) = putB B off v (k + 1) := by
  funext j
  unfold updB putB
  by_cases h : j = off + k
  · subst h
    rw [if_pos rfl, if_pos (by omega), show off + k - off = k by omega]
  · rw [if_neg h]
    by_cases h2 : off ≤ j ∧ j < off + k
    · rw [if_pos h2, if_pos (by omega)]
    · rw [if_neg h2, if_neg (by omega)]
structure PutMet (off k e : Nat) (V S T b : Int) : Prop where
  h1 : IntKind.i64.wrap ((off : Int) + (k : Int)) = (e : Int)
  h3 : IntKind.i64.wrap ((k : Int) * 8) = S
  h4 : V / 2 ^ S.toNat = T
  h5 : IntKind.u8.wrap T = b
  h6 : (0 : Int) ≤ (e : Int)
  h7 : (e : Int) < 4096
  h8 : 0 ≤ S
  h9 : S < 64
theorem put_met (v : BitVec 64) (off k : Nat) (hk : k < 8) (ho : off + k < 4096) : ∃ T, PutMet off k (off + k) (v.toNat : Int) ((k * 8 : Nat) : Int) T ((by8 v k).toNat : Int) := by
  refine ⟨((v >>> (8 * k)).toNat : Int), ⟨by rw [IntKind.wrap_i64]; omega, by rw [IntKind.wrap_i64]; omega, ?_, u8_bv _, by omega, by omega, by omega, by omega⟩⟩
  rw [Int.toNat_natCast, Nat.mul_comm k 8]
  exact shr_bv _ _
set_option maxHeartbeats 4000000 in
theorem bput_any (N o off n : Nat) (G : Int) (v : BitVec 64) (B : Nat → BitVec 8) (s : BitVec 256) (hn : n ≤ 8) (ho : off + n ≤ 4096) (hG : (off : Int) / 16 = G) (hG2 : (off : Int).tdiv 16 = G) (w : World) (h : PageAt w N o B s) :
    Calls Tryd.prog 42 #[.pointer (some ⟨N, o, none⟩), .int .i64 (off : Int), .int .i64 (n : Int), .int .u64 (v.toNat : Int)] w fun e w' => e = .returned (.tuple #[]) ∧ PageAt w' N o (putB B off v n) (withS s G false) ∧ Out N o w w' := by
  have HP := hide h
  clear h
  have HM := hide (put_met v off)
  have H0 := hide (putB_zero B off v)
  have H1 := hide (putB_succ B off v)
  have C1 := hide (fun W => untag_any N o G (putB B off v n) s W)
  go_enter Tryd.func42, Tryd.ntmps42
  go_wp2
  go_loopw [10] (fun i wr => ∃ k : Nat, k ≤ n ∧ i = .int .i64 (k : Int) ∧ PageAt wr N o (putB B off v k) s ∧ Out N o w wr) (fun i _ => n - (intOf i).toNat)
  case atStart => exact ⟨0, by omega, rfl, by rw [H0.out]; exact HP.out, Out.refl _ _ _⟩
  case round =>
    obtain ⟨k, hk, rfl, hP, hO⟩ := hrel
    by_cases hlt : k < n
    · obtain ⟨T, e1, e3, e4, e5, e6, e7, e8, e9⟩ := HM.out k (by omega) (by omega)
      have hc := hP.byte (off + k) (by omega)
      have hf := hP.free (off + k) (by omega)
      have HQ := hide (fun b => pg_byte (b := b) (k := off + k) (by omega) hP)
      have HR := hide hO
      clear hP hO
      have hl : (k : Int) < (n : Int) := by omega
      have HE := hide (H1.out k)
      have HL : Hid (off + k < 4096) := hide (by omega)
      unfold byI at hc
      obtain ⟨bb, hbb⟩ : ∃ b, ((by8 v k).toNat : Int) = b := ⟨_, rfl⟩
      have HY := hide hbb
      rw [hbb] at e5
      clear hbb
      generalize off + k = e at *
      generalize ((putB B off v k e).toNat : Int) = old at *
      generalize ((k * 8 : Nat) : Int) = S at *
      generalize (v.toNat : Int) = V at *
      go_wp2
      go_region
      go_wp2
      go_roundw
      case rel =>
        refine ⟨k + 1, by omega, by go_num, ?_, ?_⟩
        · rw [← HE.out]
          have h := HQ.out (by8 v k)
          unfold byI at h
          rw [HY.out] at h
          repeat (first | with_reducible assumption | with_reducible refine pg_dr _ ?_ | with_reducible refine pg_d1 ?_ | with_reducible refine pg_al _ ?_ | (with_reducible refine pg_set ?_ ?_; focus (dsimp only; omega)) | (with_reducible apply pg_be; with_reducible assumption))
        · have hO := HR.out; have hl := HL.out; repeat (first | with_reducible assumption | with_reducible exact Out.refl _ _ _ | with_reducible refine out_dr _ ?_ | with_reducible refine out_d1 ?_ | with_reducible refine out_al _ ?_ | (with_reducible refine out_new _ ?_ ?_; focus (dsimp only; omega)) | (with_reducible refine out_in _ ?_ ?_ ?_; (focus omega); (focus omega)) | (with_reducible apply out_be; with_reducible assumption))
      case measure => simp [intOf]; omega
    · have : k = n := by omega
      subst this
      have HR := hide hO
      go_wp2_with (first | (go_at_call 55; (with_reducible refine (C1.out _ ?_).mono ?_); (focus (repeat (first | with_reducible assumption | with_reducible refine pg_dr _ ?_ | with_reducible refine pg_d1 ?_ | with_reducible refine pg_al _ ?_ | (with_reducible refine pg_set ?_ ?_; focus (dsimp only; omega)) | (with_reducible apply pg_be; with_reducible assumption)))); rintro e w' ⟨rfl, hq, ho'⟩))
      refine bodyPost_end (v := .tuple #[]) (by simp (maxDischargeDepth := 4) [results, Tryd.results42, go_sem, *]) rfl ?_
      exact ⟨rfl, hq, HR.out.trans ho'⟩
end Go.Proofs.YtnookalplejneaaDoor
