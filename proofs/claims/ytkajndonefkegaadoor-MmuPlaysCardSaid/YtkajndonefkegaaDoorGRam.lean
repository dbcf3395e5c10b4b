/-
  Texts laid one behind the other: Tag3, Ram1, Ram2, RamN.
-/
import Derived.Test.YtkajndonefkegaaDoorTag2
import Derived.Test.YtkajndonefkegaaDoorGTag
set_option maxRecDepth 100000
set_option maxHeartbeats 64000000
namespace Go.Proofs.YtkajndonefkegaaDoor
open Go.RowKit Words

theorem gran_split {i : Int} (h : granB i = true) : ∃ q r : Nat, q < 4 /\ r < 64 /\ i.toNat = 64 * q + r /\ 0 ≤ i /\ i < 256 /\ i.tdiv 64 = (q : Int) /\ i / 64 = (q : Int) /\ i.tmod 64 = (r : Int) /\ i % 64 = (r : Int) := by
  have h2 : 0 ≤ i /\ i < 256 := by simpa [granB] using h
  refine ⟨(i / 64).toNat, (i % 64).toNat, by omega, by omega, by omega, h2.1, h2.2, ?_, by omega, ?_, by omega⟩
  · rw [Int.tdiv_eq_ediv_of_nonneg h2.1]; omega
  · rw [Int.tmod_eq_emod_of_nonneg h2.1]; omega
theorem four_of {q : Nat} (h : q < 4) : q = 0 ∨ q = 1 ∨ q = 2 ∨ q = 3 := by omega
theorem gran_yes {i : Int} (h : granB i = true) : ∀ W, Calls Tryd.prog 88 #[.int .i64 i] W (Quiet (.bool true) W) := fun W => by
  have := gran_any i W
  rw [h] at this
  exact this
theorem gran_no {i : Int} (h : granB i = false) : ∀ W, Calls Tryd.prog 88 #[.int .i64 i] W (Quiet (.bool false) W) := fun W => by
  have := gran_any i W
  rw [h] at this
  exact this
theorem with_any (s : BitVec 256) (i : Int) (tag : Bool) (w : World) : Calls Tryd.prog 86 #[.agg #[.int .u64 ((wd s 0).toNat : Int), .int .u64 ((wd s 1).toNat : Int), .int .u64 ((wd s 2).toNat : Int), .int .u64 ((wd s 3).toNat : Int)], .int .i64 i, .bool tag] w (Makes (.agg #[.int .u64 ((wd (withS s i tag) 0).toNat : Int), .int .u64 ((wd (withS s i tag) 1).toNat : Int), .int .u64 ((wd (withS s i tag) 2).toNat : Int), .int .u64 ((wd (withS s i tag) 3).toNat : Int)]) w) := by
  unfold withS
  cases hg : granB i with
  | false =>
    rw [if_neg (by simp)]
    exact with_none _ _ _ _ _ _ (gran_no hg) w
  | true =>
    rw [if_pos rfl]
    obtain ⟨q, r, hq, hr, hn, h0, h1, hd, hde, hm, hme⟩ := gran_split hg
    have c1 := gran_yes hg
    have c2 := fun W => bit_any i r hm hr W
    rw [hn]
    cases tag with
    | true =>
      rcases four_of hq with rfl | rfl | rfl | rfl
      · rw [wd_put_yes s 0 r (by omega) hr, wd_put_else s 0 r 1 _ (by omega) hr (by omega), wd_put_else s 0 r 2 _ (by omega) hr (by omega), wd_put_else s 0 r 3 _ (by omega) hr (by omega)]
        exact with_0_true _ _ _ _ _ _ _ c1 c2 h0 h1 hd hde (or_bv _ _) w
      · rw [wd_put_else s 1 r 0 _ (by omega) hr (by omega), wd_put_yes s 1 r (by omega) hr, wd_put_else s 1 r 2 _ (by omega) hr (by omega), wd_put_else s 1 r 3 _ (by omega) hr (by omega)]
        exact with_1_true _ _ _ _ _ _ _ c1 c2 h0 h1 hd hde (or_bv _ _) w
      · rw [wd_put_else s 2 r 0 _ (by omega) hr (by omega), wd_put_else s 2 r 1 _ (by omega) hr (by omega), wd_put_yes s 2 r (by omega) hr, wd_put_else s 2 r 3 _ (by omega) hr (by omega)]
        exact with_2_true _ _ _ _ _ _ _ c1 c2 h0 h1 hd hde (or_bv _ _) w
      · rw [wd_put_else s 3 r 0 _ (by omega) hr (by omega), wd_put_else s 3 r 1 _ (by omega) hr (by omega), wd_put_else s 3 r 2 _ (by omega) hr (by omega), wd_put_yes s 3 r (by omega) hr]
        exact with_3_true _ _ _ _ _ _ _ c1 c2 h0 h1 hd hde (or_bv _ _) w
    | false =>
      rcases four_of hq with rfl | rfl | rfl | rfl
      · rw [wd_put_no s 0 r (by omega) hr, wd_put_else s 0 r 1 _ (by omega) hr (by omega), wd_put_else s 0 r 2 _ (by omega) hr (by omega), wd_put_else s 0 r 3 _ (by omega) hr (by omega)]
        exact with_0_false _ _ _ _ _ _ _ c1 c2 h0 h1 hd hde (andNot_bv _ _) w
      · rw [wd_put_else s 1 r 0 _ (by omega) hr (by omega), wd_put_no s 1 r (by omega) hr, wd_put_else s 1 r 2 _ (by omega) hr (by omega), wd_put_else s 1 r 3 _ (by omega) hr (by omega)]
        exact with_1_false _ _ _ _ _ _ _ c1 c2 h0 h1 hd hde (andNot_bv _ _) w
      · rw [wd_put_else s 2 r 0 _ (by omega) hr (by omega), wd_put_else s 2 r 1 _ (by omega) hr (by omega), wd_put_no s 2 r (by omega) hr, wd_put_else s 2 r 3 _ (by omega) hr (by omega)]
        exact with_2_false _ _ _ _ _ _ _ c1 c2 h0 h1 hd hde (andNot_bv _ _) w
      · rw [wd_put_else s 3 r 0 _ (by omega) hr (by omega), wd_put_else s 3 r 1 _ (by omega) hr (by omega), wd_put_else s 3 r 2 _ (by omega) hr (by omega), wd_put_no s 3 r (by omega) hr]
        exact with_3_false _ _ _ _ _ _ _ c1 c2 h0 h1 hd hde (andNot_bv _ _) w

end Go.Proofs.YtkajndonefkegaaDoor

namespace Go.Proofs.YtkajndonefkegaaDoor
open Go.RowKit Words

theorem size_yes (n : Int) (h : n = 1 ∨ n = 2 ∨ n = 4 ∨ n = 8) (w : World) : Calls Tryd.prog 43 #[.int .i64 n] w (Quiet (.bool true) w) := by
  rcases h with rfl | rfl | rfl | rfl
  all_goals
    go_enter Tryd.func43, Tryd.ntmps43
    go_wp2
    go_ret
    exact ⟨rfl, 0, rfl⟩

end Go.Proofs.YtkajndonefkegaaDoor

namespace Go.Proofs.YtkajndonefkegaaDoor
open Go.RowKit Words

structure NumMet (off k e : Nat) (b S T V V' : Int) : Prop where
  h1 : IntKind.i64.wrap ((off : Int) + (k : Int)) = (e : Int)
  h2 : IntKind.u64.wrap b = b
  h3 : IntKind.i64.wrap ((k : Int) * 8) = S
  h4 : IntKind.u64.wrap (b * 2 ^ S.toNat) = T
  h5 : bits .or .u64 V T = V'
  h6 : (0 : Int) ≤ (e : Int)
  h7 : (e : Int) < 4096
  h8 : 0 ≤ S
  h9 : S < 64
theorem num_met (f : Nat -> BitVec 8) (off k : Nat) (hk : k < 8) (ho : off + k < 4096) : ∃ T, NumMet off k (off + k) ((f k).toNat : Int) ((k * 8 : Nat) : Int) T ((numB f k).toNat : Int) ((numB f (k + 1)).toNat : Int) := by
  refine ⟨(((f k).setWidth 64 <<< (8 * k)).toNat : Int), ⟨by rw [IntKind.wrap_i64]; omega, ?_, by rw [IntKind.wrap_i64]; omega, ?_, or_bv _ _, by omega, by omega, by omega, by omega⟩⟩
  · have := (f k).isLt
    rw [IntKind.wrap_u64]
    omega
  · rw [byte_up, Int.toNat_natCast, Nat.mul_comm k 8]
    exact shl_bv _ _
theorem bnumber_any (N o off n : Nat) (B : Nat -> BitVec 8) (s : BitVec 256) (hn : n ≤ 8) (ho : off + n ≤ 4096) (w : World) (h : PageAt w N o B s) :
    Calls Tryd.prog 56 #[.pointer (some ⟨N, o, none⟩), .int .i64 (off : Int), .int .i64 (n : Int)] w (Quiet (.int .u64 ((numB (fun i => B (off + i)) n).toNat : Int)) w) := by
  have HB := hide h.byte
  clear h
  have HM := hide (num_met (fun i => B (off + i)) off)
  go_enter Tryd.func56, Tryd.ntmps56
  go_wp2
  go_loopw [7, 10] (fun v i wr => ∃ k : Nat, k ≤ n /\ v = .int .u64 ((numB (fun i => B (off + i)) k).toNat : Int) /\ i = .int .i64 (k : Int) /\ wr = w) (fun _ i _ => n - (intOf i).toNat)
  case atStart => exact ⟨0, by omega, rfl, rfl, rfl⟩
  case round =>
    obtain ⟨k, hk, rfl, rfl, rfl⟩ := hrel
    by_cases hlt : k < n
    · obtain ⟨T, e1, e2, e3, e4, e5, e6, e7, e8, e9⟩ := HM.out k (by omega) (by omega)
      have hc := HB.out (off + k) (by omega)
      have hl : (k : Int) < (n : Int) := by omega
      unfold byI at hc
      generalize off + k = e at *
      obtain ⟨Y, hY⟩ : ∃ Y, ((numB (fun i => B (off + i)) (k + 1)).toNat : Int) = Y := ⟨_, rfl⟩
      have HY := hide hY
      rw [hY] at e5
      clear hY
      generalize ((numB (fun i => B (off + i)) k).toNat : Int) = V at *
      generalize ((B e).toNat : Int) = b at *
      generalize ((k * 8 : Nat) : Int) = S at *
      go_wp2
      go_roundw
      case rel => exact ⟨k + 1, by omega, by rw [HY.out], by go_num, by first | rfl | trivial⟩
      case measure => simp [intOf]; omega
    · have : k = n := by omega
      subst this
      go_wp2
      go_ret
      refine ⟨rfl, 0, ?_⟩
      first | rfl | trivial

theorem untag_any (N o : Nat) (g : Int) (B : Nat -> BitVec 8) (s : BitVec 256) (w : World) (h : PageAt w N o B s) :
    Calls Tryd.prog 77 #[.pointer (some ⟨N, o, none⟩), .int .i64 g] w fun e w' => e = .returned (.tuple #[]) /\ PageAt w' N o B (withS s g false) /\ Out N o w w' := by
  have HP := hide h
  have c0 := h.word 0 (by omega)
  have c1 := h.word 1 (by omega)
  have c2 := h.word 2 (by omega)
  have c3 := h.word 3 (by omega)
  have f0 := h.free 4096 (by omega)
  have f1 := h.free 4097 (by omega)
  have f2 := h.free 4098 (by omega)
  have f3 := h.free 4099 (by omega)
  have hN : ltB N w.heap.size = true := decide_eq_true h.here
  clear h
  have C1 := hide (fun W => with_any s g false W)
  have HT := hide (fun W => @pg_tags W N o B s (withS s g false))
  generalize withS s g false = t at *
  generalize ((wd s 0).toNat : Int) = A0 at *
  generalize ((wd s 1).toNat : Int) = A1 at *
  generalize ((wd s 2).toNat : Int) = A2 at *
  generalize ((wd s 3).toNat : Int) = A3 at *
  generalize ((wd t 0).toNat : Int) = T0 at *
  generalize ((wd t 1).toNat : Int) = T1 at *
  generalize ((wd t 2).toNat : Int) = T2 at *
  generalize ((wd t 3).toNat : Int) = T3 at *
  obtain ⟨SS, LB', LS, LA', LH⟩ := rules5
  go_enter Tryd.func77, Tryd.ntmps77
  go_wp2_with (first | (go_at_call 86; (with_reducible refine (C1.out _).mono ?_); rintro e w1 ⟨rfl, hb1⟩; obtain ⟨hr1, hh1, m1, hs1⟩ := bl_all hb1))
  refine bodyPost_end (v := .tuple #[]) (by simp (maxDischargeDepth := 4) [results, Tryd.results77, go_sem, *]) rfl ?_
  refine ⟨rfl, ?_, ?_⟩
  · exact HT.out _ (pg_be hb1 HP.out)
  · repeat (with_reducible first | assumption | exact Out.refl _ _ _ | refine out_dr _ ?_ | refine out_d1 ?_ | refine out_al _ ?_ | (refine out_new _ ?_ ?_; focus (dsimp only; omega)) | (refine out_in _ ?_ ?_ ?_; (focus omega); (focus omega)) | (apply out_be; assumption))

def putB (B : Nat -> BitVec 8) (off : Nat) (v : BitVec 64) (k : Nat) : Nat -> BitVec 8 := fun j => if off ≤ j /\ j < off + k then by8 v (j - off) else B j
theorem putB_zero (B : Nat -> BitVec 8) (off : Nat) (v : BitVec 64) : putB B off v 0 = B := by
  funext j
  unfold putB
  rw [if_neg (by omega)]
theorem putB_succ (B : Nat -> BitVec 8) (off : Nat) (v : BitVec 64) (k : Nat) : updB (putB B off v k) (off + k) (by8 v k) = putB B off v (k + 1) := by
  funext j
  unfold updB putB
  by_cases h : j = off + k
  · subst h
    rw [if_pos rfl, if_pos (by omega), show off + k - off = k by omega]
  · rw [if_neg h]
    by_cases h2 : off ≤ j /\ j < off + k
    · rw [if_pos h2, if_pos (by omega)]
    · rw [if_neg h2, if_neg (by omega)]
structure PutMet (off k e : Nat) (V S T b : Int) : Prop where
  h1 : IntKind.i64.wrap ((off : Int) + (k : Int)) = (e : Int)
  h3 : IntKind.i64.wrap ((k : Int) * 8) = S
  h4 : V / 2 ^ S.toNat = T
  h5 : IntKind.u8.wrap T = b
  h6 : (0 : Int) ≤ (e : Int)
  h7 : (e : Int) < 4096
  h8 : 0 ≤ S
  h9 : S < 64
theorem put_met (v : BitVec 64) (off k : Nat) (hk : k < 8) (ho : off + k < 4096) : ∃ T, PutMet off k (off + k) (v.toNat : Int) ((k * 8 : Nat) : Int) T ((by8 v k).toNat : Int) := by
  refine ⟨((v >>> (8 * k)).toNat : Int), ⟨by rw [IntKind.wrap_i64]; omega, by rw [IntKind.wrap_i64]; omega, ?_, u8_bv _, by omega, by omega, by omega, by omega⟩⟩
  rw [Int.toNat_natCast, Nat.mul_comm k 8]
  exact shr_bv _ _
theorem bput_any (N o off n : Nat) (G : Int) (v : BitVec 64) (B : Nat -> BitVec 8) (s : BitVec 256) (hn : n ≤ 8) (ho : off + n ≤ 4096) (hG : (off : Int) / 16 = G) (hG2 : (off : Int).tdiv 16 = G) (w : World) (h : PageAt w N o B s) :
    Calls Tryd.prog 44 #[.pointer (some ⟨N, o, none⟩), .int .i64 (off : Int), .int .i64 (n : Int), .int .u64 (v.toNat : Int)] w fun e w' => e = .returned (.tuple #[]) /\ PageAt w' N o (putB B off v n) (withS s G false) /\ Out N o w w' := by
  have HP := hide h
  clear h
  have HM := hide (put_met v off)
  have H0 := hide (putB_zero B off v)
  have H1 := hide (putB_succ B off v)
  have C1 := hide (fun W => untag_any N o G (putB B off v n) s W)
  go_enter Tryd.func44, Tryd.ntmps44
  go_wp2
  go_loopw [10] (fun i wr => ∃ k : Nat, k ≤ n /\ i = .int .i64 (k : Int) /\ PageAt wr N o (putB B off v k) s /\ Out N o w wr) (fun i _ => n - (intOf i).toNat)
  case atStart => exact ⟨0, by omega, rfl, by rw [H0.out]; exact HP.out, Out.refl _ _ _⟩
  case round =>
    obtain ⟨k, hk, rfl, hP, hO⟩ := hrel
    by_cases hlt : k < n
    · obtain ⟨T, e1, e3, e4, e5, e6, e7, e8, e9⟩ := HM.out k (by omega) (by omega)
      have hc := hP.byte (off + k) (by omega)
      have hf := hP.free (off + k) (by omega)
      have HQ := hide (fun b => pg_byte (b := b) (k := off + k) (by omega) hP)
      have HR := hide hO
      clear hP hO
      have hl : (k : Int) < (n : Int) := by omega
      have HE := hide (H1.out k)
      have HL : Hid (off + k < 4096) := hide (by omega)
      unfold byI at hc
      obtain ⟨bb, hbb⟩ : ∃ b, ((by8 v k).toNat : Int) = b := ⟨_, rfl⟩
      have HY := hide hbb
      rw [hbb] at e5
      clear hbb
      generalize off + k = e at *
      generalize ((putB B off v k e).toNat : Int) = old at *
      generalize ((k * 8 : Nat) : Int) = S at *
      generalize (v.toNat : Int) = V at *
      go_wp2
      go_region
      go_wp2
      go_roundw
      case rel =>
        refine ⟨k + 1, by omega, by go_num, ?_, ?_⟩
        · rw [← HE.out]
          have h := HQ.out (by8 v k)
          unfold byI at h
          rw [HY.out] at h
          repeat (with_reducible first | assumption | refine pg_dr _ ?_ | refine pg_d1 ?_ | refine pg_al _ ?_ | (refine pg_set ?_ ?_; focus (dsimp only; omega)) | (apply pg_be; assumption))
        · have hO := HR.out; have hl := HL.out; repeat (with_reducible first | assumption | exact Out.refl _ _ _ | refine out_dr _ ?_ | refine out_d1 ?_ | refine out_al _ ?_ | (refine out_new _ ?_ ?_; focus (dsimp only; omega)) | (refine out_in _ ?_ ?_ ?_; (focus omega); (focus omega)) | (apply out_be; assumption))
      case measure => simp [intOf]; omega
    · have : k = n := by omega
      subst this
      have HR := hide hO
      go_wp2_with (first | (go_at_call 77; (with_reducible refine (C1.out _ ?_).mono ?_); (focus (repeat (with_reducible first | assumption | refine pg_dr _ ?_ | refine pg_d1 ?_ | refine pg_al _ ?_ | (refine pg_set ?_ ?_; focus (dsimp only; omega)) | (apply pg_be; assumption)))); rintro e w' ⟨rfl, hq, ho'⟩))
      refine bodyPost_end (v := .tuple #[]) (by simp (maxDischargeDepth := 4) [results, Tryd.results44, go_sem, *]) rfl ?_
      exact ⟨rfl, hq, HR.out.trans ho'⟩
end Go.Proofs.YtkajndonefkegaaDoor

namespace Go.Proofs.YtkajndonefkegaaDoor
open Go.RowKit Words

theorem frames_n (R N C : Nat) (w : World) (h : w.cell? ⟨R, 0, none⟩ = some (.slice (some ⟨N, 0, none⟩) C C)) : Calls Tryd.prog 76 #[.pointer (some ⟨R, 0, none⟩)] w (Quiet (.int .i64 (C : Int)) w) := by
  go_enter Tryd.func76, Tryd.ntmps76
  go_wp2
  go_ret
  exact ⟨rfl, 0, rfl⟩

theorem findn_1 (R N p C : Nat) (A O : Int) (hp : p < C) (_hC : ((C : Int) == 0) = false) (_hW : IntKind.u64.wrap (C : Int) = (C : Int)) (_h0 : 0 ≤ A) (_hk : ¬ ((C : Int) ≤ (p : Int))) (_h1 : (p : Int) < (C : Int)) (_h2 : 0 ≤ (p : Int)) (_hA : A / 4096 = (p : Int)) (_hq : IntKind.u64.wrap (A.tdiv 4096) = (p : Int)) (_hO : A % 4096 = O) (_hw : RowKit.wrap64 O = O) (_hn : A % 1 = 0) (w : World) (h : w.cell? ⟨R, 0, none⟩ = some (.slice (some ⟨N, 0, none⟩) C C)) : Calls Tryd.prog 42 #[.pointer (some ⟨R, 0, none⟩), .int .u64 A, .int .i64 1, .bool true] w (Quiet (.tuple #[.pointer (some ⟨N, p * 4100, none⟩), .int .i64 O, .int .i64 0]) w) := by
  have C1 := hide (frames_n R N C)
  go_enter Tryd.func42, Tryd.ntmps42
  go_wp2_with (first | (go_at_call 76; (with_reducible refine (C1.out _ ?_).mono ?_); (focus (repeat (with_reducible first | assumption | refine c_dr _ ?_ | refine c_d1 ?_ | refine c_al _ ?_ | (refine c_set ?_ ?_; focus (dsimp only; omega)) | (apply c_be; assumption)))); rintro e w' ⟨rfl, n1, rfl⟩))
  refine bodyPost_ret (v := .tuple #[.pointer (some ⟨N, p * 4100, none⟩), .int .i64 O, .int .i64 0]) (by simp (maxDischargeDepth := 4) [results, Tryd.results42, go_sem, *]) rfl ?_
  exact ⟨rfl, _, rfl⟩

theorem findn_2 (R N p C : Nat) (A O : Int) (hp : p < C) (_hC : ((C : Int) == 0) = false) (_hW : IntKind.u64.wrap (C : Int) = (C : Int)) (_h0 : 0 ≤ A) (_hk : ¬ ((C : Int) ≤ (p : Int))) (_h1 : (p : Int) < (C : Int)) (_h2 : 0 ≤ (p : Int)) (_hA : A / 4096 = (p : Int)) (_hq : IntKind.u64.wrap (A.tdiv 4096) = (p : Int)) (_hO : A % 4096 = O) (_hw : RowKit.wrap64 O = O) (_hn : A % 2 = 0) (w : World) (h : w.cell? ⟨R, 0, none⟩ = some (.slice (some ⟨N, 0, none⟩) C C)) : Calls Tryd.prog 42 #[.pointer (some ⟨R, 0, none⟩), .int .u64 A, .int .i64 2, .bool true] w (Quiet (.tuple #[.pointer (some ⟨N, p * 4100, none⟩), .int .i64 O, .int .i64 0]) w) := by
  have C1 := hide (frames_n R N C)
  go_enter Tryd.func42, Tryd.ntmps42
  go_wp2_with (first | (go_at_call 76; (with_reducible refine (C1.out _ ?_).mono ?_); (focus (repeat (with_reducible first | assumption | refine c_dr _ ?_ | refine c_d1 ?_ | refine c_al _ ?_ | (refine c_set ?_ ?_; focus (dsimp only; omega)) | (apply c_be; assumption)))); rintro e w' ⟨rfl, n1, rfl⟩))
  refine bodyPost_ret (v := .tuple #[.pointer (some ⟨N, p * 4100, none⟩), .int .i64 O, .int .i64 0]) (by simp (maxDischargeDepth := 4) [results, Tryd.results42, go_sem, *]) rfl ?_
  exact ⟨rfl, _, rfl⟩

theorem findn_4 (R N p C : Nat) (A O : Int) (hp : p < C) (_hC : ((C : Int) == 0) = false) (_hW : IntKind.u64.wrap (C : Int) = (C : Int)) (_h0 : 0 ≤ A) (_hk : ¬ ((C : Int) ≤ (p : Int))) (_h1 : (p : Int) < (C : Int)) (_h2 : 0 ≤ (p : Int)) (_hA : A / 4096 = (p : Int)) (_hq : IntKind.u64.wrap (A.tdiv 4096) = (p : Int)) (_hO : A % 4096 = O) (_hw : RowKit.wrap64 O = O) (_hn : A % 4 = 0) (w : World) (h : w.cell? ⟨R, 0, none⟩ = some (.slice (some ⟨N, 0, none⟩) C C)) : Calls Tryd.prog 42 #[.pointer (some ⟨R, 0, none⟩), .int .u64 A, .int .i64 4, .bool true] w (Quiet (.tuple #[.pointer (some ⟨N, p * 4100, none⟩), .int .i64 O, .int .i64 0]) w) := by
  have C1 := hide (frames_n R N C)
  go_enter Tryd.func42, Tryd.ntmps42
  go_wp2_with (first | (go_at_call 76; (with_reducible refine (C1.out _ ?_).mono ?_); (focus (repeat (with_reducible first | assumption | refine c_dr _ ?_ | refine c_d1 ?_ | refine c_al _ ?_ | (refine c_set ?_ ?_; focus (dsimp only; omega)) | (apply c_be; assumption)))); rintro e w' ⟨rfl, n1, rfl⟩))
  refine bodyPost_ret (v := .tuple #[.pointer (some ⟨N, p * 4100, none⟩), .int .i64 O, .int .i64 0]) (by simp (maxDischargeDepth := 4) [results, Tryd.results42, go_sem, *]) rfl ?_
  exact ⟨rfl, _, rfl⟩

theorem findn_8 (R N p C : Nat) (A O : Int) (hp : p < C) (_hC : ((C : Int) == 0) = false) (_hW : IntKind.u64.wrap (C : Int) = (C : Int)) (_h0 : 0 ≤ A) (_hk : ¬ ((C : Int) ≤ (p : Int))) (_h1 : (p : Int) < (C : Int)) (_h2 : 0 ≤ (p : Int)) (_hA : A / 4096 = (p : Int)) (_hq : IntKind.u64.wrap (A.tdiv 4096) = (p : Int)) (_hO : A % 4096 = O) (_hw : RowKit.wrap64 O = O) (_hn : A % 8 = 0) (w : World) (h : w.cell? ⟨R, 0, none⟩ = some (.slice (some ⟨N, 0, none⟩) C C)) : Calls Tryd.prog 42 #[.pointer (some ⟨R, 0, none⟩), .int .u64 A, .int .i64 8, .bool true] w (Quiet (.tuple #[.pointer (some ⟨N, p * 4100, none⟩), .int .i64 O, .int .i64 0]) w) := by
  have C1 := hide (frames_n R N C)
  go_enter Tryd.func42, Tryd.ntmps42
  go_wp2_with (first | (go_at_call 76; (with_reducible refine (C1.out _ ?_).mono ?_); (focus (repeat (with_reducible first | assumption | refine c_dr _ ?_ | refine c_d1 ?_ | refine c_al _ ?_ | (refine c_set ?_ ?_; focus (dsimp only; omega)) | (apply c_be; assumption)))); rintro e w' ⟨rfl, n1, rfl⟩))
  refine bodyPost_ret (v := .tuple #[.pointer (some ⟨N, p * 4100, none⟩), .int .i64 O, .int .i64 0]) (by simp (maxDischargeDepth := 4) [results, Tryd.results42, go_sem, *]) rfl ?_
  exact ⟨rfl, _, rfl⟩

theorem findn_16 (R N p C : Nat) (A O : Int) (hp : p < C) (_hC : ((C : Int) == 0) = false) (_hW : IntKind.u64.wrap (C : Int) = (C : Int)) (_h0 : 0 ≤ A) (_hk : ¬ ((C : Int) ≤ (p : Int))) (_h1 : (p : Int) < (C : Int)) (_h2 : 0 ≤ (p : Int)) (_hA : A / 4096 = (p : Int)) (_hq : IntKind.u64.wrap (A.tdiv 4096) = (p : Int)) (_hO : A % 4096 = O) (_hw : RowKit.wrap64 O = O) (_hn : A % 16 = 0) (w : World) (h : w.cell? ⟨R, 0, none⟩ = some (.slice (some ⟨N, 0, none⟩) C C)) : Calls Tryd.prog 42 #[.pointer (some ⟨R, 0, none⟩), .int .u64 A, .int .i64 16, .bool true] w (Quiet (.tuple #[.pointer (some ⟨N, p * 4100, none⟩), .int .i64 O, .int .i64 0]) w) := by
  have C1 := hide (frames_n R N C)
  go_enter Tryd.func42, Tryd.ntmps42
  go_wp2_with (first | (go_at_call 76; (with_reducible refine (C1.out _ ?_).mono ?_); (focus (repeat (with_reducible first | assumption | refine c_dr _ ?_ | refine c_d1 ?_ | refine c_al _ ?_ | (refine c_set ?_ ?_; focus (dsimp only; omega)) | (apply c_be; assumption)))); rintro e w' ⟨rfl, n1, rfl⟩))
  refine bodyPost_ret (v := .tuple #[.pointer (some ⟨N, p * 4100, none⟩), .int .i64 O, .int .i64 0]) (by simp (maxDischargeDepth := 4) [results, Tryd.results42, go_sem, *]) rfl ?_
  exact ⟨rfl, _, rfl⟩

def updP {α : Type} (f : Nat -> α) (p : Nat) (x : α) : Nat -> α := fun j => if j = p then x else f j
structure Mem (W : World) (R N C : Nat) (B : Nat -> Nat -> BitVec 8) (S : Nat -> BitVec 256) : Prop where
  ram : W.cell? ⟨R, 0, none⟩ = some (.slice (some ⟨N, 0, none⟩) C C)
  ne : R ≠ N
  page : ∀ p, p < C -> PageAt W N (p * 4100) (B p) (S p)
theorem mem_dr {W : World} {R N C : Nat} {B : Nat -> Nat -> BitVec 8} {S : Nat -> BitVec 256} (n : Nat) (h : Mem W R N C B S) : Mem (W.drewN n) R N C B S := ⟨h.ram, h.ne, fun p hp => pg_dr n (h.page p hp)⟩
theorem mem_d1 {W : World} {R N C : Nat} {B : Nat -> Nat -> BitVec 8} {S : Nat -> BitVec 256} (h : Mem W R N C B S) : Mem W.drew R N C B S := ⟨h.ram, h.ne, fun p hp => pg_d1 (h.page p hp)⟩
theorem mem_be {W W' : World} {R N C : Nat} {B : Nat -> Nat -> BitVec 8} {S : Nat -> BitVec 256} (hb : Below W.heap.size W W') (h : Mem W R N C B S) : Mem W' R N C B S := ⟨c_be hb h.ram, h.ne, fun p hp => pg_be hb (h.page p hp)⟩
theorem mem_set {W : World} {R N C : Nat} {B : Nat -> Nat -> BitVec 8} {S : Nat -> BitVec 256} {p : Addr} {u : Value} (h1 : p.block ≠ N) (h2 : p.block ≠ R) (h : Mem W R N C B S) : Mem (W.setCell p u) R N C B S := ⟨c_set h2 h.ram, h.ne, fun q hq => pg_set h1 (h.page q hq)⟩
theorem mem_out {w w' : World} {R N p C : Nat} {B : Nat -> Nat -> BitVec 8} {S : Nat -> BitVec 256} {B' : Nat -> BitVec 8} {s' : BitVec 256} (h : Mem w R N C B S) (hp : p < C) (hq : PageAt w' N (p * 4100) B' s') (ho : Out N (p * 4100) w w') : Mem w' R N C (updP B p B') (updP S p s') := by
  refine ⟨ho.reads h.ne h.ram, h.ne, fun j hj => ?_⟩
  unfold updP
  by_cases e : j = p
  · subst e
    rw [if_pos rfl, if_pos rfl]
    exact hq
  · rw [if_neg e, if_neg e]
    exact pg_out ho (by omega) (h.page j hj)

theorem page_size : (Tryd.prog.info? 150).map (fun i => (i.size, i.bytes)) = some (4100, 4128) := by kernel_rfl
theorem page_zero : ((Tryd.prog.info? 150).bind (·.zero)).map (fun z => z.cells.toList) = some (List.replicate 4096 (.int .u8 0) ++ List.replicate 4 (.int .u64 0)) := by kernel_rfl
theorem pages_slice : Tryd.prog.underlying 131 = some (.slice 150) := by kernel_rfl
structure Zeros (C : Nat) (Z : Array Value) : Prop where
  byte : ∀ p k, p < C -> k < 4096 -> Z[p * 4100 + k]? = some (.int .u8 0)
  word : ∀ p q, p < C -> q < 4 -> Z[p * 4100 + 4096 + q]? = some (.int .u64 0)
theorem zeros_of {z : Array Value} {a b C : Nat} (ha : a = 4096) (hb : b = 4) (h2 : z.toList = List.replicate a (.int .u8 0) ++ List.replicate b (.int .u64 0)) : Zeros C (madeCells z (C * 4100)) := by
  have hsz : z.size = 4100 := by rw [← Array.length_toList, h2]; simp; omega
  have hat : ∀ j, j < C * 4100 -> (madeCells z (C * 4100))[j]? = z.toList[j % 4100]? := fun j hj => by
    have hm : j % 4100 < z.size := by omega
    simp [madeCells, hj, hsz]
    rw [Array.getElem?_eq_getElem hm]
    simp [hm]
  constructor
  · intro p k hp hk
    rw [hat _ (by omega), h2, show (p * 4100 + k) % 4100 = k by omega, List.getElem?_append_left (by simp; omega)]
    simp [show k < a by omega]
  · intro p q hp hq
    rw [hat _ (by omega), h2, show (p * 4100 + 4096 + q) % 4100 = a + q by omega, List.getElem?_append_right (by simp)]
    simp [show q < b by omega]
theorem make_n (C : Nat) (hC : C ≤ 64) : ∃ Z, Zeros C Z /\ ∀ W, (Instr.makeSlice 131 (.int .i64 (C : Int)) (.int .i64 (C : Int))).run Tryd.prog W = .ok (.slice (some ⟨W.heap.size, 0, none⟩) C C) (W.alloc (.cells Z 150)) := by
  obtain ⟨z, hz0, hl⟩ := Option.map_eq_some_iff.1 page_zero
  obtain ⟨i, hi, hz⟩ := Option.bind_eq_some_iff.1 hz0
  have h1 := page_size
  rw [hi] at h1
  have hs : i.size = 4100 := congrArg (fun x : Option (Nat × Nat) => (x.getD (0, 0)).1) h1
  have hb : i.bytes = 4128 := congrArg (fun x : Option (Nat × Nat) => (x.getD (0, 0)).2) h1
  refine ⟨madeCells z.cells (C * 4100), zeros_of rfl rfl hl, fun W => ?_⟩
  have hr := run_make (P := Tryd.prog) W 131 150 i z pages_slice hi hz .i64 .i64 C C (by omega) (by omega) (by rw [hb]; omega) (by omega)
  rw [hs] at hr
  exact hr
theorem pages_new {W : World} {C : Nat} {Z : Array Value} {t : TypeId} (hC : Zeros C Z) (p : Nat) (hp : p < C) : PageAt (W.alloc (.cells Z t)) W.heap.size (p * 4100) (fun _ => 0#8) 0#256 := by
  have hw : ∀ q, ((wd 0#256 q).toNat : Int) = 0 := fun q => by simp [wd]
  refine ⟨fun k hk => ?_, fun q hq => ?_, fun k _ => ?_⟩
  · simp [go_sem, hC.byte p k hp hk, byI]
  · simp [go_sem, hC.word p q hp hq, hw]
  · simp [go_sem]
theorem new_let (C : Nat) (Z : Array Value) (HC : Hid (Zeros C Z)) (hM : ∀ W, (Instr.makeSlice 131 (.int .i64 (C : Int)) (.int .i64 (C : Int))).run Tryd.prog W = .ok (.slice (some ⟨W.heap.size, 0, none⟩) C C) (W.alloc (.cells Z 150))) (_h1 : decide ((C : Int) < 1) = false) (_h2 : decide (64 < (C : Int)) = false) (w : World) :
    Calls Tryd.prog 27 #[.int .i64 (C : Int)] w fun e w' => e = .returned (.tuple #[.pointer (some ⟨w.heap.size + 1, 0, none⟩), .int .i64 0]) /\ Mem w' (w.heap.size + 1) w.heap.size C (fun _ _ => 0#8) (fun _ => 0#256) /\ Below w.heap.size w w' /\ w'.heap.size = w.heap.size + 2 := by
  go_enter Tryd.func27, Tryd.ntmps27
  go_wp2
  refine bodyPost_ret (v := .tuple #[.pointer (some ⟨w.heap.size + 1, 0, none⟩), .int .i64 0]) (by simp (maxDischargeDepth := 4) [results, Tryd.results27, go_sem, *]) rfl ?_
  refine ⟨rfl, ⟨by simp [go_sem], by omega, fun p hp => pg_al _ (pages_new HC.out p hp)⟩, ?_, by simp⟩
  repeat (with_reducible first | assumption | exact Below.refl _ _ | refine Below.drew ?_ | refine below_drewN ?_ _ | refine bw_alloc ?_ _ | (refine bw_set ?_ ?_ _; focus (dsimp only; omega)) | (apply bw_behind; assumption))
theorem new_n (C : Nat) (h0 : 1 ≤ C) (hC : C ≤ 64) (w : World) : Calls Tryd.prog 27 #[.int .i64 (C : Int)] w fun e w' => e = .returned (.tuple #[.pointer (some ⟨w.heap.size + 1, 0, none⟩), .int .i64 0]) /\ Mem w' (w.heap.size + 1) w.heap.size C (fun _ _ => 0#8) (fun _ => 0#256) /\ Below w.heap.size w w' /\ w'.heap.size = w.heap.size + 2 := by
  obtain ⟨Z, hZ, hM⟩ := make_n C hC
  exact new_let C Z (hide hZ) hM (decide_eq_false (by omega)) (decide_eq_false (by omega)) w

structure At (A p off n C : Nat) : Prop where
  h1 : A = p * 4096 + off
  h2 : p < C
  h3 : off < 4096
  h4 : off % n = 0
  h5 : n = 1 ∨ n = 2 ∨ n = 4 ∨ n = 8 ∨ n = 16
  h6 : C ≤ 64
theorem At.fits {A p off n C : Nat} (h : At A p off n C) : off + n ≤ 4096 := by
  obtain ⟨h1, h2, h3, h4, h5, _⟩ := h
  rcases h5 with rfl | rfl | rfl | rfl | rfl <;> omega
theorem found {A p off n C : Nat} (h : At A p off n C) (R N : Nat) (w : World) (hc : w.cell? ⟨R, 0, none⟩ = some (.slice (some ⟨N, 0, none⟩) C C)) : Calls Tryd.prog 42 #[.pointer (some ⟨R, 0, none⟩), .int .u64 (A : Int), .int .i64 (n : Int), .bool true] w (Quiet (.tuple #[.pointer (some ⟨N, p * 4100, none⟩), .int .i64 (off : Int), .int .i64 0]) w) := by
  obtain ⟨h1, h2, h3, h4, h5, h6⟩ := h
  have hw : RowKit.wrap64 (off : Int) = (off : Int) := by unfold RowKit.wrap64; omega
  have hu : IntKind.u64.wrap (C : Int) = (C : Int) := by rw [IntKind.wrap_u64]; omega
  have hz : ((C : Int) == 0) = false := by simp; omega
  have hq : IntKind.u64.wrap ((A : Int).tdiv 4096) = (p : Int) := by rw [IntKind.wrap_u64, Int.tdiv_eq_ediv_of_nonneg (by omega)]; omega
  rcases h5 with rfl | rfl | rfl | rfl | rfl
  · exact findn_1 R N p C _ _ h2 hz hu (by omega) (by omega) (by omega) (by omega) (by omega) hq (by omega) hw (by omega) w hc
  · exact findn_2 R N p C _ _ h2 hz hu (by omega) (by omega) (by omega) (by omega) (by omega) hq (by omega) hw (by omega) w hc
  · exact findn_4 R N p C _ _ h2 hz hu (by omega) (by omega) (by omega) (by omega) (by omega) hq (by omega) hw (by omega) w hc
  · exact findn_8 R N p C _ _ h2 hz hu (by omega) (by omega) (by omega) (by omega) (by omega) hq (by omega) hw (by omega) w hc
  · exact findn_16 R N p C _ _ h2 hz hu (by omega) (by omega) (by omega) (by omega) (by omega) hq (by omega) hw (by omega) w hc
theorem load_let (R N C o : Nat) (A O n X : Int) (B : Nat -> BitVec 8) (s : BitVec 256) (c1 : ∀ W, Calls Tryd.prog 43 #[.int .i64 n] W (Quiet (.bool true) W)) (c2 : ∀ W, W.cell? ⟨R, 0, none⟩ = some (.slice (some ⟨N, 0, none⟩) C C) -> Calls Tryd.prog 42 #[.pointer (some ⟨R, 0, none⟩), .int .u64 A, .int .i64 n, .bool true] W (Quiet (.tuple #[.pointer (some ⟨N, o, none⟩), .int .i64 O, .int .i64 0]) W))
    (c3 : ∀ W, PageAt W N o B s -> Calls Tryd.prog 56 #[.pointer (some ⟨N, o, none⟩), .int .i64 O, .int .i64 n] W (Quiet (.int .u64 X) W)) (w : World) (hc : w.cell? ⟨R, 0, none⟩ = some (.slice (some ⟨N, 0, none⟩) C C)) (hp : PageAt w N o B s) :
    Calls Tryd.prog 23 #[.pointer (some ⟨R, 0, none⟩), .int .u64 A, .int .i64 n] w (Quiet (.tuple #[.int .u64 X, .int .i64 0]) w) := by
  have C1 := hide c1
  have C2 := hide c2
  have C3 := hide c3
  clear c1 c2 c3
  go_enter Tryd.func23, Tryd.ntmps23
  go_wp2_with (first | (go_at_call 43; (with_reducible refine (C1.out _).mono ?_); rintro e w' ⟨rfl, n1, rfl⟩) | (go_at_call 42; (with_reducible refine (C2.out _ ?_).mono ?_); (focus (repeat (with_reducible first | assumption | refine c_dr _ ?_ | refine c_d1 ?_ | refine c_al _ ?_ | (refine c_set ?_ ?_; focus (dsimp only; omega)) | (apply c_be; assumption)))); rintro e w' ⟨rfl, n2, rfl⟩) | (go_at_call 56; (with_reducible refine (C3.out _ ?_).mono ?_); (focus (repeat (with_reducible first | assumption | refine pg_dr _ ?_ | refine pg_d1 ?_ | refine pg_al _ ?_ | (refine pg_set ?_ ?_; focus (dsimp only; omega)) | (apply pg_be; assumption)))); rintro e w' ⟨rfl, n3, rfl⟩))
  refine bodyPost_ret (v := .tuple #[.int .u64 X, .int .i64 0]) (by simp (maxDischargeDepth := 4) [results, Tryd.results23, go_sem, *]) rfl ?_
  exact ⟨rfl, _, rfl⟩
theorem load_any {A p off n C : Nat} (h : At A p off n C) (hn : n ≤ 8) (R N : Nat) (B : Nat -> Nat -> BitVec 8) (S : Nat -> BitVec 256) (w : World) (hm : Mem w R N C B S) : Calls Tryd.prog 23 #[.pointer (some ⟨R, 0, none⟩), .int .u64 (A : Int), .int .i64 (n : Int)] w (Quiet (.tuple #[.int .u64 ((numB (fun i => B p (off + i)) n).toNat : Int), .int .i64 0]) w) :=
  load_let R N C (p * 4100) _ _ _ _ (B p) (S p) (fun W => size_yes _ (by have := h.h5; omega) W) (fun W hc => found h R N W hc) (fun W hp => bnumber_any N (p * 4100) off n (B p) (S p) hn h.fits W hp) w hm.ram (hm.page p h.h2)

theorem store_let (R N C o : Nat) (A O n V : Int) (B B' : Nat -> BitVec 8) (s s' : BitVec 256) (c1 : ∀ W, Calls Tryd.prog 43 #[.int .i64 n] W (Quiet (.bool true) W)) (c2 : ∀ W, W.cell? ⟨R, 0, none⟩ = some (.slice (some ⟨N, 0, none⟩) C C) -> Calls Tryd.prog 42 #[.pointer (some ⟨R, 0, none⟩), .int .u64 A, .int .i64 n, .bool true] W (Quiet (.tuple #[.pointer (some ⟨N, o, none⟩), .int .i64 O, .int .i64 0]) W))
    (c3 : ∀ W, PageAt W N o B s -> Calls Tryd.prog 44 #[.pointer (some ⟨N, o, none⟩), .int .i64 O, .int .i64 n, .int .u64 V] W fun e w' => e = .returned (.tuple #[]) /\ PageAt w' N o B' s' /\ Out N o W w') (w : World) (hc : w.cell? ⟨R, 0, none⟩ = some (.slice (some ⟨N, 0, none⟩) C C)) (hp : PageAt w N o B s) :
    Calls Tryd.prog 11 #[.pointer (some ⟨R, 0, none⟩), .int .u64 A, .int .i64 n, .int .u64 V] w fun e w' => e = .returned (.int .i64 0) /\ PageAt w' N o B' s' /\ Out N o w w' := by
  have C1 := hide c1
  have C2 := hide c2
  have C3 := hide c3
  clear c1 c2 c3
  go_enter Tryd.func11, Tryd.ntmps11
  go_wp2_with (first | (go_at_call 43; (with_reducible refine (C1.out _).mono ?_); rintro e w' ⟨rfl, n1, rfl⟩) | (go_at_call 42; (with_reducible refine (C2.out _ ?_).mono ?_); (focus (repeat (with_reducible first | assumption | refine c_dr _ ?_ | refine c_d1 ?_ | refine c_al _ ?_ | (refine c_set ?_ ?_; focus (dsimp only; omega)) | (apply c_be; assumption)))); rintro e w' ⟨rfl, n2, rfl⟩) | (go_at_call 44; (with_reducible refine (C3.out _ ?_).mono ?_); (focus (repeat (with_reducible first | assumption | refine pg_dr _ ?_ | refine pg_d1 ?_ | refine pg_al _ ?_ | (refine pg_set ?_ ?_; focus (dsimp only; omega)) | (apply pg_be; assumption)))); rintro e w3 ⟨rfl, hq, ho⟩))
  refine bodyPost_ret (v := .int .i64 0) (by simp (maxDischargeDepth := 4) [results, Tryd.results11, go_sem, *]) rfl ?_
  exact ⟨rfl, hq, (out_dr _ (Out.refl _ _ _)).trans ho⟩
def lessT (s : BitVec 256) (off : Nat) : BitVec 256 := withS s ((off / 16 : Nat) : Int) false
theorem store_any {A p off n C : Nat} (h : At A p off n C) (hn : n ≤ 8) (v : BitVec 64) (R N : Nat) (B : Nat -> Nat -> BitVec 8) (S : Nat -> BitVec 256) (w : World) (hm : Mem w R N C B S) : Calls Tryd.prog 11 #[.pointer (some ⟨R, 0, none⟩), .int .u64 (A : Int), .int .i64 (n : Int), .int .u64 (v.toNat : Int)] w fun e w' => e = .returned (.int .i64 0) /\ Mem w' R N C (updP B p (putB (B p) off v n)) (updP S p (lessT (S p) off)) /\ Out N (p * 4100) w w' :=
  (store_let R N C (p * 4100) _ _ _ _ (B p) (putB (B p) off v n) (S p) (lessT (S p) off) (fun W => size_yes _ (by have := h.h5; omega) W) (fun W hc => found h R N W hc) (fun W hp => bput_any N (p * 4100) off n ((off / 16 : Nat) : Int) v (B p) (S p) hn h.fits (by omega) (by rw [Int.tdiv_eq_ediv_of_nonneg (by omega)]; omega) W hp) w hm.ram (hm.page p h.h2)).mono fun _ _ ⟨he, hq, ho⟩ => ⟨he, mem_out hm h.h2 hq ho, ho⟩
end Go.Proofs.YtkajndonefkegaaDoor
