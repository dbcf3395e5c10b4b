/-
  Texts laid one behind the other: Mtb4d, Mtb4f, Mtb5.
-/
import Derived.Test.YtkajndonefkegaaDoorMtb3d
import Derived.Test.YtkajndonefkegaaDoorGMtb
import Derived.Test.YtkajndonefkegaaDoorMtb3f
import Derived.Test.YtkajndonefkegaaDoorGMtbC
set_option maxRecDepth 100000
set_option maxHeartbeats 64000000
namespace Go.Proofs.YtkajndonefkegaaDoor
open Go.RowKit

theorem del_any_d (g : Ln -> Bool) (ba bn : Nat) (a n : Int) (KC : ∀ (l : Ln) (W : World), W.cell? ⟨ba, 0, none⟩ = some (.int .u64 a) -> W.cell? ⟨bn, 0, none⟩ = some (.int .u64 n) -> Calls Tryd.prog 51 #[.agg #[.int .u64 l.1, .int .u64 l.2.1, .bool l.2.2.e0, .bool l.2.2.e1, .bool l.2.2.e2, .bool l.2.2.e3, .bool l.2.2.e4, .bool l.2.2.e5, .bool l.2.2.e6, .bool l.2.2.e7, .bool l.2.2.e8, .bool l.2.2.e9, .bool l.2.2.e10, .bool l.2.2.e11, .int .u64 l.2.2.f, .int .u64 l.2.2.a], .pointer (some ⟨ba, 0, none⟩), .pointer (some ⟨bn, 0, none⟩)] W (Makes (.bool (g l)) W)) (N q : Nat) (hq : q < 4) (L : List Ln) (hL : L.length ≤ 2) (w : World) (R : Nat -> Ln) (F : Nat -> Nat) (hR : ∀ j l, L[j]? = some l -> R (2 * q + j) = l) (hT : TlbAt w N R F) (g0 : w.cell? ⟨ba, 0, none⟩ = some (.int .u64 a)) (g1 : w.cell? ⟨bn, 0, none⟩ = some (.int .u64 n)) :
    Calls Tryd.prog 81 #[.slice (some ⟨N, q * 32, none⟩) L.length L.length, .func (.func 51) #[] #[.pointer (some ⟨ba, 0, none⟩), .pointer (some ⟨bn, 0, none⟩)]] w (fun e w' => ∃ R', e = .returned (.slice (some ⟨N, q * 32, none⟩) (L.filter (fun l => !g l)).length L.length) /\ TlbAt w' N R' F /\ Out1 N w w' /\ (∀ k, k ≠ 2 * q -> k ≠ 2 * q + 1 -> R' k = R k) /\ ∀ j l, (L.filter (fun l => !g l))[j]? = some l -> R' (2 * q + j) = l) := by
  have hk : 2 * q + 2 ≤ 8 := by omega
  have ho : 16 * (2 * q) = q * 32 := by omega
  match L, hL, hR with
  | [], _, hR =>
    refine (del_d_e N (q * 32) (2 * q) ba bn w R F hk ho hT).mono ?_
    rintro e w' ⟨rfl, h1, h2⟩
    exact ⟨R, rfl, h1, h2, fun _ _ _ => rfl, fun j l hl => by simp at hl⟩
  | [x], _, hR =>
    cases ex : g x with
    | true =>
      rw [show List.filter (fun l => !g l) [x] = [] by simp [ex]]
      refine (del_d_y N (q * 32) (2 * q) x.1 x.2.1 x.2.2 ba bn a n (fun W h0 h1 => by have := KC x W h0 h1; rw [ex] at this; exact this) w R F hk ho hT (hR 0 x rfl) g0 g1).mono ?_
      rintro e w' ⟨rfl, h1, h2⟩
      refine ⟨zap R (2 * q) 1, rfl, h1, h2, fun k hk1 hk2 => ?_, fun j l hl => ?_⟩
      · unfold zap
        rw [if_neg (by omega)]
      · simp at hl
    | false =>
      rw [show List.filter (fun l => !g l) [x] = [x] by simp [ex]]
      refine (del_d_n N (q * 32) (2 * q) x.1 x.2.1 x.2.2 ba bn a n (fun W h0 h1 => by have := KC x W h0 h1; rw [ex] at this; exact this) w R F hk ho hT (hR 0 x rfl) g0 g1).mono ?_
      rintro e w' ⟨rfl, h1, h2⟩
      refine ⟨R, rfl, h1, h2, fun k hk1 hk2 => ?_, fun j l hl => ?_⟩
      · rfl
      · exact hR j l hl
  | [x, y], _, hR =>
    cases ex : g x with
    | true =>
      cases ey : g y with
      | true =>
        rw [show List.filter (fun l => !g l) [x, y] = [] by simp [ex, ey]]
        refine (del_d_yy N (q * 32) (2 * q) x.1 x.2.1 x.2.2 y.1 y.2.1 y.2.2 ba bn a n (fun W h0 h1 => by have := KC x W h0 h1; rw [ex] at this; exact this) (fun W h0 h1 => by have := KC y W h0 h1; rw [ey] at this; exact this) w R F hk ho hT (hR 0 x rfl) (hR 1 y rfl) g0 g1).mono ?_
        rintro e w' ⟨rfl, h1, h2⟩
        refine ⟨zap R (2 * q) 2, rfl, h1, h2, fun k hk1 hk2 => ?_, fun j l hl => ?_⟩
        · unfold zap
          rw [if_neg (by omega)]
        · simp at hl
      | false =>
        rw [show List.filter (fun l => !g l) [x, y] = [y] by simp [ex, ey]]
        refine (del_d_yn N (q * 32) (2 * q) x.1 x.2.1 x.2.2 y.1 y.2.1 y.2.2 ba bn a n (fun W h0 h1 => by have := KC x W h0 h1; rw [ex] at this; exact this) (fun W h0 h1 => by have := KC y W h0 h1; rw [ey] at this; exact this) w R F hk ho hT (hR 0 x rfl) (hR 1 y rfl) g0 g1).mono ?_
        rintro e w' ⟨rfl, h1, h2⟩
        refine ⟨zap (updL R (2 * q) y) (2 * q + 1) 1, rfl, h1, h2, fun k hk1 hk2 => ?_, fun j l hl => ?_⟩
        · unfold zap updL
          rw [if_neg (by omega)]
          exact if_neg hk1
        · cases j with
          | zero =>
            simp only [List.getElem?_cons_zero, Option.some.injEq] at hl
            subst hl
            unfold zap updL
            rw [if_neg (by omega), if_pos (by omega)]
          | succ j => simp at hl
    | false =>
      cases ey : g y with
      | true =>
        rw [show List.filter (fun l => !g l) [x, y] = [x] by simp [ex, ey]]
        refine (del_d_ny N (q * 32) (2 * q) x.1 x.2.1 x.2.2 y.1 y.2.1 y.2.2 ba bn a n (fun W h0 h1 => by have := KC x W h0 h1; rw [ex] at this; exact this) (fun W h0 h1 => by have := KC y W h0 h1; rw [ey] at this; exact this) w R F hk ho hT (hR 0 x rfl) (hR 1 y rfl) g0 g1).mono ?_
        rintro e w' ⟨rfl, h1, h2⟩
        refine ⟨zap R (2 * q + 1) 1, rfl, h1, h2, fun k hk1 hk2 => ?_, fun j l hl => ?_⟩
        · unfold zap
          rw [if_neg (by omega)]
        · cases j with
          | zero =>
            unfold zap
            rw [if_neg (by omega)]
            exact hR 0 l hl
          | succ j => simp at hl
      | false =>
        rw [show List.filter (fun l => !g l) [x, y] = [x, y] by simp [ex, ey]]
        refine (del_d_nn N (q * 32) (2 * q) x.1 x.2.1 x.2.2 y.1 y.2.1 y.2.2 ba bn a n (fun W h0 h1 => by have := KC x W h0 h1; rw [ex] at this; exact this) (fun W h0 h1 => by have := KC y W h0 h1; rw [ey] at this; exact this) w R F hk ho hT (hR 0 x rfl) (hR 1 y rfl) g0 g1).mono ?_
        rintro e w' ⟨rfl, h1, h2⟩
        refine ⟨R, rfl, h1, h2, fun k hk1 hk2 => ?_, fun j l hl => ?_⟩
        · rfl
        · exact hR j l hl
  | _ :: _ :: _ :: _, hL, _ =>
    simp only [List.length_cons] at hL
    omega

theorem rem_any_d (g : Ln -> Bool) (ba bn : Nat) (a n : Int) (KC : ∀ (l : Ln) (W : World), W.cell? ⟨ba, 0, none⟩ = some (.int .u64 a) -> W.cell? ⟨bn, 0, none⟩ = some (.int .u64 n) -> Calls Tryd.prog 51 #[.agg #[.int .u64 l.1, .int .u64 l.2.1, .bool l.2.2.e0, .bool l.2.2.e1, .bool l.2.2.e2, .bool l.2.2.e3, .bool l.2.2.e4, .bool l.2.2.e5, .bool l.2.2.e6, .bool l.2.2.e7, .bool l.2.2.e8, .bool l.2.2.e9, .bool l.2.2.e10, .bool l.2.2.e11, .int .u64 l.2.2.f, .int .u64 l.2.2.a], .pointer (some ⟨ba, 0, none⟩), .pointer (some ⟨bn, 0, none⟩)] W (Makes (.bool (g l)) W)) (N : Nat) (M : Nat -> List Ln) (w : World) (hM : TlbM w N M) (g0 : w.cell? ⟨ba, 0, none⟩ = some (.int .u64 a)) (g1 : w.cell? ⟨bn, 0, none⟩ = some (.int .u64 n)) (n0 : ba ≠ N)  (n1 : bn ≠ N) :
    Calls Tryd.prog 50 #[.pointer (some ⟨N, 0, none⟩), .func (.func 51) #[] #[.pointer (some ⟨ba, 0, none⟩), .pointer (some ⟨bn, 0, none⟩)]] w (fun e w' => e = .returned (.tuple #[]) /\ TlbM w' N (fun q => (M q).filter (fun l => !g l)) /\ Out1 N w w') := by
  obtain ⟨SS, LB', LS, LA', LH⟩ := rules5
  have HD := hide (fun q hq L hL W R F hR hT c0 c1 => del_any_d g ba bn a n KC N q hq L hL W R F hR hT c0 c1)
  have HF := hide (fun q n hq hn W hc => of_let N q n hn hq W hc)
  have HM := hide hM
  clear hM KC
  obtain ⟨M2, hM2⟩ : ∃ M2 : Nat -> List Ln, (fun q => (M q).filter (fun l => !g l)) = M2 := ⟨_, rfl⟩
  rw [hM2]
  have hm2 : ∀ q, (M q).filter (fun l => !g l) = M2 q := fun q => congrFun hM2 q
  have HG := hide hm2
  clear hM2 hm2
  go_enter Tryd.func50, Tryd.ntmps50
  go_wp2
  go_loopw [7] (fun i wr => ∃ q : Nat, q ≤ 4 /\ i = .int .u64 (q : Int) /\ TlbM wr N (upTo M M2 q) /\ Out1 N w wr) (fun i _ => 4 - (intOf i).toNat)
  case atStart =>
    refine ⟨0, by omega, rfl, ?_, Out1.refl _ _⟩
    have := HM.out
    rw [show upTo M M2 0 = M from funext fun q => if_neg (by omega)]
    exact this
  case round =>
    obtain ⟨q, hq, rfl, hT, hU⟩ := hrel
    by_cases hlt : q < 4
    · obtain ⟨R, hA, hB⟩ := hT
      have hL : upTo M M2 q q = M q := if_neg (by omega)
      have hB0 := hB q hlt
      rw [hL] at hB0
      have hfill := hA.fill q hlt
      simp only [hL] at hfill
      have c0 := hU.reads n0 g0
      have c1 := hU.reads n1 g1
      have D := fun W hT => HD.out q hlt (M q) hB0.1 W R (fun r => (upTo M M2 q r).length) hB0.2 hT
      have O := fun W hc => HF.out q (M q).length hlt hB0.1 W hc
      have hl2 : ((M q).filter (fun l => !g l)) = M2 q := HG.out q
      simp only [hl2] at D
      obtain ⟨n, hn⟩ : ∃ n, (M q).length = n := ⟨_, rfl⟩
      obtain ⟨m, hm⟩ : ∃ m, (M2 q).length = m := ⟨_, rfl⟩
      rw [hn] at D O hfill
      rw [hm] at D
      have DD := hide D
      have OO := hide O
      have HA := hide hA
      have HB := hide hB
      have HN := hide hn
      have HMM := hide hm
      have HL := hide hL
      clear D O hA hB hB0 hl2 hn hm hL
      have h1 : ¬ ((4 : Int) ≤ (q : Int)) := by omega
      have h2 : (q : Int) < 4 := by omega
      have h3 : (0 : Int) ≤ (q : Int) := by omega
      go_wp2_with fail
      go_region_with (first | (go_at_call 55; (with_reducible refine (OO.out _ ?_).mono ?_); (focus (repeat (with_reducible first | assumption | refine c_dr _ ?_ | refine c_d1 ?_ | refine c_al _ ?_ | (refine c_set ?_ ?_; focus (dsimp only; omega)) | (apply c_be; assumption) | (refine c_bn (by assumption) ?_ ?_; focus (dsimp only; omega)) | (refine Out1.reads (by assumption) ?_ ?_; focus (dsimp only; omega))))); rintro e w' ⟨rfl, n1, rfl⟩) | (go_at_call 81; (with_reducible refine (DD.out _ ?_ ?_ ?_).mono ?_); (focus (have hA := HA.out; repeat (with_reducible first | assumption | refine ta_dr _ ?_ | refine ta_d1 ?_ | refine ta_al _ ?_ | (refine ta_set ?_ ?_; focus (dsimp only; omega)) | (apply ta_be; assumption) | (refine ta_bn (by assumption) ?_ ?_; focus omega)))); (focus (repeat (with_reducible first | assumption | refine c_dr _ ?_ | refine c_d1 ?_ | refine c_al _ ?_ | (refine c_set ?_ ?_; focus (dsimp only; omega)) | (apply c_be; assumption) | (refine c_bn (by assumption) ?_ ?_; focus (dsimp only; omega)) | (refine Out1.reads (by assumption) ?_ ?_; focus (dsimp only; omega))))); (focus (repeat (with_reducible first | assumption | refine c_dr _ ?_ | refine c_d1 ?_ | refine c_al _ ?_ | (refine c_set ?_ ?_; focus (dsimp only; omega)) | (apply c_be; assumption) | (refine c_bn (by assumption) ?_ ?_; focus (dsimp only; omega)) | (refine Out1.reads (by assumption) ?_ ?_; focus (dsimp only; omega))))); rintro e wd ⟨R2, rfl, hTd, hUd, hRd, hRe⟩; have hTd2 := hide hTd; have hRe2 := hide hRe; have hRd2 := hide hRd; have hcd := hTd.fill q hlt; have hfd : wd.frozen? ⟨N, 128 + q, none⟩ = false := (hTd.part (128 + q) 1 (by omega) 0 (by omega)).2; clear hTd hRe hRd))
      all_goals go_wp2_with fail
      go_roundw
      case rel =>
        refine ⟨q + 1, by omega, by go_num, ⟨R2, ?_, fun r hr => ?_⟩, ?_⟩
        · rw [← updL_upTo M M2 q m HMM.out]
          have hX := ta_fill m rfl hlt rfl hTd2.out
          repeat (with_reducible first | assumption | refine ta_dr _ ?_ | refine ta_d1 ?_ | refine ta_al _ ?_ | (refine ta_set ?_ ?_; focus (dsimp only; omega)) | (apply ta_be; assumption) | (refine ta_bn (by assumption) ?_ ?_; focus omega))
        · have hB := HB.out r hr
          by_cases e : r = q
          · subst e
            rw [show upTo M M2 (r + 1) r = M2 r from if_pos (by omega)]
            refine ⟨?_, hRe2.out⟩
            rw [← HG.out r]
            have h1 := List.length_filter_le (fun l => !g l) (M r)
            have h2 := hB.1
            rw [HL.out] at h2
            omega
          · have e2 : upTo M M2 (q + 1) r = upTo M M2 q r := by
              unfold upTo
              by_cases h : r < q
              · rw [if_pos h, if_pos (by omega)]
              · rw [if_neg h, if_neg (by omega)]
            rw [e2]
            refine ⟨hB.1, fun j l hl => ?_⟩
            have hj : j < (upTo M M2 q r).length := (List.getElem?_eq_some_iff.1 hl).1
            have := hB.1
            rw [hRd2.out (2 * r + j) (by omega) (by omega)]
            exact hB.2 j l hl
        · repeat (with_reducible first | assumption | exact Out1.refl _ _ | refine u_dr _ ?_ | refine u_d1 ?_ | refine u_al _ ?_ | (refine u_in _ ?_ ?_; focus omega) | (refine u_new _ ?_ ?_; focus (dsimp only; omega)) | (refine Out1.trans ?_ (by assumption)) | (apply u_bh; assumption) | (refine u_be (by assumption) ?_ ?_; focus omega))
      case measure => simp [intOf]; omega
    · obtain rfl : q = 4 := by omega
      have hT2 := hide (tm_congr (fun q hq => show upTo M M2 4 q = M2 q from if_pos hq) hT)
      clear hT
      go_wp2_with fail
      refine bodyPost_end (v := .tuple #[]) (by simp (maxDischargeDepth := 4) [results, Tryd.results50, go_sem, *]) rfl ?_
      have hT := hT2.out
      refine ⟨rfl, ?_, ?_⟩
      · repeat (with_reducible first | assumption | refine tm_dr _ ?_ | refine tm_d1 ?_)
      · repeat (with_reducible first | assumption | exact Out1.refl _ _ | refine u_dr _ ?_ | refine u_d1 ?_ | refine u_al _ ?_ | (refine u_in _ ?_ ?_; focus omega) | (refine u_new _ ?_ ?_; focus (dsimp only; omega)) | (refine Out1.trans ?_ (by assumption)) | (apply u_bh; assumption) | (refine u_be (by assumption) ?_ ?_; focus omega))
end Go.Proofs.YtkajndonefkegaaDoor

namespace Go.Proofs.YtkajndonefkegaaDoor
open Go.RowKit

theorem del_any_f (g : Ln -> Bool) (ba : Nat) (a : Int) (KC : ∀ (l : Ln) (W : World), W.cell? ⟨ba, 0, none⟩ = some (.int .u64 a) -> Calls Tryd.prog 53 #[.agg #[.int .u64 l.1, .int .u64 l.2.1, .bool l.2.2.e0, .bool l.2.2.e1, .bool l.2.2.e2, .bool l.2.2.e3, .bool l.2.2.e4, .bool l.2.2.e5, .bool l.2.2.e6, .bool l.2.2.e7, .bool l.2.2.e8, .bool l.2.2.e9, .bool l.2.2.e10, .bool l.2.2.e11, .int .u64 l.2.2.f, .int .u64 l.2.2.a], .pointer (some ⟨ba, 0, none⟩)] W (Makes (.bool (g l)) W)) (N q : Nat) (hq : q < 4) (L : List Ln) (hL : L.length ≤ 2) (w : World) (R : Nat -> Ln) (F : Nat -> Nat) (hR : ∀ j l, L[j]? = some l -> R (2 * q + j) = l) (hT : TlbAt w N R F) (g0 : w.cell? ⟨ba, 0, none⟩ = some (.int .u64 a)) :
    Calls Tryd.prog 81 #[.slice (some ⟨N, q * 32, none⟩) L.length L.length, .func (.func 53) #[] #[.pointer (some ⟨ba, 0, none⟩)]] w (fun e w' => ∃ R', e = .returned (.slice (some ⟨N, q * 32, none⟩) (L.filter (fun l => !g l)).length L.length) /\ TlbAt w' N R' F /\ Out1 N w w' /\ (∀ k, k ≠ 2 * q -> k ≠ 2 * q + 1 -> R' k = R k) /\ ∀ j l, (L.filter (fun l => !g l))[j]? = some l -> R' (2 * q + j) = l) := by
  have hk : 2 * q + 2 ≤ 8 := by omega
  have ho : 16 * (2 * q) = q * 32 := by omega
  match L, hL, hR with
  | [], _, hR =>
    refine (del_f_e N (q * 32) (2 * q) ba w R F hk ho hT).mono ?_
    rintro e w' ⟨rfl, h1, h2⟩
    exact ⟨R, rfl, h1, h2, fun _ _ _ => rfl, fun j l hl => by simp at hl⟩
  | [x], _, hR =>
    cases ex : g x with
    | true =>
      rw [show List.filter (fun l => !g l) [x] = [] by simp [ex]]
      refine (del_f_y N (q * 32) (2 * q) x.1 x.2.1 x.2.2 ba a (fun W h0 => by have := KC x W h0; rw [ex] at this; exact this) w R F hk ho hT (hR 0 x rfl) g0).mono ?_
      rintro e w' ⟨rfl, h1, h2⟩
      refine ⟨zap R (2 * q) 1, rfl, h1, h2, fun k hk1 hk2 => ?_, fun j l hl => ?_⟩
      · unfold zap
        rw [if_neg (by omega)]
      · simp at hl
    | false =>
      rw [show List.filter (fun l => !g l) [x] = [x] by simp [ex]]
      refine (del_f_n N (q * 32) (2 * q) x.1 x.2.1 x.2.2 ba a (fun W h0 => by have := KC x W h0; rw [ex] at this; exact this) w R F hk ho hT (hR 0 x rfl) g0).mono ?_
      rintro e w' ⟨rfl, h1, h2⟩
      refine ⟨R, rfl, h1, h2, fun k hk1 hk2 => ?_, fun j l hl => ?_⟩
      · rfl
      · exact hR j l hl
  | [x, y], _, hR =>
    cases ex : g x with
    | true =>
      cases ey : g y with
      | true =>
        rw [show List.filter (fun l => !g l) [x, y] = [] by simp [ex, ey]]
        refine (del_f_yy N (q * 32) (2 * q) x.1 x.2.1 x.2.2 y.1 y.2.1 y.2.2 ba a (fun W h0 => by have := KC x W h0; rw [ex] at this; exact this) (fun W h0 => by have := KC y W h0; rw [ey] at this; exact this) w R F hk ho hT (hR 0 x rfl) (hR 1 y rfl) g0).mono ?_
        rintro e w' ⟨rfl, h1, h2⟩
        refine ⟨zap R (2 * q) 2, rfl, h1, h2, fun k hk1 hk2 => ?_, fun j l hl => ?_⟩
        · unfold zap
          rw [if_neg (by omega)]
        · simp at hl
      | false =>
        rw [show List.filter (fun l => !g l) [x, y] = [y] by simp [ex, ey]]
        refine (del_f_yn N (q * 32) (2 * q) x.1 x.2.1 x.2.2 y.1 y.2.1 y.2.2 ba a (fun W h0 => by have := KC x W h0; rw [ex] at this; exact this) (fun W h0 => by have := KC y W h0; rw [ey] at this; exact this) w R F hk ho hT (hR 0 x rfl) (hR 1 y rfl) g0).mono ?_
        rintro e w' ⟨rfl, h1, h2⟩
        refine ⟨zap (updL R (2 * q) y) (2 * q + 1) 1, rfl, h1, h2, fun k hk1 hk2 => ?_, fun j l hl => ?_⟩
        · unfold zap updL
          rw [if_neg (by omega)]
          exact if_neg hk1
        · cases j with
          | zero =>
            simp only [List.getElem?_cons_zero, Option.some.injEq] at hl
            subst hl
            unfold zap updL
            rw [if_neg (by omega), if_pos (by omega)]
          | succ j => simp at hl
    | false =>
      cases ey : g y with
      | true =>
        rw [show List.filter (fun l => !g l) [x, y] = [x] by simp [ex, ey]]
        refine (del_f_ny N (q * 32) (2 * q) x.1 x.2.1 x.2.2 y.1 y.2.1 y.2.2 ba a (fun W h0 => by have := KC x W h0; rw [ex] at this; exact this) (fun W h0 => by have := KC y W h0; rw [ey] at this; exact this) w R F hk ho hT (hR 0 x rfl) (hR 1 y rfl) g0).mono ?_
        rintro e w' ⟨rfl, h1, h2⟩
        refine ⟨zap R (2 * q + 1) 1, rfl, h1, h2, fun k hk1 hk2 => ?_, fun j l hl => ?_⟩
        · unfold zap
          rw [if_neg (by omega)]
        · cases j with
          | zero =>
            unfold zap
            rw [if_neg (by omega)]
            exact hR 0 l hl
          | succ j => simp at hl
      | false =>
        rw [show List.filter (fun l => !g l) [x, y] = [x, y] by simp [ex, ey]]
        refine (del_f_nn N (q * 32) (2 * q) x.1 x.2.1 x.2.2 y.1 y.2.1 y.2.2 ba a (fun W h0 => by have := KC x W h0; rw [ex] at this; exact this) (fun W h0 => by have := KC y W h0; rw [ey] at this; exact this) w R F hk ho hT (hR 0 x rfl) (hR 1 y rfl) g0).mono ?_
        rintro e w' ⟨rfl, h1, h2⟩
        refine ⟨R, rfl, h1, h2, fun k hk1 hk2 => ?_, fun j l hl => ?_⟩
        · rfl
        · exact hR j l hl
  | _ :: _ :: _ :: _, hL, _ =>
    simp only [List.length_cons] at hL
    omega

theorem rem_any_f (g : Ln -> Bool) (ba : Nat) (a : Int) (KC : ∀ (l : Ln) (W : World), W.cell? ⟨ba, 0, none⟩ = some (.int .u64 a) -> Calls Tryd.prog 53 #[.agg #[.int .u64 l.1, .int .u64 l.2.1, .bool l.2.2.e0, .bool l.2.2.e1, .bool l.2.2.e2, .bool l.2.2.e3, .bool l.2.2.e4, .bool l.2.2.e5, .bool l.2.2.e6, .bool l.2.2.e7, .bool l.2.2.e8, .bool l.2.2.e9, .bool l.2.2.e10, .bool l.2.2.e11, .int .u64 l.2.2.f, .int .u64 l.2.2.a], .pointer (some ⟨ba, 0, none⟩)] W (Makes (.bool (g l)) W)) (N : Nat) (M : Nat -> List Ln) (w : World) (hM : TlbM w N M) (g0 : w.cell? ⟨ba, 0, none⟩ = some (.int .u64 a)) (n0 : ba ≠ N) :
    Calls Tryd.prog 50 #[.pointer (some ⟨N, 0, none⟩), .func (.func 53) #[] #[.pointer (some ⟨ba, 0, none⟩)]] w (fun e w' => e = .returned (.tuple #[]) /\ TlbM w' N (fun q => (M q).filter (fun l => !g l)) /\ Out1 N w w') := by
  obtain ⟨SS, LB', LS, LA', LH⟩ := rules5
  have HD := hide (fun q hq L hL W R F hR hT c0 => del_any_f g ba a KC N q hq L hL W R F hR hT c0)
  have HF := hide (fun q n hq hn W hc => of_let N q n hn hq W hc)
  have HM := hide hM
  clear hM KC
  obtain ⟨M2, hM2⟩ : ∃ M2 : Nat -> List Ln, (fun q => (M q).filter (fun l => !g l)) = M2 := ⟨_, rfl⟩
  rw [hM2]
  have hm2 : ∀ q, (M q).filter (fun l => !g l) = M2 q := fun q => congrFun hM2 q
  have HG := hide hm2
  clear hM2 hm2
  go_enter Tryd.func50, Tryd.ntmps50
  go_wp2
  go_loopw [7] (fun i wr => ∃ q : Nat, q ≤ 4 /\ i = .int .u64 (q : Int) /\ TlbM wr N (upTo M M2 q) /\ Out1 N w wr) (fun i _ => 4 - (intOf i).toNat)
  case atStart =>
    refine ⟨0, by omega, rfl, ?_, Out1.refl _ _⟩
    have := HM.out
    rw [show upTo M M2 0 = M from funext fun q => if_neg (by omega)]
    exact this
  case round =>
    obtain ⟨q, hq, rfl, hT, hU⟩ := hrel
    by_cases hlt : q < 4
    · obtain ⟨R, hA, hB⟩ := hT
      have hL : upTo M M2 q q = M q := if_neg (by omega)
      have hB0 := hB q hlt
      rw [hL] at hB0
      have hfill := hA.fill q hlt
      simp only [hL] at hfill
      have c0 := hU.reads n0 g0
      have D := fun W hT => HD.out q hlt (M q) hB0.1 W R (fun r => (upTo M M2 q r).length) hB0.2 hT
      have O := fun W hc => HF.out q (M q).length hlt hB0.1 W hc
      have hl2 : ((M q).filter (fun l => !g l)) = M2 q := HG.out q
      simp only [hl2] at D
      obtain ⟨n, hn⟩ : ∃ n, (M q).length = n := ⟨_, rfl⟩
      obtain ⟨m, hm⟩ : ∃ m, (M2 q).length = m := ⟨_, rfl⟩
      rw [hn] at D O hfill
      rw [hm] at D
      have DD := hide D
      have OO := hide O
      have HA := hide hA
      have HB := hide hB
      have HN := hide hn
      have HMM := hide hm
      have HL := hide hL
      clear D O hA hB hB0 hl2 hn hm hL
      have h1 : ¬ ((4 : Int) ≤ (q : Int)) := by omega
      have h2 : (q : Int) < 4 := by omega
      have h3 : (0 : Int) ≤ (q : Int) := by omega
      go_wp2_with fail
      go_region_with (first | (go_at_call 55; (with_reducible refine (OO.out _ ?_).mono ?_); (focus (repeat (with_reducible first | assumption | refine c_dr _ ?_ | refine c_d1 ?_ | refine c_al _ ?_ | (refine c_set ?_ ?_; focus (dsimp only; omega)) | (apply c_be; assumption) | (refine c_bn (by assumption) ?_ ?_; focus (dsimp only; omega)) | (refine Out1.reads (by assumption) ?_ ?_; focus (dsimp only; omega))))); rintro e w' ⟨rfl, n1, rfl⟩) | (go_at_call 81; (with_reducible refine (DD.out _ ?_ ?_).mono ?_); (focus (have hA := HA.out; repeat (with_reducible first | assumption | refine ta_dr _ ?_ | refine ta_d1 ?_ | refine ta_al _ ?_ | (refine ta_set ?_ ?_; focus (dsimp only; omega)) | (apply ta_be; assumption) | (refine ta_bn (by assumption) ?_ ?_; focus omega)))); (focus (repeat (with_reducible first | assumption | refine c_dr _ ?_ | refine c_d1 ?_ | refine c_al _ ?_ | (refine c_set ?_ ?_; focus (dsimp only; omega)) | (apply c_be; assumption) | (refine c_bn (by assumption) ?_ ?_; focus (dsimp only; omega)) | (refine Out1.reads (by assumption) ?_ ?_; focus (dsimp only; omega))))); rintro e wd ⟨R2, rfl, hTd, hUd, hRd, hRe⟩; have hTd2 := hide hTd; have hRe2 := hide hRe; have hRd2 := hide hRd; have hcd := hTd.fill q hlt; have hfd : wd.frozen? ⟨N, 128 + q, none⟩ = false := (hTd.part (128 + q) 1 (by omega) 0 (by omega)).2; clear hTd hRe hRd))
      all_goals go_wp2_with fail
      go_roundw
      case rel =>
        refine ⟨q + 1, by omega, by go_num, ⟨R2, ?_, fun r hr => ?_⟩, ?_⟩
        · rw [← updL_upTo M M2 q m HMM.out]
          have hX := ta_fill m rfl hlt rfl hTd2.out
          repeat (with_reducible first | assumption | refine ta_dr _ ?_ | refine ta_d1 ?_ | refine ta_al _ ?_ | (refine ta_set ?_ ?_; focus (dsimp only; omega)) | (apply ta_be; assumption) | (refine ta_bn (by assumption) ?_ ?_; focus omega))
        · have hB := HB.out r hr
          by_cases e : r = q
          · subst e
            rw [show upTo M M2 (r + 1) r = M2 r from if_pos (by omega)]
            refine ⟨?_, hRe2.out⟩
            rw [← HG.out r]
            have h1 := List.length_filter_le (fun l => !g l) (M r)
            have h2 := hB.1
            rw [HL.out] at h2
            omega
          · have e2 : upTo M M2 (q + 1) r = upTo M M2 q r := by
              unfold upTo
              by_cases h : r < q
              · rw [if_pos h, if_pos (by omega)]
              · rw [if_neg h, if_neg (by omega)]
            rw [e2]
            refine ⟨hB.1, fun j l hl => ?_⟩
            have hj : j < (upTo M M2 q r).length := (List.getElem?_eq_some_iff.1 hl).1
            have := hB.1
            rw [hRd2.out (2 * r + j) (by omega) (by omega)]
            exact hB.2 j l hl
        · repeat (with_reducible first | assumption | exact Out1.refl _ _ | refine u_dr _ ?_ | refine u_d1 ?_ | refine u_al _ ?_ | (refine u_in _ ?_ ?_; focus omega) | (refine u_new _ ?_ ?_; focus (dsimp only; omega)) | (refine Out1.trans ?_ (by assumption)) | (apply u_bh; assumption) | (refine u_be (by assumption) ?_ ?_; focus omega))
      case measure => simp [intOf]; omega
    · obtain rfl : q = 4 := by omega
      have hT2 := hide (tm_congr (fun q hq => show upTo M M2 4 q = M2 q from if_pos hq) hT)
      clear hT
      go_wp2_with fail
      refine bodyPost_end (v := .tuple #[]) (by simp (maxDischargeDepth := 4) [results, Tryd.results50, go_sem, *]) rfl ?_
      have hT := hT2.out
      refine ⟨rfl, ?_, ?_⟩
      · repeat (with_reducible first | assumption | refine tm_dr _ ?_ | refine tm_d1 ?_)
      · repeat (with_reducible first | assumption | exact Out1.refl _ _ | refine u_dr _ ?_ | refine u_d1 ?_ | refine u_al _ ?_ | (refine u_in _ ?_ ?_; focus omega) | (refine u_new _ ?_ ?_; focus (dsimp only; omega)) | (refine Out1.trans ?_ (by assumption)) | (apply u_bh; assumption) | (refine u_be (by assumption) ?_ ?_; focus omega))
end Go.Proofs.YtkajndonefkegaaDoor

namespace Go.Proofs.YtkajndonefkegaaDoor
open Go.RowKit

def dropM {α : Type} (M : Nat -> List (LnX α)) (a n : Int) : Nat -> List (LnX α) := fun q => (M q).filter (fun l => !((l.1 == a) && (l.2.1 == n)))

theorem drop_any (N : Nat) (M : Nat -> List Ln) (a n : Int) (w : World) (hM : TlbM w N M) :
    Calls Tryd.prog 15 #[.pointer (some ⟨N, 0, none⟩), .int .u64 a, .int .u64 n] w (fun e w' => e = .returned (.tuple #[]) /\ TlbM w' N (dropM M a n) /\ Out1 N w w') := by
  obtain ⟨SS, LB', LS, LA', LH⟩ := rules5
  have hmf : ∀ (fn : Fn) (first cap : Array Value) (w : World), (Instr.makeFunc fn first cap).run Tryd.prog w = .ok (.func fn first cap) w := fun _ _ _ _ => rfl
  have RD := hide (fun ba bn W hM c0 c1 n0 n1 => rem_any_d (fun l => (l.1 == a) && (l.2.1 == n)) ba bn a n (fun l W h0 h1 => cdrop_let l.1 l.2.1 l.2.2 a n ba bn W h0 h1) N M W hM c0 c1 n0 n1)
  have hN : N < w.heap.size := hM.here
  have HM := hide hM
  clear hM
  go_enter Tryd.func15, Tryd.ntmps15
  go_wp2_with (go_at_call 50; (with_reducible refine (RD.out _ _ _ ?_ ?_ ?_ ?_ ?_).mono ?_); (focus (have hM := HM.out; repeat (with_reducible first | assumption | refine tm_dr _ ?_ | refine tm_d1 ?_ | refine tm_al _ ?_ | (refine tm_set ?_ ?_; focus (dsimp only; omega)) | (apply tm_be; assumption) | (refine tm_bn (by assumption) ?_ ?_; focus omega) | (refine tm_out (by assumption) ?_ ?_; focus omega)))); (focus (simp [go_sem])); (focus (simp [go_sem])); (focus (omega)); (focus (omega)); rintro e wd ⟨rfl, hTd, hUd⟩; have hTd := hide hTd)
  refine bodyPost_end (v := .tuple #[]) (by simp (maxDischargeDepth := 4) [results, Tryd.results15, go_sem, *]) rfl ?_
  have hTd := hTd.out
  refine ⟨rfl, ?_, ?_⟩
  · exact hTd
  · repeat (with_reducible first | assumption | exact Out1.refl _ _ | refine u_dr _ ?_ | refine u_d1 ?_ | refine u_al _ ?_ | (refine u_in _ ?_ ?_; focus omega) | (refine u_new _ ?_ ?_; focus (dsimp only; omega)) | (refine Out1.trans ?_ (by assumption)) | (apply u_bh; assumption) | (refine u_be (by assumption) ?_ ?_; focus omega))

def flushM {α : Type} (M : Nat -> List (LnX α)) (a : Int) : Nat -> List (LnX α) := fun q => (M q).filter (fun l => !(l.1 == a))

theorem flush_any (N : Nat) (M : Nat -> List Ln) (a : Int) (w : World) (hM : TlbM w N M) :
    Calls Tryd.prog 17 #[.pointer (some ⟨N, 0, none⟩), .int .u64 a] w (fun e w' => e = .returned (.tuple #[]) /\ TlbM w' N (flushM M a) /\ Out1 N w w') := by
  obtain ⟨SS, LB', LS, LA', LH⟩ := rules5
  have hmf : ∀ (fn : Fn) (first cap : Array Value) (w : World), (Instr.makeFunc fn first cap).run Tryd.prog w = .ok (.func fn first cap) w := fun _ _ _ _ => rfl
  have RD := hide (fun ba W hM c0 n0 => rem_any_f (fun l => l.1 == a) ba a (fun l W h0 => cflush_let l.1 l.2.1 l.2.2 a ba W h0) N M W hM c0 n0)
  have hN : N < w.heap.size := hM.here
  have HM := hide hM
  clear hM
  go_enter Tryd.func17, Tryd.ntmps17
  go_wp2_with (go_at_call 50; (with_reducible refine (RD.out _ _ ?_ ?_ ?_).mono ?_); (focus (have hM := HM.out; repeat (with_reducible first | assumption | refine tm_dr _ ?_ | refine tm_d1 ?_ | refine tm_al _ ?_ | (refine tm_set ?_ ?_; focus (dsimp only; omega)) | (apply tm_be; assumption) | (refine tm_bn (by assumption) ?_ ?_; focus omega) | (refine tm_out (by assumption) ?_ ?_; focus omega)))); (focus (simp [go_sem])); (focus (omega)); rintro e wd ⟨rfl, hTd, hUd⟩; have hTd := hide hTd)
  refine bodyPost_end (v := .tuple #[]) (by simp (maxDischargeDepth := 4) [results, Tryd.results17, go_sem, *]) rfl ?_
  have hTd := hTd.out
  refine ⟨rfl, ?_, ?_⟩
  · exact hTd
  · repeat (with_reducible first | assumption | exact Out1.refl _ _ | refine u_dr _ ?_ | refine u_d1 ?_ | refine u_al _ ?_ | (refine u_in _ ?_ ?_; focus omega) | (refine u_new _ ?_ ?_; focus (dsimp only; omega)) | (refine Out1.trans ?_ (by assumption)) | (apply u_bh; assumption) | (refine u_be (by assumption) ?_ ?_; focus omega))

def clearM {α : Type} (M : Nat -> List (LnX α)) : Nat -> List (LnX α) := fun q => (M q).filter (fun _ => !(true))

theorem clear_any (N : Nat) (M : Nat -> List Ln) (w : World) (hM : TlbM w N M) :
    Calls Tryd.prog 19 #[.pointer (some ⟨N, 0, none⟩)] w (fun e w' => e = .returned (.tuple #[]) /\ TlbM w' N (clearM M) /\ Out1 N w w') := by
  obtain ⟨SS, LB', LS, LA', LH⟩ := rules5
  have hmf : ∀ (fn : Fn) (first cap : Array Value) (w : World), (Instr.makeFunc fn first cap).run Tryd.prog w = .ok (.func fn first cap) w := fun _ _ _ _ => rfl
  have RD := hide (fun W hM  => rem_any_c (fun _ => true)  (fun _ => rfl) (fun l W => cclear_let l.1 l.2.1 l.2.2 W) N M W hM )
  have hN : N < w.heap.size := hM.here
  have HM := hide hM
  clear hM
  go_enter Tryd.func19, Tryd.ntmps19
  go_wp2_with (go_at_call 50; (with_reducible refine (RD.out _ ?_).mono ?_); (focus (have hM := HM.out; repeat (with_reducible first | assumption | refine tm_dr _ ?_ | refine tm_d1 ?_ | refine tm_al _ ?_ | (refine tm_set ?_ ?_; focus (dsimp only; omega)) | (apply tm_be; assumption) | (refine tm_bn (by assumption) ?_ ?_; focus omega) | (refine tm_out (by assumption) ?_ ?_; focus omega)))); rintro e wd ⟨rfl, hTd, hUd⟩; have hTd := hide hTd)
  refine bodyPost_end (v := .tuple #[]) (by simp (maxDischargeDepth := 4) [results, Tryd.results19, go_sem, *]) rfl ?_
  have hTd := hTd.out
  refine ⟨rfl, ?_, ?_⟩
  · exact hTd
  · repeat (with_reducible first | assumption | exact Out1.refl _ _ | refine u_dr _ ?_ | refine u_d1 ?_ | refine u_al _ ?_ | (refine u_in _ ?_ ?_; focus omega) | (refine u_new _ ?_ ?_; focus (dsimp only; omega)) | (refine Out1.trans ?_ (by assumption)) | (apply u_bh; assumption) | (refine u_be (by assumption) ?_ ?_; focus omega))
end Go.Proofs.YtkajndonefkegaaDoor
