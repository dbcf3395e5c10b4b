/-
  RegionApart's walk: in every room, for every list of numbers.
-/
import Derived.Test.YtnepnckiciapfaaDoorRgnBox
import Derived.Test.YtnepnckiciapfaaDoorRgnWords
import Derived.Test.YtnepnckiciapfaaDoorRgnOps
import Derived.Test.YtnepnckiciapfaaDoorRgnOne
import Derived.Test.YtnepnckiciapfaaDoorCode03
namespace Go.Proofs.YtnepnckiciapfaaDoor.RegionApart
open Go.RowKit RgnMath BoundsMath

/-- What Find answers. -/
def fD (o : Option (Nat × Nat)) : Int := match o with
  | some (p, _) => (p : Int)
  | none => 0
def fU (o : Option (Nat × Nat)) : Int := match o with
  | some (_, q) => (q : Int)
  | none => 0
def fC (o : Option (Nat × Nat)) (c : Nat) : Int := match o with
  | some _ => 0
  | none => (c : Int)
structure Hit (L : List Rg) (rb rt N p q : Nat) : Prop where
  ex : ∃ l e, q = p + l ∧ N ≤ l ∧ Found L rb rt l p ∧ Kept p (p + l) e ∧ dn p (e - 1) = p ∧ up (p + l) (e - 1) = p + l
theorem find_uni (N rb rt : Nat) (hrb : rb ≤ 274877906944) (hrt : rt ≤ 274877906944) : ∃ (f : List Rg → Option (Nat × Nat)) (c : Nat), c ≠ 0 ∧ (∀ L k, Good L rb rt k → ∀ p q, f L = some (p, q) → Hit L rb rt N p q) ∧
    ∀ L v W k, Good L rb rt k → k ≤ 999 → Lst W v L → Calls Tryd.prog 6 #[.agg #[.int .u64 (rb : Int), .int .u64 (rt : Int), v], .int .u64 (N : Int)] W (Makes (.tuple #[.agg #[.int .u64 (fD (f L)), .int .u64 (fU (f L))], .int .i64 (fC (f L) c)]) W) := by
  by_cases h : N = 0 ∨ 274877906944 < N
  · refine ⟨fun _ => none, 2, by omega, fun _ _ _ _ _ h => by simp at h, fun L v W k hg hk hl => ?_⟩
    obtain ⟨sa, n, c, rfl, _⟩ := lst_one hl
    exact find_bad (rb : Int) (rt : Int) (N : Int) _ ⟨sa, n, c, rfl⟩ (by omega) W
  · obtain ⟨l, x, hs, hc⟩ := find_any N (by omega) (by omega)
    refine ⟨fun L => (lowF l x (up rb x) (wallsF L rt)).map (fun p => (p, p + l)), 15, by omega, fun L k hg p q hf => ?_, fun L v W k hg hk hl => ?_⟩
    · dsimp only at hf
      cases hq : lowF l x (up rb x) (wallsF L rt) with
      | none => rw [hq] at hf; cases hf
      | some r =>
        rw [hq] at hf
        simp only [Option.map_some, Option.some.injEq, Prod.mk.injEq] at hf
        obtain ⟨rfl, rfl⟩ := hf
        obtain ⟨h1, h2⟩ := found hg.asc hg.ins hrt hs hq
        obtain ⟨e, h3, h4, h5⟩ := shape_exact hs h2
        exact ⟨l, e, rfl, hs.len, h1, h3, h4, h5⟩
    · have := hc rb rt v L W hg.asc hrb (by have := hg.len; omega) hl
      dsimp only
      cases hq : lowF l x (up rb x) (wallsF L rt) with
      | none => rw [hq] at this; exact this
      | some r => rw [hq] at this; exact this
theorem find_5 (W : World) : Calls Tryd.prog 6 #[.agg #[.int .u64 0, .int .u64 0, .slice none 0 0], .int .u64 5] W (Makes (.tuple #[.agg #[.int .u64 0, .int .u64 0], .int .i64 15]) W) := by
  obtain ⟨l, x, hs, hc⟩ := find_any 5 (by omega) (by omega)
  have := hc 0 0 (.slice none 0 0) [] W asc_nil (by omega) (by simp) (lst_nil W)
  have hl := hs.pos
  have e0 : lowF l x (up 0 x) (wallsF [] 0) = none := by
    have hu : up 0 x = 0 := by
      unfold up cq
      rw [Nat.zero_add, Nat.div_eq_of_lt (by have := pow_pos x; omega), Nat.zero_mul]
    rw [hu]
    show lowF l x 0 [(0, 18446744073709551615)] = none
    unfold lowF
    rw [if_neg (by simp only; omega), if_pos (by simp only; omega)]
    rfl
  rw [e0] at this
  exact this

set_option maxRecDepth 100000 in
set_option maxHeartbeats 16000000 in
theorem walk (rb rt : Nat) (v : Value) (l : List Nat) (w : World) (hl : IsW w l v) (hT : Tab w) : Calls Tryd.prog 3 #[.agg #[.int .u64 (rb : Int), .int .u64 (rt : Int)], v] w (Makes (.bool true) w) := by
  obtain ⟨s, cap, rfl, hwords⟩ := hl
  have C1 := hide one_any
  have C5 := hide find_5
  have HA := hide hwords
  have HT := hide hT
  clear hwords hT
  have SS := cell_same
  by_cases hN : newB rb rt = true
  case neg =>
    have CN : Hid (∀ W, Calls Tryd.prog 4 #[.agg #[.int .u64 (rb : Int), .int .u64 (rt : Int)]] W (Makes (.tuple #[.agg #[.int .u64 0, .int .u64 0, .slice none 0 0], .int .i64 2]) W)) := hide (fun W => by
      have := new_any rb rt W
      rwa [if_neg hN] at this)
    generalize (rb : Int) = RB at *
    generalize (rt : Int) = RT at *
    go_enter Tryd.func3, Tryd.ntmps3
    go_wp2_with (first | (go_at_call 4; (with_reducible refine (CN.out _).mono ?_); rintro e w1 ⟨rfl, hb1⟩) | (go_at_call 5; (with_reducible refine (C1.out _).mono ?_); rintro e w2 ⟨rfl, hb2⟩))
    go_ret
    exact ⟨rfl, by (repeat (first | with_reducible assumption | with_reducible exact Below.refl _ _ | with_reducible refine Below.drew ?_ | with_reducible refine below_drewN ?_ _ | with_reducible refine bw_alloc ?_ _ | (with_reducible refine bw_set ?_ ?_ _; focus (dsimp only; omega)) | (with_reducible apply bw_behind; with_reducible assumption)))⟩
  case pos =>
    have CN : Hid (∀ W, Calls Tryd.prog 4 #[.agg #[.int .u64 (rb : Int), .int .u64 (rt : Int)]] W (Makes (.tuple #[.agg #[.int .u64 (rb : Int), .int .u64 (rt : Int), .slice none 0 0], .int .i64 0]) W)) := hide (fun W => by
      have := new_any rb rt W
      rwa [if_pos hN] at this)
    obtain ⟨hrl, hrt⟩ : rb < rt ∧ rt ≤ 274877906944 := by
      unfold newB pagedB at hN
      simp only [Bool.and_eq_true, decide_eq_true_eq] at hN
      omega
    have CF := hide (fun N => find_uni N rb rt (by omega) hrt)
    have CA : Hid (∀ (L : List Rg) (v : Value) (ln p : Nat) W, Good L rb rt 999 → Found L rb rt ln p → Lst W v L → Calls Tryd.prog 9 #[.agg #[.int .u64 (rb : Int), .int .u64 (rt : Int), v], .agg #[.int .u64 (p : Int), .int .u64 ((p + ln : Nat) : Int)]] W fun e w' => ∃ v', e = .returned (.tuple #[.agg #[.int .u64 (rb : Int), .int .u64 (rt : Int), v'], .int .i64 0]) ∧ Lst w' v' (putF L p (p + ln)) ∧ Below W.heap.size W w') := hide (fun L v ln p W hg hf h => add_any rb rt p (p + ln) v L hg.asc hg.len (found_paged hf) (found_within hf) (found_free hf) W h)
    have CH : Hid (∀ (L : List Rg) (v : Value) (b t : Nat) W, L.length ≤ 1000 → Lst W v L → Calls Tryd.prog 10 #[.agg #[.int .u64 (rb : Int), .int .u64 (rt : Int), v], .agg #[.int .u64 (b : Int), .int .u64 (t : Int)]] W fun e w' => ∃ v', e = .returned (.tuple #[.agg #[.int .u64 (rb : Int), .int .u64 (rt : Int), v'], .int .i64 ((opHold L b t).2 : Int)]) ∧ Lst w' v' (opHold L b t).1 ∧ Below W.heap.size W w') := hide (fun L v b t W hn h => hold_any rb rt b t v L hn W h)
    have CD : Hid (∀ (L : List Rg) (v : Value) (b t : Nat) W, L.length ≤ 1000 → Lst W v L → Calls Tryd.prog 11 #[.agg #[.int .u64 (rb : Int), .int .u64 (rt : Int), v], .agg #[.int .u64 (b : Int), .int .u64 (t : Int)]] W fun e w' => ∃ v', e = .returned (.tuple #[.agg #[.int .u64 (rb : Int), .int .u64 (rt : Int), v'], .int .i64 ((opDrop L b t).2 : Int)]) ∧ Lst w' v' (opDrop L b t).1 ∧ Below W.heap.size W w') := hide (fun L v b t W hn h => drop_any rb rt b t v L hn W h)
    have CL : Hid (∀ (L : List Rg) (v : Value) W, L.length ≤ 1000 → Lst W v L → Calls Tryd.prog 8 #[.agg #[.int .u64 (rb : Int), .int .u64 (rt : Int), v]] W fun e w' => ∃ v', e = .returned v' ∧ Lst w' v' L ∧ Below W.heap.size W w') := hide (fun L v W hn h => all_any (rb : Int) (rt : Int) v L W hn h)
    have HRB : Hid (∀ p : Nat, rb ≤ p → (rb : Int) ≤ (p : Int)) := hide (fun p h => by omega)
    have HRT : Hid (∀ p : Nat, p ≤ rt → (p : Int) ≤ (rt : Int)) := hide (fun p h => by omega)
    generalize (rb : Int) = RB at *
    generalize (rt : Int) = RT at *
    clear hN
    go_enter Tryd.func3, Tryd.ntmps3
    go_upto_region 2 with (go_at_call 4; (with_reducible refine (CN.out _).mono ?_); rintro e w1 ⟨rfl, hb1⟩)
    refine wp_abs (fun W => MapAt W w1.heap.size RB RT (.slice none 0 0) [] ∧ Row W w.heap.size [.int .u64 RB, .int .u64 RT] ∧ Below w.heap.size w W) ⟨ma_new rfl (lst_nil _), k_al _ (k_be hb1 (row_new rfl rfl)), bw_alloc (bw_behind hb1 (bw_alloc (Below.refl _ _) _)) _⟩ ?_
    have hmb : w.heap.size + 1 ≤ w1.heap.size := by have := hb1.size; simp at this; omega
    clear hb1
    generalize w1.heap.size = mb at *
    rintro w2 ⟨hm2, hr2, hB2⟩
    go_upto_region 4 with fail
    repeat ((fail_if_success (with_reducible show Code.wp _ (Code.block _ _) _ _ _)); first | go_values | go_skip | go_guarded | go_step | go_upon | go_back | (simp only [Int.not_lt, Int.not_le] at *; go_simp) | (go_values <;> (try go_simp)))
    go_cut [7] (fun s7 wx => Below w.heap.size w wx)
    case first =>
      go_wp2_with fail
      go_loopw [7] (fun i wr => ∃ (k : Nat) (v : Value) (L : List Rg), i = .int .i64 (k : Int) ∧ k ≤ 40 ∧ k ≤ l.length ∧ MapAt wr mb RB RT v L ∧ Good L rb rt k ∧ Row wr w.heap.size [.int .u64 RB, .int .u64 RT] ∧ Below w.heap.size w wr) (fun i _ => 40 - (intOf i).toNat)
      case atStart => exact ⟨0, _, [], rfl, by omega, by omega, hm2, good_nil _ _, hr2, hB2⟩
      case round =>
        obtain ⟨k, v, L, rfl, hk, hkl, hm, hg, hr, hB⟩ := hrel
        by_cases hgo : k < l.length ∧ k < 40
        · obtain ⟨hk1, hk2⟩ := hgo
          obtain ⟨x, hx⟩ : ∃ x, l[k]? = some x := ⟨l[k], by simp [hk1]⟩
          obtain ⟨ab, off, rfl, hcell⟩ := HA.out k x hx
          have hlt : ab < w.heap.size := World.block_lt_of_cell? _ _ hcell
          have a0 := (hB.cell (p := ⟨ab, off + k, none⟩) hlt).trans hcell
          have g1 : (k : Int) < (l.length : Int) := by omega
          have g2 : (k : Int) < 40 := by omega
          have g3 := lst_one hm.lst
          have HL := hide hkl
          clear hkl hm2 hr2 hB2
          generalize l.length = len at *
          obtain ⟨sv, nv, cv, rfl, -⟩ := g3
          have hlen : L.length ≤ 1000 := by have := hg.len; omega
          obtain ⟨f, cd, hcd, hf, hcall⟩ := CF.out x
          have CFI : Hid (∀ W, Lst W (.slice sv nv cv) L → Calls Tryd.prog 6 #[.agg #[.int .u64 RB, .int .u64 RT, .slice sv nv cv], .int .u64 (x : Int)] W (Makes (.tuple #[.agg #[.int .u64 (fD (f L)), .int .u64 (fU (f L))], .int .i64 (fC (f L) cd)]) W)) := hide (fun W h => hcall L _ W k hg (by omega) h)
          have HF := hide (hf L k hg)
          clear hcall hf hcell hx
          have HM := hide hm
          have HRM := hide hr
          have HG := hide hg
          have m0 := hm.c0
          have m1 := hm.c1
          have m2 := hm.c2
          have hmbl : mb < wr.heap.size := World.block_lt_of_cell? _ _ m0
          clear hm hr hg
          obtain ⟨D, hD⟩ : ∃ D, fD (f L) = D := ⟨_, rfl⟩
          obtain ⟨U, hU⟩ : ∃ U, fU (f L) = U := ⟨_, rfl⟩
          obtain ⟨C, hC⟩ : ∃ C, fC (f L) cd = C := ⟨_, rfl⟩
          rw [hD, hU, hC] at CFI
          have HD := hide hD
          have HU := hide hU
          have HC := hide hC
          clear hD hU hC
          generalize hXI : (x : Int) = XI at *
          go_upto_region 7 with fail
          go_cut [8, 9] (fun s8 s9 wx => ∃ N : Nat, s8 = .pointer (some ⟨N, 0, none⟩) ∧ s9 = .int .i64 C ∧ wr.heap.size ≤ N ∧ wx.cell? ⟨N, 0, none⟩ = some (.int .u64 D) ∧ wx.cell? ⟨N, 1, none⟩ = some (.int .u64 U) ∧ Below wr.heap.size wr wx)
          case first =>
            have LB' := ltB_add
            have LS := ltB_self
            have LA' := alloc_reads
            have LH := alloc_holds
            have habl : ab < wr.heap.size := World.block_lt_of_cell? _ _ a0
            go_region_held3 (fun w' => w'.cell? ⟨mb, 0, none⟩ = some (.int .u64 RB) ∧ w'.cell? ⟨mb, 1, none⟩ = some (.int .u64 RT) ∧ w'.cell? ⟨mb, 2, none⟩ = some (.slice sv nv cv) ∧ w'.cell? ⟨ab, off + k, none⟩ = some (.int .u64 XI) ∧ Below wr.heap.size wr w')
              (first | with_reducible assumption | (refine ⟨?_, ?_, ?_, ?_, ?_⟩ <;> first | ((repeat (first | with_reducible assumption | with_reducible refine c_dr _ ?_ | with_reducible refine c_d1 ?_ | with_reducible refine c_al _ ?_ | (with_reducible refine c_set ?_ ?_; focus (dsimp only; omega)) | (with_reducible apply c_be; with_reducible assumption))); done) | ((repeat (first | with_reducible assumption | with_reducible exact Below.refl _ _ | with_reducible refine Below.drew ?_ | with_reducible refine below_drewN ?_ _ | with_reducible refine bw_alloc ?_ _ | (with_reducible refine bw_set ?_ ?_ _; focus (dsimp only; omega)) | (with_reducible apply bw_behind; with_reducible assumption))); done) | (simp [go_sem, *]; done)))
              (first | (go_at_call 6; (with_reducible refine (CFI.out _ ?_).mono ?_); (refine lst_be ?_ HM.out.lst; (repeat (first | with_reducible assumption | with_reducible exact Below.refl _ _ | with_reducible refine Below.drew ?_ | with_reducible refine below_drewN ?_ _ | with_reducible refine bw_alloc ?_ _ | (with_reducible refine bw_set ?_ ?_ _; focus (dsimp only; omega)) | (with_reducible apply bw_behind; with_reducible assumption)))); rintro e w3 ⟨rfl, hb3⟩; have hr3 := below_reads hb3; have hh3 := below_holds hb3; obtain ⟨m3, hs3⟩ := below_grew hb3))
            all_goals
              go_wp2_with fail
              go_meet
              refine ⟨_, rfl, rfl, ?_, ?_, ?_, ?_⟩
            all_goals (first | with_reducible assumption | omega | (simp; done) | (simp; omega) | ((repeat (first | with_reducible assumption | with_reducible refine c_dr _ ?_ | with_reducible refine c_d1 ?_ | with_reducible refine c_al _ ?_ | (with_reducible refine c_set ?_ ?_; focus (dsimp only; omega)) | (with_reducible apply c_be; with_reducible assumption))); done) | ((repeat (first | with_reducible assumption | with_reducible exact Below.refl _ _ | with_reducible refine Below.drew ?_ | with_reducible refine below_drewN ?_ _ | with_reducible refine bw_alloc ?_ _ | (with_reducible refine bw_set ?_ ?_ _; focus (dsimp only; omega)) | (with_reducible apply bw_behind; with_reducible assumption))); done) | (simp (maxDischargeDepth := 4) [go_sem, *]; done))
          case rest =>
            obtain ⟨N, rfl, rfl, hNN, s0, s1, hbx⟩ := hcut
            have hm := ma_be hbx HM.out
            have hr := k_be hbx HRM.out
            have hB1 := bw_behind hbx hB
            have x0 := c_be hbx a0
            clear m0 m1 m2 a0 hB hbx
            cases hfl : f L with
            | none =>
              have hC : C = (cd : Int) := by rw [← HC.out, hfl]; rfl
              have hC0 : ¬ C = 0 := by omega
              clear hC
              go_wp2_with fail
              go_roundw
              case rel => exact ⟨k + 1, _, L, by go_num, by omega, by have := HL.out; omega, hm, good_more HG.out (by omega), hr, hB1⟩
              case measure => simp [intOf]; omega
            | some pq =>
              obtain ⟨p, q⟩ := pq
              obtain ⟨ln, e, rfl, hxl, hfd, hkp, hdn, hup⟩ := (HF.out p q hfl).ex
              have hDp : D = (p : Int) := by rw [← HD.out, hfl]; rfl
              have hUq : U = ((p + ln : Nat) : Int) := by rw [← HU.out, hfl]; rfl
              have hC0 : C = 0 := by rw [← HC.out, hfl]; rfl
              subst hC0
              have hhi := hfd.hi
              have CE : ∀ W, Tab W → Calls Tryd.prog 7 #[.agg #[.int .u64 D, .int .u64 U]] W (Makes (.tuple #[.agg #[.int .u64 ((dn p (e - 1) / 2 ^ (e - 1) % 16384 : Nat) : Int), .int .u64 ((up (p + ln) (e - 1) / 2 ^ (e - 1) % 4096 : Nat) : Int), .int .u64 (e : Int)], .bool true]) W) := fun W hW => by
                have := encode_any p (p + ln) e (Nat.le_add_right _ _) (by omega) hkp W hW
                rw [decide_eq_true ⟨hdn, hup⟩] at this
                rw [hDp, hUq]
                exact this
              have HE := hide CE
              have t1 : IntKind.u64.wrap (U - D) = (ln : Int) := by rw [hUq, hDp, IntKind.wrap_u64]; omega
              have t2 : ¬ (ln : Int) < XI := by omega
              have t3 : D.tmod 4096 = 0 := by rw [hDp, Int.tmod_eq_emod_of_nonneg (by omega)]; have := hfd.b; omega
              have t4 : U.tmod 4096 = 0 := by rw [hUq, Int.tmod_eq_emod_of_nonneg (by omega)]; have := hfd.t; omega
              have t3e : D % 4096 = 0 := by have := hfd.b; omega
              have t4e : U % 4096 = 0 := by have := hfd.t; omega
              have t5 : ¬ D < RB := by have := HRB.out p hfd.lo; omega
              have t6 : ¬ RT < U := by have := HRT.out (p + ln) hfd.hi; omega
              have CAI := hide (fun (v : Value) W (h : Lst W v L) => CA.out L v ln p W (good_more HG.out (by omega)) hfd h)
              have hne := hfd.ne
              have HAP := hide hfd.ap
              have HGP := hide (good_put HG.out hrt hfd)
              have CHI := hide (fun (v : Value) W (h : Lst W v (putF L p (p + ln))) => CH.out (putF L p (p + ln)) v p (p + ln) W (by rw [put_len]; have := HG.out.len; omega) h)
              have HGH := hide (good_hold HGP.out p (p + ln))
              rw [hold_put hne] at CHI HGH
              have CDI := hide (fun (v : Value) W (h : Lst W v (holdF (putF L p (p + ln)) (aboveF L p) ⟨p, p + ln, 1⟩)) => CD.out _ v p (p + ln) W (by rw [hold_len, put_len]; have := HG.out.len; omega) h)
              rw [drop_hold hne] at CDI
              have CLI := hide (fun (v : Value) W (h : Lst W v L) => CL.out L v W hlen h)
              have CLP := hide (fun (v : Value) W (h : Lst W v (putF L p (p + ln))) => CL.out _ v W (by rw [put_len]; have := HG.out.len; omega) h)
              have HPL := hide (put_len L p (p + ln))
              rw [← hDp, ← hUq] at CAI CHI CDI
              have HDP := hide hDp
              have HUQ := hide hUq
              clear hfl HF hfd hkp hdn hup CE hhi hne hDp hUq hxl hXI
              generalize ((dn p (e - 1) / 2 ^ (e - 1) % 16384 : Nat) : Int) = E1 at *
              generalize ((up (p + ln) (e - 1) / 2 ^ (e - 1) % 4096 : Nat) : Int) = E2 at *
              generalize (e : Int) = E3 at *
              generalize (ln : Int) = LNI at *
              have HTW := hide (HT.out.behind hB1)
              go_upto_region 10 with (go_at_call 7; (with_reducible refine (HE.out _ HTW.out).mono ?_); rintro e w4 ⟨rfl, hb4⟩)
              refine wp_abs (fun W => Row W N [.int .u64 D, .int .u64 U] ∧ W.cell? ⟨ab, off + k, none⟩ = some (.int .u64 XI) ∧ MapAt W mb RB RT (.slice sv nv cv) L ∧ Row W w.heap.size [.int .u64 RB, .int .u64 RT] ∧ Below w.heap.size w W) ⟨k_al _ (k_be hb4 (fun i v hv => match i, hv with | 0, hv => by simp at hv; subst hv; exact s0 | 1, hv => by simp at hv; subst hv; exact s1 | i + 2, hv => by simp at hv)), c_al _ (c_be hb4 x0), ma_al _ (ma_be hb4 hm), k_al _ (k_be hb4 hr), below_alloc (bw_behind hb4 hB1) (Nat.le_refl _) _⟩ ?_
              clear s0 s1 x0 hm hr hB1 hb4 HE
              rintro w5 ⟨hs, x0, hm, hr, hB⟩
              have s0 := hs 0 _ rfl
              have s1 := hs 1 _ rfl
              have r0 := hr 0 _ rfl
              have r1 := hr 1 _ rfl
              go_cut [95] (fun s95 wx => s95 = .bool false ∧ ∃ q, wx = w5.drewN q)
              case first =>
                clear hs hm hr hB
                go_quiet (fail)
                go_wp2_with fail
                go_meet
                refine ⟨congrArg Value.bool ?_, _, rfl⟩
                simp only [Bool.or_eq_false_iff, decide_eq_false_iff_not]
                omega
              case rest =>
                obtain ⟨rfl, q, rfl⟩ := hcut
                have hs1 := k_dr q hs
                have hm1 := ma_dr q hm
                have hr1 := k_dr q hr
                have hB1 := below_drewN hB q
                clear hs hm hr hB s0 s1 r0 r1 x0 t1 t2 t3 t4 t3e t4e t5 t6
                have s0 := hs1 0 _ rfl
                have s1 := hs1 1 _ rfl
                have m0 := hm1.c0
                have m1 := hm1.c1
                have m2 := hm1.c2
                generalize w5.drewN q = w6 at *
                go_upto_region 13 with (go_at_call 8; (with_reducible refine (CLI.out _ _ hm1.lst).mono ?_); rintro e w7 ⟨v7, rfl, hl7, hb7⟩; obtain ⟨s7, n7, c7, rfl, hn7⟩ := lst_one hl7)
                refine wp_abs (fun W => Lst W (.slice s7 n7 c7) L ∧ Row W N [.int .u64 D, .int .u64 U] ∧ MapAt W mb RB RT (.slice sv nv cv) L ∧ Row W w.heap.size [.int .u64 RB, .int .u64 RT] ∧ Below w.heap.size w W) ⟨hl7, k_be hb7 hs1, ma_be hb7 hm1, k_be hb7 hr1, bw_behind hb7 hB1⟩ ?_
                clear hs1 hm1 hr1 hB1 s0 s1 m0 m1 m2 hl7 hb7
                rintro w8 ⟨hl, hs, hm, hr, hB⟩
                have HN7 := hide hn7
                clear hn7
                repeat ((fail_if_success (with_reducible show Code.wp _ (Code.block _ _) _ _ _)); first | go_values | go_skip | go_guarded | go_step | go_upon | go_back | (simp only [Int.not_lt, Int.not_le] at *; go_simp) | (go_values <;> (try go_simp)))
                go_cut [] (fun wx => ∃ q, wx = w8.drewN q)
                case first =>
                  have s0 := hs 0 _ rfl
                  have s1 := hs 1 _ rfl
                  have HLL := hide hl
                  clear hl hs hm hr hB
                  go_wp2_with fail
                  go_loopw [13] (fun s13 wr => ∃ i q : Nat, i ≤ L.length ∧ s13 = .int .i64 (i : Int) ∧ wr = w8.drewN q) (fun s13 _ => L.length - (intOf s13).toNat)
                  case atStart => exact ⟨0, 0, by omega, rfl, rfl⟩
                  case round =>
                    obtain ⟨i, q, hi, rfl, rfl⟩ := hrel
                    rcases Nat.lt_or_eq_of_le hi with hil | rfl
                    · obtain ⟨r, hr⟩ : ∃ r, L[i]? = some r := ⟨L[i], by simp [hil]⟩
                      have hl7 := HLL.out
                      rcases hl7 with ⟨_, h3⟩ | ⟨g, c2, h3, h4, h5, h6, h7⟩
                      · rw [h3] at hil
                        simp at hil
                      injection h3 with h8 h9 h10
                      subst h8 h10
                      obtain ⟨d0, d1, d2⟩ := row_at h7 hr
                      have hap := HAP.out r (List.mem_of_getElem? hr)
                      have hDp := HDP.out
                      have hUq := HUQ.out
                      have hci : ¬ (c7 = i) := by omega
                      have hcn2 : (L.length : Int) ≤ (c7 : Int) := by omega
                      have hii2 : (i : Int) < (L.length : Int) := by omega
                      have hnot : ¬ (r.b : Int) < U ∨ ((r.b : Int) < U ∧ ¬ D < (r.t : Int)) := by omega
                      clear h7 h9 h4 hr hap hDp hUq
                      generalize (r.b : Int) = RB2 at *
                      generalize (r.t : Int) = RT2 at *
                      rcases hnot with t1 | ⟨t1, t2⟩
                      all_goals
                        go_upto_region 16 with fail
                        go_quiet (fail)
                        go_wp2_with fail
                        go_roundw
                        case rel => exact ⟨i + 1, _, by omega, by go_num, by first | rfl | rw [World.drewN_drewN]⟩
                        case measure => simp [intOf]; omega
                    · go_wp2_with fail
                      go_meet
                      exact ⟨q, rfl⟩
                case rest =>
                  obtain ⟨q, rfl⟩ := hcut
                  have hs1 := k_dr q hs
                  have hm1 := ma_dr q hm
                  have hr1 := k_dr q hr
                  have hB1 := below_drewN hB q
                  clear hl hs hm hr hB
                  have s0 := hs1 0 _ rfl
                  have s1 := hs1 1 _ rfl
                  have m0 := hm1.c0
                  have m1 := hm1.c1
                  have m2 := hm1.c2
                  generalize w8.drewN q = w9 at *
                  have hNmb : mb < N := by omega
                  generalize putF L p (p + ln) = LP at *
                  generalize holdF LP (aboveF L p) ⟨p, p + ln, 1⟩ = LH at *
                  go_upto_region 19 with (go_at_call 9; (with_reducible refine (CAI.out _ _ hm1.lst).mono ?_); rintro e wg ⟨v2, rfl, hlp, hbg⟩; obtain ⟨sv2, nv2, cv2, rfl, -⟩ := lst_one hlp)
                  refine wp_abs (fun W => MapAt W wg.heap.size RB RT (.slice sv2 nv2 cv2) LP ∧ MapAt W mb RB RT (.slice sv nv cv) L ∧ Row W N [.int .u64 D, .int .u64 U] ∧ Row W w.heap.size [.int .u64 RB, .int .u64 RT] ∧ Below w.heap.size w W) ⟨ma_new rfl hlp, ma_al _ (ma_be hbg hm1), k_al _ (k_be hbg hs1), k_al _ (k_be hbg hr1), below_alloc (bw_behind hbg hB1) (Nat.le_refl _) _⟩ ?_
                  have hnb : mb < wg.heap.size := by have := World.block_lt_of_cell? _ _ m0; have := hbg.size; dsimp only at *; omega
                  generalize wg.heap.size = nb at *
                  clear hs1 hm1 hr1 hB1 s0 s1 m0 m1 m2 hlp hbg
                  rintro wh ⟨hn, hm, hs, hr, hB⟩
                  have m0 := hn.c0
                  have m1 := hn.c1
                  have m2 := hn.c2
                  have hpl : (LP.length : Int) = (L.length : Int) + 1 := by have := HPL.out; omega
                  have hwl : IntKind.i64.wrap ((L.length : Int) + 1) = (L.length : Int) + 1 := by rw [IntKind.wrap_i64]; omega
                  go_cut [140] (fun s140 wx => s140 = .bool false ∧ Below wh.heap.size wh wx)
                  case first =>
                    clear hm hs hr hB
                    go_wp2_with (go_at_call 8; (with_reducible refine (CLP.out _ _ hn.lst).mono ?_); rintro e wi ⟨v10, rfl, hl10, hb10⟩; obtain ⟨s10, n10, c10, rfl, hn10⟩ := lst_one hl10)
                    go_meet
                    exact ⟨rfl, hb10⟩
                  case rest =>
                    obtain ⟨rfl, hbw⟩ := hcut
                    have hn1 := ma_be hbw hn
                    have hm1 := ma_be hbw hm
                    have hs1 := k_be hbw hs
                    have hr1 := k_be hbw hr
                    have hB1 := bw_behind hbw hB
                    clear hn hm hs hr hB m0 m1 m2 hbw hpl hwl
                    have m0 := hn1.c0
                    have m1 := hn1.c1
                    have m2 := hn1.c2
                    have hmx := hm1
                    have e0 := hmx.own.free 0 (by omega)
                    have e1 := hmx.own.free 1 (by omega)
                    have e2 := hmx.own.free 2 (by omega)
                    have x0 := hmx.c0
                    have x1 := hmx.c1
                    have x2 := hmx.c2
                    go_upto_region 22 with fail
                    refine wp_abs (fun W => MapAt W mb RB RT (.slice sv2 nv2 cv2) LP ∧ Row W N [.int .u64 D, .int .u64 U] ∧ Row W w.heap.size [.int .u64 RB, .int .u64 RT] ∧ Below w.heap.size w W) ⟨ma_store hm1 hn1.lst, k_set (by show mb ≠ N; omega) (k_set (by show mb ≠ N; omega) (k_set (by show mb ≠ N; omega) hs1)), k_set (by show mb ≠ w.heap.size; omega) (k_set (by show mb ≠ w.heap.size; omega) (k_set (by show mb ≠ w.heap.size; omega) hr1)), bw_set (by show w.heap.size ≤ mb; omega) (bw_set (by show w.heap.size ≤ mb; omega) (bw_set (by show w.heap.size ≤ mb; omega) hB1 _) _) _⟩ ?_
                    clear hn1 hm1 hs1 hr1 hB1 m0 m1 m2 hmx e0 e1 e2 x0 x1 x2
                    rintro wj ⟨hm, hs, hr, hB⟩
                    have htm : (k : Int).tmod 3 = ((k % 3 : Nat) : Int) := by rw [Int.tmod_eq_emod_of_nonneg (by omega)]; omega
                    have htm2 : (k : Int).tmod 2 = ((k % 2 : Nat) : Int) := by rw [Int.tmod_eq_emod_of_nonneg (by omega)]; omega
                    by_cases hk3 : k % 3 = 2
                    · rw [hk3] at htm
                      have s0 := hs 0 _ rfl
                      have s1 := hs 1 _ rfl
                      have m0 := hm.c0
                      have m1 := hm.c1
                      have m2 := hm.c2
                      go_upto_region 24 with (go_at_call 10; (with_reducible refine (CHI.out _ _ hm.lst).mono ?_); rintro e wk ⟨v3, rfl, hlp, hbg⟩; obtain ⟨sv3, nv3, cv3, rfl, -⟩ := lst_one hlp)
                      refine wp_abs (fun W => MapAt W wk.heap.size RB RT (.slice sv3 nv3 cv3) LH ∧ MapAt W mb RB RT (.slice sv2 nv2 cv2) LP ∧ Row W N [.int .u64 D, .int .u64 U] ∧ Row W w.heap.size [.int .u64 RB, .int .u64 RT] ∧ Below w.heap.size w W) ⟨ma_new rfl hlp, ma_al _ (ma_be hbg hm), k_al _ (k_be hbg hs), k_al _ (k_be hbg hr), below_alloc (bw_behind hbg hB) (Nat.le_refl _) _⟩ ?_
                      have hhb : mb < wk.heap.size := by have := World.block_lt_of_cell? _ _ m0; have := hbg.size; dsimp only at *; omega
                      generalize wk.heap.size = hb at *
                      clear hm hs hr hB s0 s1 m0 m1 m2 hlp hbg
                      rintro wm ⟨hh, hm, hs, hr, hB⟩
                      have s0 := hs 0 _ rfl
                      have s1 := hs 1 _ rfl
                      have m0 := hh.c0
                      have m1 := hh.c1
                      have m2 := hh.c2
                      go_upto_region 27 with (go_at_call 11; (with_reducible refine (CDI.out _ _ hh.lst).mono ?_); rintro e wn ⟨v4, rfl, hlp, hbg⟩; obtain ⟨sv4, nv4, cv4, rfl, -⟩ := lst_one hlp)
                      refine wp_abs (fun W => MapAt W wn.heap.size RB RT (.slice sv4 nv4 cv4) L ∧ MapAt W hb RB RT (.slice sv3 nv3 cv3) LH ∧ MapAt W mb RB RT (.slice sv2 nv2 cv2) LP ∧ Row W w.heap.size [.int .u64 RB, .int .u64 RT] ∧ Below w.heap.size w W) ⟨ma_new rfl hlp, ma_al _ (ma_be hbg hh), ma_al _ (ma_be hbg hm), k_al _ (k_be hbg hr), below_alloc (bw_behind hbg hB) (Nat.le_refl _) _⟩ ?_
                      have hdb : hb < wn.heap.size := by have := World.block_lt_of_cell? _ _ m0; have := hbg.size; dsimp only at *; omega
                      generalize wn.heap.size = db at *
                      clear hh hm hs hr hB s0 s1 m0 m1 m2 hlp hbg
                      rintro wo ⟨hd, hh, hm, hr, hB⟩
                      by_cases hk2e : k % 2 = 0
                      · rw [hk2e] at htm2
                        have m0 := hd.c0
                        have m1 := hd.c1
                        have m2 := hd.c2
                        have hmx := hh
                        have e0 := hmx.own.free 0 (by omega)
                        have e1 := hmx.own.free 1 (by omega)
                        have e2 := hmx.own.free 2 (by omega)
                        have x0 := hmx.c0
                        have x1 := hmx.c1
                        have x2 := hmx.c2
                        go_upto_region 29 with fail
                        refine wp_abs (fun W => MapAt W hb RB RT (.slice sv4 nv4 cv4) L ∧ MapAt W mb RB RT (.slice sv2 nv2 cv2) LP ∧ Row W w.heap.size [.int .u64 RB, .int .u64 RT] ∧ Below w.heap.size w W) ⟨ma_store hh hd.lst, ma_other hm hh (by omega), k_set (by show hb ≠ w.heap.size; omega) (k_set (by show hb ≠ w.heap.size; omega) (k_set (by show hb ≠ w.heap.size; omega) hr)), bw_set (by show w.heap.size ≤ hb; omega) (bw_set (by show w.heap.size ≤ hb; omega) (bw_set (by show w.heap.size ≤ hb; omega) hB _) _) _⟩ ?_
                        clear hd hh hm hr hB m0 m1 m2 hmx e0 e1 e2 x0 x1 x2
                        rintro wp ⟨hh, hm, hr, hB⟩
                        have m0 := hh.c0
                        have m1 := hh.c1
                        have m2 := hh.c2
                        have hmx := hm
                        have e0 := hmx.own.free 0 (by omega)
                        have e1 := hmx.own.free 1 (by omega)
                        have e2 := hmx.own.free 2 (by omega)
                        have x0 := hmx.c0
                        have x1 := hmx.c1
                        have x2 := hmx.c2
                        go_wp2_with fail
                        go_roundw
                        case rel => exact ⟨k + 1, _, L, by go_num, by omega, by have := HL.out; omega, ma_store hm hh.lst, good_more HG.out (by omega), k_set (by show mb ≠ w.heap.size; omega) (k_set (by show mb ≠ w.heap.size; omega) (k_set (by show mb ≠ w.heap.size; omega) hr)), bw_set (by show w.heap.size ≤ mb; omega) (bw_set (by show w.heap.size ≤ mb; omega) (bw_set (by show w.heap.size ≤ mb; omega) hB _) _) _⟩
                        case measure => simp [intOf]; omega
                      · have hk2' : (((k % 2 : Nat) : Int) == 0) = false := by simp; omega
                        have hk2'' : ¬ ((k % 2 : Nat) : Int) = 0 := by omega
                        generalize ((k % 2 : Nat) : Int) = K2 at *
                        have m0 := hh.c0
                        have m1 := hh.c1
                        have m2 := hh.c2
                        have hmx := hm
                        have e0 := hmx.own.free 0 (by omega)
                        have e1 := hmx.own.free 1 (by omega)
                        have e2 := hmx.own.free 2 (by omega)
                        have x0 := hmx.c0
                        have x1 := hmx.c1
                        have x2 := hmx.c2
                        go_wp2_with fail
                        go_roundw
                        case rel => exact ⟨k + 1, _, LH, by go_num, by omega, by have := HL.out; omega, ma_store hm hh.lst, HGH.out, k_set (by show mb ≠ w.heap.size; omega) (k_set (by show mb ≠ w.heap.size; omega) (k_set (by show mb ≠ w.heap.size; omega) hr)), bw_set (by show w.heap.size ≤ mb; omega) (bw_set (by show w.heap.size ≤ mb; omega) (bw_set (by show w.heap.size ≤ mb; omega) hB _) _) _⟩
                        case measure => simp [intOf]; omega
                    · have hk3' : (((k % 3 : Nat) : Int) == 2) = false := by simp; omega
                      have hk3'' : ¬ ((k % 3 : Nat) : Int) = 2 := by omega
                      generalize ((k % 3 : Nat) : Int) = K3 at *
                      go_wp2_with fail
                      go_roundw
                      case rel => exact ⟨k + 1, _, LP, by go_num, by omega, by have := HL.out; omega, hm, HGP.out, hr, hB⟩
                      case measure => simp [intOf]; omega
        · have hend : (¬ (k : Int) < (l.length : Int)) ∨ ((k : Int) < (l.length : Int) ∧ ¬ (k : Int) < 40) := by omega
          clear hgo hkl hg hm
          generalize l.length = len at *
          rcases hend with hend | ⟨hend1, hend⟩
          all_goals
            go_wp2_with fail
            go_meet
            exact hB
    case rest =>
      go_wp2_with (first | (go_at_call 6; (with_reducible refine (C5.out _).mono ?_); rintro e w3 ⟨rfl, hb3⟩) | (go_at_call 5; (with_reducible refine (C1.out _).mono ?_); rintro e w4 ⟨rfl, hb4⟩))
      go_ret
      exact ⟨rfl, by (repeat (first | with_reducible assumption | with_reducible exact Below.refl _ _ | with_reducible refine Below.drew ?_ | with_reducible refine below_drewN ?_ _ | with_reducible refine bw_alloc ?_ _ | (with_reducible refine bw_set ?_ ?_ _; focus (dsimp only; omega)) | (with_reducible apply bw_behind; with_reducible assumption)))⟩
end Go.Proofs.YtnepnckiciapfaaDoor.RegionApart
