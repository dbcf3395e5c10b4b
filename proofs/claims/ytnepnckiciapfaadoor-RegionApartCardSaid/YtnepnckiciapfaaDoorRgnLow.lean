/-
  Where the lowest span is: the search among the walls.
-/
import Derived.Test.YtnepnckiciapfaaDoorRgnWalls
import Derived.Test.YtnepnckiciapfaaDoorRgnIndex
import Derived.Test.YtnepnckiciapfaaDoorBoundsWalks
import Derived.Deep.RegionHeld3
import Derived.WalkMore
import Derived.Deep.LoopGhost
namespace Go.Proofs.YtnepnckiciapfaaDoor
open Go.RowKit RgnMath BoundsMath

def lowV (l : Nat) : Option Nat → Value
  | some p => .tuple #[.agg #[.int .u64 (p : Int), .int .u64 ((p + l : Nat) : Int)], .bool true]
  | none => .tuple #[.agg #[.int .u64 0, .int .u64 0], .bool false]
def lenV : Value → Nat
  | .slice _ n _ => n
  | _ => 0
theorem wallsF_len (L : List Rg) (rt : Nat) : (wallsF L rt).length = L.length + 1 := by unfold wallsF; simp
theorem wallsF_last (L : List Rg) (rt : Nat) : (wallsF L rt)[L.length]? = some (rt, 18446744073709551615) := by
  unfold wallsF
  rw [List.getElem?_append_right (by simp)]
  simp
theorem wallsF_low {L : List Rg} (h : Asc L) {rt k : Nat} {p : Nat × Nat} (hk : k < L.length) (hp : (wallsF L rt)[k]? = some p) : p.2 ≤ 274877906944 := by
  unfold wallsF at hp
  rw [List.getElem?_append_left (by simpa using hk), List.getElem?_map] at hp
  obtain ⟨r, hr, rfl⟩ := Option.map_eq_some_iff.1 hp
  exact h.le r (List.mem_of_getElem? hr)
theorem drop_at {l : List (Nat × Nat)} {k : Nat} {p : Nat × Nat} (h : l[k]? = some p) : l.drop k = p :: l.drop (k + 1) := by
  obtain ⟨hl, rfl⟩ := List.getElem?_eq_some_iff.1 h
  exact List.drop_eq_getElem_cons hl
/-- What is left of the walls, as a slice. -/
def RestV (g n q : Nat) (s : Value) : Prop := ∃ sa cc, s = .slice sa (n + 1 - q) cc ∧ n + 1 - q ≤ cc ∧ cc ≤ 9223372036854775807 ∧ (q ≤ n → sa = some ⟨g, q * 2, none⟩)

theorem two_set {W : World} {b : Nat} {u v : Value} (ho : Own W b 2) : ((W.setCell ⟨b, 0, none⟩ u).setCell ⟨b, 1, none⟩ v).cell? ⟨b, 0, none⟩ = some u ∧ ((W.setCell ⟨b, 0, none⟩ u).setCell ⟨b, 1, none⟩ v).cell? ⟨b, 1, none⟩ = some v := by
  constructor
  · refine set_at (o_set ho) (by omega) ?_
    rw [if_neg (by omega)]
    refine set_at ho (by omega) ?_
    rw [if_pos rfl]
  · refine set_at (o_set ho) (by omega) ?_
    rw [if_pos rfl]

set_option maxRecDepth 100000 in
set_option maxHeartbeats 8000000 in
theorem low_any (rb rt l x : Nat) (v : Value) (L : List Rg) (hA : Asc L) (hrb : rb ≤ 274877906944) (hl : 0 < l) (hl2 : l ≤ 562949953421312) (hx : x ≤ 48) (hn : L.length ≤ 1000) (w : World) (h : Lst w v L) :
    Calls Tryd.prog 13 #[.agg #[.int .u64 (rb : Int), .int .u64 (rt : Int), v], .int .u64 (l : Int), .int .i64 (x : Int)] w (Makes (lowV l (lowF l x (up rb x) (wallsF L rt))) w) := by
  obtain ⟨n, hN⟩ : ∃ n, n = L.length := ⟨_, rfl⟩
  obtain ⟨ws, hws⟩ : ∃ ws, ws = wallsF L rt := ⟨_, rfl⟩
  have CW : Hid (∀ W, Lst W v L → Calls Tryd.prog 24 #[.agg #[.int .u64 (rb : Int), .int .u64 (rt : Int), v]] W fun e w' => ∃ g c, e = .returned (.slice (some ⟨g, 0, none⟩) (n + 1) c) ∧ n + 1 ≤ c ∧ c ≤ 9223372036854775807 ∧ Row w' g (cellsW ws) ∧ Below W.heap.size W w') := hide (fun W hW => by rw [hN, hws]; exact walls_any rb rt v L hn W hW)
  have CU : Hid (∀ F : Nat, F ≤ 281474976710656 → ∀ W, Calls Tryd.prog 25 #[.int .u64 (F : Int), .int .i64 (x : Int)] W (Quiet (.tuple #[.int .u64 ((up F x : Nat) : Int), .bool true]) W)) := hide (fun F hF W => sup_nat F x hF hx W)
  have WL : Hid (ws.length = n + 1) := hide (by rw [hws, hN, wallsF_len])
  have LAST : Hid (ws[n]? = some (rt, 18446744073709551615)) := hide (by rw [hws, hN, wallsF_last])
  have LOW : Hid (∀ k p, k < n → ws[k]? = some p → p.2 ≤ 274877906944) := hide (fun k p hk hp => wallsF_low hA (by rw [← hN]; exact hk) (by rw [← hws]; exact hp))
  have UPL : Hid (∀ t, up t x < t + 281474976710657) := hide (fun t => by
    have h1 := up_gap t x
    have h2 : 2 ^ x ≤ 2 ^ 48 := Nat.pow_le_pow_right (by omega) hx
    have h3 : (2 : Nat) ^ 48 = 281474976710656 := by decide
    omega)
  have EQ := hide eqi_s
  have H := hide h
  obtain ⟨RES, hRES⟩ : ∃ RES, RES = lowF l x (up rb x) ws := ⟨_, rfl⟩
  have R0 := hide hRES
  rw [← hws, ← hRES]
  obtain ⟨sa, cv, hv⟩ : ∃ sa cv, v = .slice sa n cv := by
    rcases h with ⟨rfl, rfl⟩ | ⟨g, c, rfl, _⟩
    · exact ⟨none, 0, by rw [hN]; rfl⟩
    · exact ⟨_, c, by rw [hN]⟩
  subst hv
  have hn2 : n ≤ 1000 := by omega
  clear h hA hn hws hRES hN hx
  generalize hX : (x : Int) = X at *
  generalize hRT : (rt : Int) = RT at *
  clear hX hRT
  go_enter Tryd.func13, Tryd.ntmps13
  go_wp2_with fail
  go_step3
  go_upto_region 2 with fail
  go_cut [9, 10] (fun s9 s10 wx => s9 = .int .u64 (rb : Int) ∧ (∃ g c, s10 = .slice (some ⟨g, 0, none⟩) (n + 1) c ∧ n + 1 ≤ c ∧ c ≤ 9223372036854775807 ∧ Row wx g (cellsW ws)) ∧ wx.cell? ⟨w.heap.size + 1 + 1, 0, none⟩ = some (.int .u64 0) ∧ wx.cell? ⟨w.heap.size + 1 + 1, 1, none⟩ = some (.int .u64 0) ∧ Own wx (w.heap.size + 1) 2 ∧ Own wx (w.heap.size + 1 + 1) 2 ∧ w.heap.size + 3 ≤ wx.heap.size ∧ Below w.heap.size w wx)
  case first =>
    refine wp_abs (fun w' => w'.cell? ⟨w.heap.size, 0, none⟩ = some (.int .u64 (rb : Int)) ∧ w'.cell? ⟨w.heap.size, 1, none⟩ = some (.int .u64 RT) ∧ w'.cell? ⟨w.heap.size, 2, none⟩ = some (.slice sa n cv) ∧ w'.cell? ⟨w.heap.size + 1 + 1, 0, none⟩ = some (.int .u64 0) ∧ w'.cell? ⟨w.heap.size + 1 + 1, 1, none⟩ = some (.int .u64 0) ∧ Own w' (w.heap.size + 1) 2 ∧ Own w' (w.heap.size + 1 + 1) 2 ∧ w.heap.size + 3 ≤ w'.heap.size ∧ Below w.heap.size w w') ⟨by simp [go_sem], by simp [go_sem], by simp [go_sem], by simp [go_sem], by simp [go_sem], o_al _ (o_new (by simp) (by simp)), o_new (by simp) (by simp), by simp, bw_alloc (bw_alloc (bw_alloc (Below.refl _ _) _) _) _⟩ ?_
    rintro w0 ⟨m0, m1, m2, f0, f1, o1, o2, hz, hB0⟩
    go_region_held3 (fun w' => w'.cell? ⟨w.heap.size, 0, none⟩ = some (.int .u64 (rb : Int)) ∧ w'.cell? ⟨w.heap.size, 1, none⟩ = some (.int .u64 RT) ∧ w'.cell? ⟨w.heap.size, 2, none⟩ = some (.slice sa n cv) ∧ w'.cell? ⟨w.heap.size + 1 + 1, 0, none⟩ = some (.int .u64 0) ∧ w'.cell? ⟨w.heap.size + 1 + 1, 1, none⟩ = some (.int .u64 0) ∧ Own w' (w.heap.size + 1) 2 ∧ Own w' (w.heap.size + 1 + 1) 2 ∧ Lst w' (.slice sa n cv) L ∧ Below w.heap.size w w')
      (first | with_reducible assumption | (refine ⟨?_, ?_, ?_, ?_, ?_, ?_, ?_, ?_, ?_⟩ <;> first | ((repeat (first | with_reducible assumption | with_reducible refine c_dr _ ?_ | with_reducible refine c_d1 ?_ | with_reducible refine c_al _ ?_ | (with_reducible refine c_set ?_ ?_; focus (dsimp only; omega)) | (with_reducible apply c_be; with_reducible assumption))); done) | ((repeat (first | with_reducible assumption | with_reducible refine o_dr _ ?_ | with_reducible refine o_d1 ?_ | with_reducible refine o_set ?_ | (with_reducible refine o_new ?_ ?_; (focus (simp)); (focus (simp))) | with_reducible refine o_al _ ?_ | (with_reducible apply o_be; with_reducible assumption))); done) | ((repeat (first | with_reducible assumption | with_reducible exact Below.refl _ _ | with_reducible refine Below.drew ?_ | with_reducible refine below_drewN ?_ _ | with_reducible refine bw_alloc ?_ _ | (with_reducible refine bw_set ?_ ?_ _; focus (dsimp only; omega)) | (with_reducible apply bw_behind; with_reducible assumption))); done) | (refine lst_be ?_ H.out; (repeat (first | with_reducible assumption | with_reducible exact Below.refl _ _ | with_reducible refine Below.drew ?_ | with_reducible refine below_drewN ?_ _ | with_reducible refine bw_alloc ?_ _ | (with_reducible refine bw_set ?_ ?_ _; focus (dsimp only; omega)) | (with_reducible apply bw_behind; with_reducible assumption))); done) | (simp [go_sem, *]; done)))
      ((go_at_call 24; (with_reducible refine (CW.out _ ?_).mono ?_); (refine lst_be ?_ H.out; (repeat (first | with_reducible assumption | with_reducible exact Below.refl _ _ | with_reducible refine Below.drew ?_ | with_reducible refine below_drewN ?_ _ | with_reducible refine bw_alloc ?_ _ | (with_reducible refine bw_set ?_ ?_ _; focus (dsimp only; omega)) | (with_reducible apply bw_behind; with_reducible assumption)))); rintro e w1 ⟨g, c, rfl, hc1, hc2, hrw, hb1⟩))
    all_goals
      go_wp2_with fail
      go_meet
      refine ⟨rfl, ⟨g, c, rfl, hc1, hc2, ?_⟩, ?_, ?_, ?_, ?_, ?_, ?_⟩
    all_goals (first | with_reducible assumption | ((repeat (first | with_reducible assumption | with_reducible refine c_dr _ ?_ | with_reducible refine c_d1 ?_ | with_reducible refine c_al _ ?_ | (with_reducible refine c_set ?_ ?_; focus (dsimp only; omega)) | (with_reducible apply c_be; with_reducible assumption))); done) | ((repeat (first | with_reducible assumption | with_reducible refine o_dr _ ?_ | with_reducible refine o_d1 ?_ | with_reducible refine o_set ?_ | (with_reducible refine o_new ?_ ?_; (focus (simp)); (focus (simp))) | with_reducible refine o_al _ ?_ | (with_reducible apply o_be; with_reducible assumption))); done) | ((repeat (first | with_reducible assumption | with_reducible exact Below.refl _ _ | with_reducible refine Below.drew ?_ | with_reducible refine below_drewN ?_ _ | with_reducible refine bw_alloc ?_ _ | (with_reducible refine bw_set ?_ ?_ _; focus (dsimp only; omega)) | (with_reducible apply bw_behind; with_reducible assumption))); done) | ((repeat (first | with_reducible assumption | with_reducible refine k_dr _ ?_ | with_reducible refine k_d1 ?_ | with_reducible refine k_al _ ?_ | (with_reducible apply k_be; with_reducible assumption))); done) | (have := hb1.size; simp at this ⊢; omega))
  case rest =>
    obtain ⟨rfl, ⟨g, c, rfl, hc1, hc2, hrw⟩, f0, f1, o1, o2, hz, hB⟩ := hcut
    go_wp2_with fail
    go_step3
    go_wp2_with fail
    go_loopw [9, 10] (fun s9 s10 wr => ∃ F q : Nat, q ≤ n + 1 ∧ s9 = .int .u64 (F : Int) ∧ (q ≤ n → F ≤ 274877906944) ∧ RestV g n q s10 ∧ Hid (RES = lowF l x (up F x) (ws.drop q)) ∧ Below wc.heap.size wc wr) (fun _ s10 _ => lenV s10)
    case atStart => exact ⟨rb, 0, by omega, rfl, fun _ => hrb, ⟨_, c, rfl, by omega, hc2, fun _ => by rw [Nat.zero_mul]⟩, hide (by rw [R0.out, List.drop_zero]), Below.refl _ _⟩
    case round =>
      rename World => wo
      obtain ⟨F, q, hq, rfl, hF, ⟨sa2, cc, rfl, hcc, hcc2, hsa⟩, hR, hb⟩ := hrel
      have fr0 := c_be hb f0
      have fr1 := c_be hb f1
      have or1 := o_be hb o1
      have or2 := o_be hb o2
      have hrr := hide (k_be hb hrw)
      have hBr : Below w.heap.size w wo := hB.trans (hb.mono (by omega))
      have hzr : w.heap.size + 3 ≤ wo.heap.size := by have := hb.size; omega
      rcases Nat.lt_or_eq_of_le hq with hlt | rfl
      · obtain ⟨m, hm⟩ : ∃ m, n + 1 - q = m := ⟨_, rfl⟩
        have hsa2 := hsa (by omega)
        subst hsa2
        rw [hm] at hcc ⊢
        have hm0 : (0 : Int) < (m : Int) := by omega
        have hF2 := hF (by omega)
        obtain ⟨B, hBB⟩ : ∃ B, B = up F x := ⟨_, rfl⟩
        have cu := CU.out F (by omega)
        have hBl : B < 1000000000000000 := by have := UPL.out F; omega
        rw [← hBB] at cu hR
        have C1 := hide cu
        have hS : IntKind.u64.wrap ((B : Int) + (l : Int)) = ((B + l : Nat) : Int) := by rw [IntKind.wrap_u64]; omega
        obtain ⟨S, hSS⟩ : ∃ S, S = B + l := ⟨_, rfl⟩
        rw [← hSS] at hS
        have hadd : (B : Int) + (l : Int) = (S : Int) := by omega
        have hSl : S < 2000000000000000 := by omega
        have hS2 : IntKind.u64.wrap (S : Int) = (S : Int) := by rw [IntKind.wrap_u64]; omega
        have HS := hide hSS
        clear hS hSS
        clear cu hsa hF hBB
        go_upto_region 5 with (go_at_call 25; refine (C1.out _).mono ?_; rintro e w2 hq2; obtain ⟨rfl, hb2⟩ := quiet_makes hq2)
        have hz2 := hb2.size
        go_upto_region 6 with fail
        refine wp_abs (fun W => W.cell? ⟨w2.heap.size, 0, none⟩ = some (.int .u64 (B : Int)) ∧ W.cell? ⟨w2.heap.size, 1, none⟩ = some (.int .u64 (S : Int)) ∧ w2.heap.size + 1 ≤ W.heap.size ∧ Below w2.heap.size w2 W) ?_ ?_
        · refine ⟨?_, ?_, ?_, ?_⟩
          · simp [go_sem]
          · simp [go_sem]
          · simp
          · (repeat (first | with_reducible assumption | with_reducible exact Below.refl _ _ | with_reducible refine Below.drew ?_ | with_reducible refine below_drewN ?_ _ | with_reducible refine bw_alloc ?_ _ | (with_reducible refine bw_set ?_ ?_ _; focus (dsimp only; omega)) | (with_reducible apply bw_behind; with_reducible assumption)))
        rintro w3 ⟨s0, s1, hz3, hb3⟩
        go_wp2_with fail
        go_loopw [10, 37] (fun s10 s37 wr => ∃ i : Nat, i ≤ m ∧ s10 = .slice (some ⟨g, q * 2, none⟩) m cc ∧ s37 = .int .i64 (i : Int) ∧ Hid (RES = lowF l x B (ws.drop (q + i))) ∧ Hid (∀ k p, q ≤ k → k < q + i → ws[k]? = some p → p.2 ≤ B) ∧ Below w3.heap.size w3 wr) (fun _ s37 _ => m - (intOf s37).toNat)
        case atStart => exact ⟨0, by omega, rfl, rfl, hR, hide (fun k p h1 h2 => by omega), Below.refl _ _⟩
        case round =>
          obtain ⟨i, him, rfl, rfl, hRi, hps, hbi⟩ := hrel
          have hbx : Below wo.heap.size wo wr := hb2.trans ((hb3.trans (hbi.mono (by omega))).mono hz2)
          have x0 := c_be hbi s0
          have x1 := c_be hbi s1
          have y0 := c_be hbx fr0
          have y1 := c_be hbx fr1
          have ow1 := o_be hbx or1
          have ow2 := o_be hbx or2
          have hzi : w2.heap.size < wr.heap.size := by have := hbi.size; omega
          have hMi : w.heap.size + 1 + 1 < wr.heap.size := by omega
          have hMi1 : w.heap.size + 1 < wr.heap.size := by omega
          have hMi2 : ¬ w.heap.size + 1 + 1 = wr.heap.size := by omega
          rcases Nat.lt_or_eq_of_le him with hil | rfl
          · obtain ⟨p, hp⟩ : ∃ p, ws[q + i]? = some p := by
              have := WL.out
              exact ⟨ws[q + i]'(by omega), by simp [show q + i < ws.length by omega]⟩
            obtain ⟨d0, d1⟩ := rowW_at (k_be hbx hrr.out) hp
            rw [show (q + i) * 2 = q * 2 + i * 2 by omega] at d0 d1
            have HP := hide hp
            have hil2 : (i : Int) < (m : Int) := by omega
            have hRn := hRi.out
            rw [drop_at hp] at hRn
            obtain ⟨P1, P2⟩ := p
            simp only at d0 d1
            unfold lowF at hRn
            have g0 := ow2.free 0 (by omega)
            have g1 := ow2.free 1 (by omega)
            clear hp
            by_cases t1 : S ≤ P1
            · have hres : RES = some B := by rw [hRn, if_pos (by have := HS.out; simp only; omega)]
              subst hres
              have t1' : (S : Int) ≤ (P1 : Int) := by omega
              have OW2 := hide ow2
              have OW1 := hide ow1
              clear hRn hRi hps hR
              have hSp : decide ((S : Int) = 0) = false := decide_eq_false (by have := HS.out; omega)
              have E1 := EQ.out (B : Int) (S : Int) 0 0
              rw [hSp, Bool.and_false] at E1
              clear hSp
              go_upto_region 14 with fail
              refine wp_abs (fun W => W.cell? ⟨w.heap.size + 1 + 1, 0, none⟩ = some (.int .u64 (B : Int)) ∧ W.cell? ⟨w.heap.size + 1 + 1, 1, none⟩ = some (.int .u64 (S : Int)) ∧ Own W (w.heap.size + 1) 2 ∧ Below w.heap.size w W) ⟨c_al _ (two_set OW2.out).1, c_al _ (two_set OW2.out).2, o_al _ (o_set (o_set OW1.out)), bw_alloc (bw_set (p := ⟨w.heap.size + 1 + 1, 1, none⟩) (by show w.heap.size ≤ w.heap.size + 1 + 1; omega) (bw_set (p := ⟨w.heap.size + 1 + 1, 0, none⟩) (by show w.heap.size ≤ w.heap.size + 1 + 1; omega) (hBr.trans (hbx.mono hBr.size)) _) _) _⟩ ?_
              rintro w5 ⟨z0, z1, z2, z3⟩
              have e0 := z2.free 0 (by omega)
              have e1 := z2.free 1 (by omega)
              obtain ⟨e2, e3⟩ := z2.val 0 (by omega)
              obtain ⟨e4, e5⟩ := z2.val 1 (by omega)
              clear z2
              go_region
              all_goals
                go_wp2_with fail
                try rw [Exit.noGoto_ret]
                refine bodyPost_ret (v := .tuple #[.agg #[.int .u64 (B : Int), .int .u64 (S : Int)], .bool true]) (by simp (maxDischargeDepth := 4) [results, Tryd.results13, go_sem, *]) rfl ?_
                exact ⟨by unfold lowV; rw [HS.out], by (repeat (first | with_reducible assumption | with_reducible exact Below.refl _ _ | with_reducible refine Below.drew ?_ | with_reducible refine below_drewN ?_ _ | with_reducible refine bw_alloc ?_ _ | (with_reducible refine bw_set ?_ ?_ _; focus (dsimp only; omega)) | (with_reducible apply bw_behind; with_reducible assumption)))⟩
            · have t1' : (P1 : Int) < (S : Int) := by omega
              rw [if_neg (by have := HS.out; simp only; omega)] at hRn
              have hps2 := hide hps.out
              have HPO := HP.out
              have hw1 : IntKind.i64.wrap ((i : Int) + 1) = (i : Int) + 1 := by rw [IntKind.wrap_i64]; omega
              have hb1 : (0 : Int) ≤ (i : Int) + 1 := by omega
              have htn : ((i : Int) + 1).toNat = i + 1 := by omega
              have hle : (i : Int) + 1 ≤ (m : Int) := by omega
              have hle3 : (m : Int) ≤ (cc : Int) := by omega
              by_cases t2 : B < P2
              · have t2' : (B : Int) < (P2 : Int) := by omega
                rw [if_pos (by simp only; omega)] at hRn
                have HRN := hide hRn
                have HPO := hide HPO
                clear hRn hRi hps hps2 hR ow1 ow2 or1 or2
                go_upto_region 12 with fail
                go_quiet (fail)
                go_wp2_with fail
                go_roundw
                case rel =>
                  exact ⟨P2, q + i + 1, by omega, rfl, fun h => LOW.out (q + i) (P1, P2) (by omega) HPO.out, ⟨if cc = i + 1 then some ⟨g, q * 2, none⟩ else some ⟨g, q * 2 + (i + 1) * 2, none⟩, cc - (i + 1), by rw [show n + 1 - (q + i + 1) = m - (i + 1) by omega], by omega, by omega, fun h => by rw [if_neg (by omega), show q * 2 + (i + 1) * 2 = (q + i + 1) * 2 by omega]⟩, HRN, hb.trans ((below_drewN (bw_alloc hbx _) _).mono hb.size)⟩
                case measure => simp [lenV]; omega
              · have t2' : (P2 : Int) ≤ (B : Int) := by omega
                rw [if_neg (by simp only; omega)] at hRn
                have HRN := hide hRn
                have HPS := hide (fun (k : Nat) (p : Nat × Nat) (h1 : q ≤ k) (h2 : k < q + i + 1) (h3 : ws[k]? = some p) => (show p.2 ≤ B by
                  rcases Nat.lt_or_ge k (q + i) with h4 | h4
                  · exact hps2.out k p h1 h4 h3
                  · obtain rfl : k = q + i := by omega
                    rw [HPO] at h3
                    obtain rfl := Option.some.inj h3
                    show P2 ≤ B
                    omega))
                clear hRn hRi hps hps2 hR ow1 ow2 or1 or2 HPO
                go_wp2_with fail
                go_roundw
                case rel => exact ⟨i + 1, by omega, rfl, by go_num, HRN, hide (fun k p h1 h2 h3 => HPS.out k p h1 (by omega) h3), bw_alloc hbi _⟩
                case measure => simp [intOf]; omega
          · have h1 := hps.out n (rt, 18446744073709551615) (by omega) (by omega) LAST.out
            simp only at h1
            omega
      · have hres : RES = none := by rw [hR.out, List.drop_of_length_le (by rw [WL.out]; exact Nat.le_refl _)]; rfl
        subst hres
        have E1 := EQ.out 0 0 0 0
        rw [show (decide ((0 : Int) = 0) && decide ((0 : Int) = 0)) = true by decide] at E1
        rw [Nat.sub_self] at hcc ⊢
        go_upto_region 14 with fail
        refine wp_abs (fun W => W.cell? ⟨w.heap.size + 1 + 1, 0, none⟩ = some (.int .u64 0) ∧ W.cell? ⟨w.heap.size + 1 + 1, 1, none⟩ = some (.int .u64 0) ∧ Own W (w.heap.size + 1) 2 ∧ Below w.heap.size w W) ⟨fr0, fr1, or1, hBr⟩ ?_
        rintro w5 ⟨z0, z1, z2, z3⟩
        have e0 := z2.free 0 (by omega)
        have e1 := z2.free 1 (by omega)
        obtain ⟨e2, e3⟩ := z2.val 0 (by omega)
        obtain ⟨e4, e5⟩ := z2.val 1 (by omega)
        clear z2
        go_region
        all_goals
          go_wp2_with fail
          try rw [Exit.noGoto_ret]
          refine bodyPost_ret (v := .tuple #[.agg #[.int .u64 0, .int .u64 0], .bool false]) (by simp (maxDischargeDepth := 4) [results, Tryd.results13, go_sem, *]) rfl ?_
          exact ⟨rfl, by (repeat (first | with_reducible assumption | with_reducible exact Below.refl _ _ | with_reducible refine Below.drew ?_ | with_reducible refine below_drewN ?_ _ | with_reducible refine bw_alloc ?_ _ | (with_reducible refine bw_set ?_ ?_ _; focus (dsimp only; omega)) | (with_reducible apply bw_behind; with_reducible assumption)))⟩
end Go.Proofs.YtnepnckiciapfaaDoor
