/-
  What inst.read answers.
-/
import Derived.Test.YtlommbeokbicjaaGreatDoorInst4
import Derived.Deep.DeepCutAuto
import Derived.Deep.CutBlock
import Derived.Test.YtlommbeokbicjaaGreatDoorTail
namespace Go.Proofs.YtlommbeokbicjaaGreatDoor
open Go.RowKit Words FieldMath InstMath

def PCells (W : World) (N i : Nat) (p : Prt) : Prop :=
    W.cell? ⟨N, i * 4, none⟩ = some (.int .i64 (p.1 : Int)) ∧ W.cell? ⟨N, i * 4 + 1, none⟩ = some (.int .i64 (p.2.1 : Int)) ∧
    W.cell? ⟨N, i * 4 + 2, none⟩ = some (.int .i64 (p.2.2.1 : Int)) ∧ W.cell? ⟨N, i * 4 + 3, none⟩ = some (.int .i64 (p.2.2.2 : Int))
theorem parts_one {v : Value} {L : List Prt} {W : World} {b : Nat} (h : Parts v L W b) : ∃ sl, v = .slice sl L.length L.length ∧ ∀ i p, L[i]? = some p → ∃ N, b ≤ N ∧ sl = some ⟨N, 0, none⟩ ∧ PCells W N i p := by
  rcases h with ⟨rfl, rfl⟩ | ⟨N, h0, rfl, h2⟩
  · exact ⟨none, rfl, fun i p h => by simp at h⟩
  · exact ⟨_, rfl, fun i p h => ⟨N, h0, rfl, h2 i p h⟩⟩
theorem pc_be {W W' : World} {N i : Nat} {p : Prt} (hb : Below W.heap.size W W') (h : PCells W N i p) : PCells W' N i p := ⟨c_be hb h.1, c_be hb h.2.1, c_be hb h.2.2.1, c_be hb h.2.2.2⟩
theorem pc_set {W : World} {N i : Nat} {p : Prt} {a : Addr} {u : Value} (hne : a.block ≠ N) (h : PCells W N i p) : PCells (W.setCell a u) N i p := ⟨c_set hne h.1, c_set hne h.2.1, c_set hne h.2.2.1, c_set hne h.2.2.2⟩
def instV (k a b c m : Int) : Value := .agg #[.int .i64 k, .int .i64 a, .int .i64 b, .int .i64 c, .int .i64 m]
set_option maxHeartbeats 2000000 in
theorem read_any (k : Nat) (h1 : 1 ≤ k) (h2 : k ≤ 69) (x : BitVec 64) (hx : x.toNat < 4294967296) (w : World) :
    Calls Tryz.prog 38 #[.int .i64 (k : Int), .int .u32 (x.toNat : Int)] w (Makes (instV k (opsI k x 0) (opsI k x 1) (opsI k x 2) (opsI k x 3)) w) := by
  have hsh := shape_of h1 h2
  have CS : Hid (∀ W, Calls Tryz.prog 15 #[.int .i64 (k : Int)] W (Quiet (.int .u8 (shp k : Int)) W)) := hide (shape_yes k ⟨h1, h2⟩)
  have CP : Hid (∀ W, Calls Tryz.prog 16 #[.int .u8 (shp k : Int)] W (GivesP (partsL (shp k)) W)) := hide (parts_any (shp k) hsh)
  have CN : Hid (∀ W, Calls Tryz.prog 41 #[.int .u8 (shp k : Int)] W (Makes (.agg #[.int .i64 (nW (shp k) : Int), .bool (nS (shp k)), .int .i64 (nK (shp k) : Int)]) W)) := hide (num_any (shp k) hsh)
  have ok := ok_shape hsh
  have H4 := hide ok.four
  have htop := hide ok.top
  have hlen := parts_len hsh
  have hux : IntKind.u64.wrap (x.toNat : Int) = (x.toNat : Int) := by
    rw [IntKind.wrap_u64]; omega
  have e0 : opsI k x 0 = (rawB k x 0).toInt := by unfold opsI opsB; rw [if_neg (fun h => absurd h.1 (by decide))]
  have e1 : opsI k x 1 = (rawB k x 1).toInt := by unfold opsI opsB; rw [if_neg (fun h => absurd h.1 (by decide))]
  have e2 : opsI k x 2 = (rawB k x 2).toInt := by unfold opsI opsB; rw [if_neg (fun h => absurd h.1 (by decide))]
  have e3 : opsI k x 3 = (if nS (shp k) = true then signB (rawB k x 3) (nW (shp k)) else rawB k x 3).toInt := by
    unfold opsI opsB
    cases nS (shp k) <;> simp
  rw [e0, e1, e2, e3]
  obtain ⟨T, hT⟩ : ∃ T, rawB k x = T := ⟨_, rfl⟩
  rw [hT]
  unfold rawB at hT
  have HT := hide (hT : readL x (partsL (shp k)) (fun _ => 0) = T)
  clear e0 e1 e2 e3 ok hT
  obtain ⟨L, hL⟩ : ∃ L, partsL (shp k) = L := ⟨_, rfl⟩
  rw [hL] at hlen CP H4 htop HT
  generalize nW (shp k) = n0 at *
  generalize nK (shp k) = k0 at *
  generalize nS (shp k) = s0 at *
  generalize shp k = s at *
  clear hL hx
  obtain ⟨R3, hR3⟩ : ∃ R3, (if s0 = true then signB (T 3) n0 else T 3) = R3 := ⟨_, rfl⟩
  rw [hR3]
  have HR3 := hide hR3
  clear hR3
  have SS := cell_same
  have LB' := ltB_add
  have LS := ltB_self
  have LA' := alloc_reads
  have LH := alloc_holds
  go_enter Tryz.func38, Tryz.ntmps38
  go_wp2_with (first | (go_at_call 15; (with_reducible refine (CS.out _).mono ?_); rintro e w' ⟨rfl, n1, rfl⟩) | (go_at_call 16; (with_reducible refine (CP.out _).mono ?_); rintro e w1 ⟨v, rfl, hb1, hp1⟩; (obtain ⟨sl, rfl, hp5⟩ := parts_one hp1)))
  have hA : ∀ o, o < 4 → w1.cell? ⟨w.heap.size + 1, o, none⟩ = some (.int .u64 ((0#64).toNat : Int)) := by
    intro o ho
    match o, ho with
    | 0, _ => exact c_be hb1 (by simp [go_sem])
    | 1, _ => exact c_be hb1 (by simp [go_sem])
    | 2, _ => exact c_be hb1 (by simp [go_sem])
    | 3, _ => exact c_be hb1 (by simp [go_sem])
  have hO : Own w1 (w.heap.size + 1) 4 := by
    repeat (first | with_reducible assumption | with_reducible refine o_dr _ ?_ | with_reducible refine o_d1 ?_ | with_reducible refine o_set ?_ | (with_reducible refine o_new ?_ ?_; (focus (simp)); (focus (simp))) | with_reducible refine o_al _ ?_ | (with_reducible apply o_be; with_reducible assumption))
  have hO5 : Own w1 w.heap.size 5 := by
    repeat (first | with_reducible assumption | with_reducible refine o_dr _ ?_ | with_reducible refine o_d1 ?_ | with_reducible refine o_set ?_ | (with_reducible refine o_new ?_ ?_; (focus (simp)); (focus (simp))) | with_reducible refine o_al _ ?_ | (with_reducible apply o_be; with_reducible assumption))
  have hw1 : Below w.heap.size w w1 := by
    repeat (first | with_reducible assumption | with_reducible exact Below.refl _ _ | with_reducible refine Below.drew ?_ | with_reducible refine below_drewN ?_ _ | with_reducible refine bw_alloc ?_ _ | (with_reducible refine bw_set ?_ ?_ _; focus (dsimp only; omega)) | (with_reducible apply bw_behind; with_reducible assumption))
  have hp2 : ∀ i p, L[i]? = some p → ∃ N, w.heap.size + 1 < N ∧ sl = some ⟨N, 0, none⟩ ∧ PCells w1 N i p := fun i p h => by
    obtain ⟨N, hN, e, hc⟩ := hp5 i p h
    exact ⟨N, by simp at hN; omega, e, hc⟩
  clear hb1 hp1 hp5 CS CP
  go_loopw [15] (fun i wr => ∃ (j : Nat) (f : Nat → BitVec 64), j ≤ L.length ∧ i = .int .i64 (j : Int) ∧ readL x (L.drop j) f = T ∧ (∀ o, o < 4 → wr.cell? ⟨w.heap.size + 1, o, none⟩ = some (.int .u64 ((f o).toNat : Int))) ∧ Own wr (w.heap.size + 1) 4 ∧ Own wr w.heap.size 5 ∧ Below w.heap.size w wr ∧
      (∀ i p, L[i]? = some p → ∃ N, w.heap.size + 1 < N ∧ sl = some ⟨N, 0, none⟩ ∧ PCells wr N i p)) (fun i _ => L.length - (intOf i).toNat)
  case atStart => exact ⟨0, fun _ => 0, by omega, rfl, HT.out, hA, hO, hO5, hw1, hp2⟩
  case round =>
    clear hA hO hO5 hw1 hp2 w1
    obtain ⟨j, f, hj, rfl, hE, hA, hO, hO5, hB, hp2⟩ := hrel
    by_cases hlt : j < L.length
    · obtain ⟨N, hN, rfl, p0, p1, p2, p3⟩ := hp2 j L[j] (by simp [hlt])
      have hmem : L[j] ∈ L := List.getElem_mem hlt
      have ho := H4.out _ hmem
      have ht := htop.out _ hmem
      rw [List.drop_eq_getElem_cons hlt, readL] at hE
      generalize L[j] = p at *
      obtain ⟨o, l, n, at'⟩ := p
      simp only at p0 p1 p2 p3 ho hE ht
      have hl64 : l ≤ 64 := by omega
      have hl64' : (l : Int) ≤ 64 := by omega
      have a0 := hA o ho
      have CG : Hid (∀ W, Calls Tryz.prog 71 #[.int .u64 (x.toNat : Int), .int .i64 (at' : Int), .int .i64 (n : Int)] W (Quiet (.int .u64 ((getB x at' n).toNat : Int)) W)) := hide (get_any x at' n)
      have hs1 := shl_bv (getB x at' n) l
      have hs2 := or_bv (f o) (getB x at' n <<< l)
      have HE := hide hE
      have HA := hide hA
      have HP := hide hp2
      clear hE hA hp2 hmem
      obtain ⟨Z, hZ⟩ : ∃ Z, f o ||| getB x at' n <<< l = Z := ⟨_, rfl⟩
      rw [hZ] at hs2
      have HZ := hide hZ
      clear hZ
      generalize getB x at' n <<< l = G2 at hs1 hs2
      generalize getB x at' n = G1 at hs1 CG
      generalize f o = F0 at a0 hs2
      go_upto_block 1 with fail
      go_cut [] (fun wx => ∃ W2 : World, Below wr.heap.size wr W2 ∧ wx = W2.setCell ⟨w.heap.size + 1, o, none⟩ (.int .u64 (Z.toNat : Int)))
      case first =>
        go_upto_region 6 with fail
        refine wp_abs (fun W => Below wr.heap.size wr W ∧ W.cell? ⟨wr.heap.size, 0, none⟩ = some (.int .i64 (o : Int)) ∧ W.cell? ⟨wr.heap.size, 1, none⟩ = some (.int .i64 (l : Int)) ∧ W.cell? ⟨wr.heap.size, 2, none⟩ = some (.int .i64 (n : Int)) ∧ W.cell? ⟨wr.heap.size, 3, none⟩ = some (.int .i64 (at' : Int))) ?_ ?_
        · refine ⟨?_, ?_, ?_, ?_, ?_⟩
          · repeat (first | with_reducible assumption | with_reducible exact Below.refl _ _ | with_reducible refine Below.drew ?_ | with_reducible refine below_drewN ?_ _ | with_reducible refine bw_alloc ?_ _ | (with_reducible refine bw_set ?_ ?_ _; focus (dsimp only; omega)) | (with_reducible apply bw_behind; with_reducible assumption))
          all_goals (simp [go_sem])
        rintro w2 ⟨hB2, b0, b1, b2, b3⟩
        have a2 := c_be hB2 a0
        have o2 := o_be hB2 hO
        have f2 := o2.free o ho
        refine wp_region_tail_lit (C := fun W => ∃ y : Behind w2.heap.size w2, W = y.world) 16 _ rfl (by kernel_rfl) (by kernel_rfl) (by kernel_rfl) ⟨⟨w2.drew, (Below.refl _ _).drew⟩, rfl⟩ ?_
        have y0 := behind_cell0 b0
        have y1 := behind_cell0 b1
        have y2 := behind_cell0 b2
        have y3 := behind_cell0 b3
        have y4 := behind_cell0 a2
        have hsome := Behind.any w2
        clear b0 b1 b2 b3 a2
        simp only [List.take_succ_cons, List.take_zero, List.cons_append, List.nil_append, mute]
        repeat (go_big_quiet_step (first | (go_at_call 71; with_reducible exact behind_one0 CG.out _)))
        refine wpQuiet_nil ?_
        rintro _ ⟨y, rfl⟩
        have x4 := y4 y
        have o3 := o_be y.below o2
        have f3 := o3.free o ho
        have hB5 := bw_behind y.below hB2
        clear hsome y0 y1 y2 y3 y4
        obtain ⟨w3, hw3⟩ : ∃ W, W = y.world := ⟨_, rfl⟩
        rw [← hw3] at x4 f3 hB5 ⊢
        clear hw3 o3 y
        go_wp2
        go_meet
        exact ⟨w3, hB5, rfl⟩
      case rest =>
        obtain ⟨W2, hB3, rfl⟩ := hcut
        have hsz := hB3.size
        have hsz2 := hB.size
        go_wp2
        go_roundw
        case rel =>
          refine ⟨j + 1, _, by omega, by go_num, HE.out, fun o' ho' => ?_, o_set (o_be hB3 hO), o_set (o_be hB3 hO5), bw_set (Nat.le_succ _) (bw_behind hB3 hB) _, fun i p h => ?_⟩
          · by_cases hoo : o' = o
            · subst hoo
              rw [if_pos rfl, HZ.out]
              exact cell_same _ _ _ ((o_be hB3 hO).some _ ho')
            · rw [if_neg hoo]
              exact (World.cell?_setCell_other _ _ _ _ (fun e => hoo (congrArg Addr.off e).symm)).trans (c_be hB3 (HA.out o' ho'))
          · obtain ⟨N', hN', e', hc'⟩ := HP.out i p h
            exact ⟨N', hN', e', pc_set (by dsimp only; omega) (pc_be hB3 hc')⟩
        case measure => simp [intOf]; omega
    · have : j = L.length := by omega
      subst this
      rw [List.drop_length] at hE
      have hfT : f = T := hE
      subst hfT
      have t0 := hA 0 (by omega)
      have t1 := hA 1 (by omega)
      have t2 := hA 2 (by omega)
      have t3 := hA 3 (by omega)
      have g3 := hO.free 3 (by omega)
      have CSg : Hid (∀ W, Calls Tryz.prog 72 #[.int .u64 ((f 3).toNat : Int), .int .i64 (n0 : Int)] W (Quiet (.int .u64 ((signB (f 3) n0).toNat : Int)) W)) := hide (sign_any (f 3) n0)
      obtain ⟨v0, e0⟩ := hO5.val 0 (by omega)
      obtain ⟨v1, e1⟩ := hO5.val 1 (by omega)
      obtain ⟨v2, e2⟩ := hO5.val 2 (by omega)
      obtain ⟨v3, e3⟩ := hO5.val 3 (by omega)
      obtain ⟨v4, e4⟩ := hO5.val 4 (by omega)
      have d0 := hO5.free 0 (by omega)
      have d1 := hO5.free 1 (by omega)
      have d2 := hO5.free 2 (by omega)
      have d3 := hO5.free 3 (by omega)
      have d4 := hO5.free 4 (by omega)
      have u0 := wrap64_bv (f 0)
      have u1 := wrap64_bv (f 1)
      have u2 := wrap64_bv (f 2)
      have hz : w.heap.size + 1 < wr.heap.size := World.block_lt_of_cell? _ _ t0
      have z1 : ltB w.heap.size wr.heap.size = true := by unfold ltB; simp; omega
      have z2 : ltB (w.heap.size + 1) wr.heap.size = true := by unfold ltB; simp; omega
      clear hE hA hO hO5 hp2 H4 htop HT
      cases s0 with
      | true =>
        have hR3 : signB (f 3) n0 = R3 := HR3.out
        rw [hR3] at CSg
        have u3 := wrap64_bv R3
        clear hR3 HR3
        generalize f 0 = F0 at *
        generalize f 1 = F1 at *
        generalize f 2 = F2 at *
        generalize f 3 = F3 at *
        generalize F0.toInt = I0 at *
        generalize F1.toInt = I1 at *
        generalize F2.toInt = I2 at *
        generalize R3.toInt = I3 at *
        go_wp2_with (first | (go_at_call 41; (with_reducible first | refine (CN.out _).mono ?_); rintro e w4 ⟨rfl, hb4⟩; have hr4 := below_reads hb4; have hh4 := below_holds hb4; obtain ⟨m4, hs4⟩ := below_grew hb4) | (go_at_call 72; (with_reducible refine (CSg.out _).mono ?_); rintro e w' ⟨rfl, n3, rfl⟩))
        refine bodyPost_ret (v := instV k I0 I1 I2 I3) (by simp (maxDischargeDepth := 4) [instV, results, Tryz.results38, go_sem, *]) rfl ?_
        refine ⟨rfl, ?_⟩
        repeat (first | with_reducible assumption | with_reducible exact Below.refl _ _ | with_reducible refine Below.drew ?_ | with_reducible refine below_drewN ?_ _ | with_reducible refine bw_alloc ?_ _ | (with_reducible refine bw_set ?_ ?_ _; focus (dsimp only; omega)) | (with_reducible apply bw_behind; with_reducible assumption))
      | false =>
        have hR3 : f 3 = R3 := HR3.out
        rw [hR3] at t3
        have u3 := wrap64_bv R3
        clear hR3 HR3 CSg
        generalize f 0 = F0 at *
        generalize f 1 = F1 at *
        generalize f 2 = F2 at *
        generalize F0.toInt = I0 at *
        generalize F1.toInt = I1 at *
        generalize F2.toInt = I2 at *
        generalize R3.toInt = I3 at *
        go_wp2_with (first | (go_at_call 41; (with_reducible first | refine (CN.out _).mono ?_); rintro e w4 ⟨rfl, hb4⟩; have hr4 := below_reads hb4; have hh4 := below_holds hb4; obtain ⟨m4, hs4⟩ := below_grew hb4))
        refine bodyPost_ret (v := instV k I0 I1 I2 I3) (by simp (maxDischargeDepth := 4) [instV, results, Tryz.results38, go_sem, *]) rfl ?_
        refine ⟨rfl, ?_⟩
        repeat (first | with_reducible assumption | with_reducible exact Below.refl _ _ | with_reducible refine Below.drew ?_ | with_reducible refine below_drewN ?_ _ | with_reducible refine bw_alloc ?_ _ | (with_reducible refine bw_set ?_ ?_ _; focus (dsimp only; omega)) | (with_reducible apply bw_behind; with_reducible assumption))
end Go.Proofs.YtlommbeokbicjaaGreatDoor
