/-
  The document's memory: what Byte and Load answer, by the list of the bytes that were laid.
-/
import Derived.Test.YtnookalplejneaaDoorRef8b
namespace Go.Proofs.YtnookalplejneaaDoor
open Go.RowKit Words

/-- The byte that was laid last at an address. -/
def lastB (L : List (Nat × BitVec 8)) (a : Nat) : BitVec 8 := L.foldl (fun r x => if x.1 = a then x.2 else r) 0#8
theorem last_add (L : List (Nat × BitVec 8)) (x : Nat × BitVec 8) (a : Nat) : lastB (L ++ [x]) a = if x.1 = a then x.2 else lastB L a := by
  unfold lastB
  rw [List.foldl_append]
  rfl
theorem last_take (L : List (Nat × BitVec 8)) (k a : Nat) (hk : k < L.length) : lastB (L.take (k + 1)) a = if L[k].1 = a then L[k].2 else lastB (L.take k) a := by
  rw [← List.take_append_getElem hk, last_add]
set_option maxRecDepth 100000 in
set_option maxHeartbeats 8000000 in
theorem byte_some (ga gb n ca cb : Nat) (L : List (Nat × BitVec 8)) (a : Nat) (w : World) (hra : Row w ga (numA L)) (hrb : Row w gb (numV L)) (hl : L.length = n) (_h1 : 1 ≤ n) (_h2 : n ≤ 1000) :
    Calls Tryd.prog 53 #[.agg #[.int .i64 8, .slice (some ⟨ga, 0, none⟩) n ca, .slice (some ⟨gb, 0, none⟩) n cb, .slice none 0 0], .int .u64 (a : Int)] w (Makes (.int .u8 ((lastB L a).toNat : Int)) w) := by
  have SS := cell_same
  have LB' := ltB_add
  have LS := ltB_self
  have LA' := alloc_reads
  have LH := alloc_holds
  have HRA := hide hra
  have HRB := hide hrb
  have HT := hide (last_take L)
  have HL := hide hl
  clear hra hrb hl
  have hw : IntKind.i64.wrap ((n : Int) - 1) = (n : Int) - 1 := by rw [IntKind.wrap_i64]; omega
  have hw2 : RowKit.wrap64 ((n : Int) - 1) = (n : Int) - 1 := by unfold RowKit.wrap64; omega
  have H0 : Hid (lastB (L.take n) a = lastB L a) := hide (by rw [← HL.out, List.take_length])
  go_enter Tryd.func53, Tryd.ntmps53
  go_wp2
  go_loopw [5] (fun i wr => ∃ k : Nat, k ≤ n ∧ i = .int .i64 ((k : Int) - 1) ∧ Hid (lastB (L.take k) a = lastB L a) ∧ wr.cell? ⟨w.heap.size, 1, none⟩ = some (.slice (some ⟨ga, 0, none⟩) n ca) ∧ wr.cell? ⟨w.heap.size, 2, none⟩ = some (.slice (some ⟨gb, 0, none⟩) n cb) ∧ Hid (Row wr ga (numA L)) ∧ Hid (Row wr gb (numV L)) ∧ Below w.heap.size w wr) (fun i _ => (intOf i + 1).toNat)
  case atStart =>
    refine ⟨n, by omega, rfl, H0, ?_, ?_, k_al _ HRA.out, k_al _ HRB.out, ?_⟩
    all_goals (first | with_reducible assumption | ((repeat (first | with_reducible assumption | with_reducible refine c_dr _ ?_ | with_reducible refine c_d1 ?_ | with_reducible refine c_al _ ?_ | (with_reducible refine c_set ?_ ?_; focus (dsimp only; omega)) | (with_reducible apply c_be; with_reducible assumption))); done) | ((repeat (first | with_reducible assumption | with_reducible refine o_dr _ ?_ | with_reducible refine o_d1 ?_ | with_reducible refine o_set ?_ | (with_reducible refine o_new ?_ ?_; (focus (simp)); (focus (simp))) | with_reducible refine o_al _ ?_ | (with_reducible apply o_be; with_reducible assumption))); done) | ((repeat (first | with_reducible assumption | with_reducible exact Below.refl _ _ | with_reducible refine Below.drew ?_ | with_reducible refine below_drewN ?_ _ | with_reducible refine bw_alloc ?_ _ | (with_reducible refine bw_set ?_ ?_ _; focus (dsimp only; omega)) | (with_reducible apply bw_behind; with_reducible assumption))); done) | (simp [go_sem, *]; omega) | (simp (maxDischargeDepth := 4) [go_sem, *]; done))
  case round =>
    obtain ⟨k, hk, rfl, hs, q1, q2, rA, rB, hB⟩ := hrel
    cases k with
    | zero =>
      have e0 : lastB L a = 0#8 := hs.out.symm
      rw [show (((0 : Nat) : Int) - 1) = -1 from rfl]
      go_wp2
      go_ret
      refine ⟨by rw [e0]; rfl, ?_⟩
      repeat (first | with_reducible assumption | with_reducible exact Below.refl _ _ | with_reducible refine Below.drew ?_ | with_reducible refine below_drewN ?_ _ | with_reducible refine bw_alloc ?_ _ | (with_reducible refine bw_set ?_ ?_ _; focus (dsimp only; omega)) | (with_reducible apply bw_behind; with_reducible assumption))
    | succ k =>
      have hlen := HL.out
      have h3 := HT.out k a (by omega)
      rw [hs.out] at h3
      have cA := rA.out k (.int .u64 ((L[k]'(by omega)).1 : Int)) (by simp [numA, List.getElem?_eq_getElem (show k < L.length by omega)])
      have cB := rB.out k (.int .u8 ((L[k]'(by omega)).2.toNat : Int)) (by simp [numV, List.getElem?_eq_getElem (show k < L.length by omega)])
      rw [show (((k + 1 : Nat) : Int) - 1) = (k : Int) by omega]
      have g1 : (k : Int) < (n : Int) := by omega
      have g2 : (0 : Int) ≤ (k : Int) := by omega
      have g3 : IntKind.i64.wrap ((k : Int) - 1) = (k : Int) - 1 := by rw [IntKind.wrap_i64]; omega
      have g4 : RowKit.wrap64 ((k : Int) - 1) = (k : Int) - 1 := by unfold RowKit.wrap64; omega
      generalize L[k]'(by omega) = x at *
      have HS := hide hs
      have HA := hide rA
      have HBB := hide rB
      clear hs rA rB hlen
      by_cases e : x.1 = a
      · rw [if_pos e] at h3
        rw [h3]
        have e2 : ((x.1 : Int) == (a : Int)) = true := by simp; omega
        obtain ⟨y1, y2⟩ := x
        dsimp only at *
        clear h3 e
        generalize (y1 : Int) = Y at *
        go_wp2
        go_ret
        refine ⟨rfl, ?_⟩
        repeat (first | with_reducible assumption | with_reducible exact Below.refl _ _ | with_reducible refine Below.drew ?_ | with_reducible refine below_drewN ?_ _ | with_reducible refine bw_alloc ?_ _ | (with_reducible refine bw_set ?_ ?_ _; focus (dsimp only; omega)) | (with_reducible apply bw_behind; with_reducible assumption))
      · rw [if_neg e] at h3
        have e2 : ((x.1 : Int) == (a : Int)) = false := by simp; omega
        have H3 : Hid (lastB (L.take k) a = lastB L a) := hide h3.symm
        clear h3 e
        obtain ⟨y1, y2⟩ := x
        dsimp only at *
        generalize (y1 : Int) = Y at *
        go_wp2
        go_roundw
        case rel => exact ⟨k, by omega, by first | rfl | (simp [*]; done) | go_num, H3, q1, q2, HA.out, HBB.out, hB⟩
        case measure => simp [intOf]
set_option maxRecDepth 100000 in
set_option maxHeartbeats 1000000 in
theorem byte_none (A : Int) (w : World) : Calls Tryd.prog 53 #[.agg #[.int .i64 8, .slice none 0 0, .slice none 0 0, .slice none 0 0], .int .u64 A] w (Makes (.int .u8 0) w) := by
  have SS := cell_same
  have LB' := ltB_add
  have LS := ltB_self
  have LA' := alloc_reads
  have LH := alloc_holds
  go_enter Tryd.func53, Tryd.ntmps53
  go_wp2
  refine wp_loop_rounds 1 ?_
  rw [rounds_succ]
  go_wp2
  go_ret
  refine ⟨rfl, ?_⟩
  repeat (first | with_reducible assumption | with_reducible exact Below.refl _ _ | with_reducible refine Below.drew ?_ | with_reducible refine below_drewN ?_ _ | with_reducible refine bw_alloc ?_ _ | (with_reducible refine bw_set ?_ ?_ _; focus (dsimp only; omega)) | (with_reducible apply bw_behind; with_reducible assumption))
theorem byte_any (sa : Option Addr) (na ca : Nat) (sb : Option Addr) (nb cb : Nat) (L : List (Nat × BitVec 8)) (a : Nat) (hl : L.length ≤ 1000) (w : World) (hA : Sl w sa na ca (numA L)) (hB : Sl w sb nb cb (numV L)) : Calls Tryd.prog 53 #[.agg #[.int .i64 8, .slice sa na ca, .slice sb nb cb, .slice none 0 0], .int .u64 (a : Int)] w (Makes (.int .u8 ((lastB L a).toNat : Int)) w) := by
  obtain ⟨h1, hA⟩ := hA
  obtain ⟨h2, hB⟩ := hB
  have l1 : (numA L).length = L.length := by simp [numA]
  have l2 : (numV L).length = L.length := by simp [numV]
  rw [l1] at h1
  rw [l2] at h2
  subst h1 h2
  rcases hA with ⟨rfl, rfl, h⟩ | ⟨ga, rfl, hc, hr, hne⟩
  · obtain rfl : L = [] := by simpa [numA] using h
    rcases hB with ⟨rfl, rfl, _⟩ | ⟨gb, _, _, _, h⟩
    · exact byte_none _ w
    · simp [numV] at h
  · have hL : L ≠ [] := fun h => hne (by rw [h]; rfl)
    rcases hB with ⟨_, _, h⟩ | ⟨gb, rfl, hcb, hrb, _⟩
    · exact absurd (by simpa [numV] using h) hL
    · exact byte_some ga gb L.length ca cb L a w hr hrb rfl (by cases L with | nil => exact absurd rfl hL | cons x l => simp) hl

structure LdMet (A k : Nat) (B V E T V' : Int) : Prop where
  h0 : IntKind.u64.wrap (k : Int) = (k : Int)
  h1 : IntKind.u64.wrap ((A : Int) + (k : Int)) = ((A + k : Nat) : Int)
  h2 : IntKind.i64.wrap (8 * (k : Int)) = E
  h3 : IntKind.u64.wrap E = E
  h4 : IntKind.u64.wrap B = B
  h5 : IntKind.u64.wrap (B * 2 ^ E.toNat) = T
  h6 : IntKind.u64.wrap (V + T) = V'
  h7 : 0 ≤ E
  h8 : E < 64
theorem ld_met (g : Nat → BitVec 8) (A k : Nat) (hk : k < 8) (hA : A < 32768) : ∃ T, LdMet A k ((g k).toNat : Int) ((numB g k).toNat : Int) ((8 * k : Nat) : Int) T ((numB g (k + 1)).toNat : Int) := by
  have hb := (g k).isLt
  refine ⟨((((g k).setWidth 64) <<< (8 * k) : BitVec 64).toNat : Int), ⟨by rw [IntKind.wrap_u64]; omega, by rw [IntKind.wrap_u64]; omega, by rw [IntKind.wrap_i64]; omega, by rw [IntKind.wrap_u64]; omega, by rw [IntKind.wrap_u64]; omega, ?_, ?_, by omega, by omega⟩⟩
  · rw [Int.toNat_natCast, byte_up]
    exact shl_bv _ _
  · rw [numB, ← BitVec.add_eq_or_of_and_eq_zero, BitVec.toNat_add, IntKind.wrap_u64]
    · omega
    · refine ext64 (fun j hj => ?_)
      rw [BitVec.getLsbD_and, numB_bit _ _ _ hj, BitVec.getLsbD_shiftLeft]
      simp
      omega
set_option maxRecDepth 100000 in
set_option maxHeartbeats 8000000 in
theorem rload_any (sa : Option Addr) (na ca : Nat) (sb : Option Addr) (nb cb : Nat) (L : List (Nat × BitVec 8)) (A : Nat) (hA8 : A % 8 = 0) (hA : A < 32768) (hl : L.length ≤ 1000) (w : World) (hSA : Sl w sa na ca (numA L)) (hSB : Sl w sb nb cb (numV L)) :
    Calls Tryd.prog 33 #[.agg #[.int .i64 8, .slice sa na ca, .slice sb nb cb, .slice none 0 0], .int .u64 (A : Int), .int .i64 8] w (Makes (.tuple #[.int .u64 ((numB (fun i => lastB L (A + i)) 8).toNat : Int), .int .i64 0]) w) := by
  have c1 := fun W => rmay_any sa sb na ca nb cb A hA8 hA W
  have c2 := fun a W x y => byte_any sa na ca sb nb cb L a hl W x y
  have HM := hide (fun k hk => ld_met (fun i => lastB L (A + i)) A k hk hA)
  have Cc1 := hide c1
  have Cc2 := hide c2
  clear c1 c2
  have SS := cell_same
  have LB' := ltB_add
  have LS := ltB_self
  have LA' := alloc_reads
  have LH := alloc_holds
  have HA := hide hSA
  have HB := hide hSB
  clear hA8 hA hl hSA hSB
  have H0 : Hid ((numB (fun i => lastB L (A + i)) 0).toNat = 0) := hide rfl
  generalize numB (fun i => lastB L (A + i)) = G at *
  go_enter Tryd.func33, Tryd.ntmps33
  go_wp2_with (go_at_call 46; (with_reducible refine (Cc1.out _).mono ?_); rintro e w1 ⟨rfl, hb1⟩; have hr1 := below_reads hb1; have hh1 := below_holds hb1; obtain ⟨m1, hs1⟩ := below_grew hb1)
  go_loopw [8, 9] (fun v i wr => ∃ k : Nat, k ≤ 8 ∧ v = .int .u64 ((G k).toNat : Int) ∧ i = .int .i64 (k : Int) ∧ wr.cell? ⟨w.heap.size, 0, none⟩ = some (.int .i64 8) ∧ wr.cell? ⟨w.heap.size, 1, none⟩ = some (.slice sa na ca) ∧ wr.cell? ⟨w.heap.size, 2, none⟩ = some (.slice sb nb cb) ∧ wr.cell? ⟨w.heap.size, 3, none⟩ = some (.slice none 0 0) ∧ Below w.heap.size w wr) (fun _ i _ => 8 - (intOf i).toNat)
  case atStart =>
    refine ⟨0, by omega, by rw [H0.out]; rfl, rfl, ?_, ?_, ?_, ?_, ?_⟩
    all_goals (first | with_reducible assumption | ((repeat (first | with_reducible assumption | with_reducible refine c_dr _ ?_ | with_reducible refine c_d1 ?_ | with_reducible refine c_al _ ?_ | (with_reducible refine c_set ?_ ?_; focus (dsimp only; omega)) | (with_reducible apply c_be; with_reducible assumption))); done) | ((repeat (first | with_reducible assumption | with_reducible refine o_dr _ ?_ | with_reducible refine o_d1 ?_ | with_reducible refine o_set ?_ | (with_reducible refine o_new ?_ ?_; (focus (simp)); (focus (simp))) | with_reducible refine o_al _ ?_ | (with_reducible apply o_be; with_reducible assumption))); done) | ((repeat (first | with_reducible assumption | with_reducible exact Below.refl _ _ | with_reducible refine Below.drew ?_ | with_reducible refine below_drewN ?_ _ | with_reducible refine bw_alloc ?_ _ | (with_reducible refine bw_set ?_ ?_ _; focus (dsimp only; omega)) | (with_reducible apply bw_behind; with_reducible assumption))); done) | (simp [go_sem, *]; omega) | (simp (maxDischargeDepth := 4) [go_sem, *]; done))
  case round =>
    obtain ⟨k, hk, rfl, rfl, q0, q1, q2, q3, hB⟩ := hrel
    by_cases hk8 : k < 8
    · obtain ⟨T, e0, e1, e2, e3, e4, e5, e6, e7, e8⟩ := HM.out k hk8
      have D1 := fun W x y => Cc2.out (A + k) W x y
      generalize ((8 * k : Nat) : Int) = E at *
      generalize ((A + k : Nat) : Int) = P at *
      generalize ((lastB L (A + k)).toNat : Int) = B at *
      generalize ((G k).toNat : Int) = V at *
      obtain ⟨V', hV'⟩ : ∃ V', ((G (k + 1)).toNat : Int) = V' := ⟨_, rfl⟩
      rw [hV'] at e6
      have HV := hide hV'
      clear hV'
      have D2 := hide D1
      clear D1
      have SA := hide (sl_be hB HA.out)
      have SB := hide (sl_be hB HB.out)
      go_wp2_with (go_at_call 53; (with_reducible refine (D2.out _ SA.out SB.out).mono ?_); rintro e w2 ⟨rfl, hb2⟩; have hr2 := below_reads hb2; have hh2 := below_holds hb2; obtain ⟨m2, hs2⟩ := below_grew hb2)
      go_roundw
      case rel =>
        refine ⟨k + 1, by omega, by rw [HV.out], by go_num, ?_, ?_, ?_, ?_, ?_⟩
        all_goals (first | with_reducible assumption | ((repeat (first | with_reducible assumption | with_reducible refine c_dr _ ?_ | with_reducible refine c_d1 ?_ | with_reducible refine c_al _ ?_ | (with_reducible refine c_set ?_ ?_; focus (dsimp only; omega)) | (with_reducible apply c_be; with_reducible assumption))); done) | ((repeat (first | with_reducible assumption | with_reducible refine o_dr _ ?_ | with_reducible refine o_d1 ?_ | with_reducible refine o_set ?_ | (with_reducible refine o_new ?_ ?_; (focus (simp)); (focus (simp))) | with_reducible refine o_al _ ?_ | (with_reducible apply o_be; with_reducible assumption))); done) | ((repeat (first | with_reducible assumption | with_reducible exact Below.refl _ _ | with_reducible refine Below.drew ?_ | with_reducible refine below_drewN ?_ _ | with_reducible refine bw_alloc ?_ _ | (with_reducible refine bw_set ?_ ?_ _; focus (dsimp only; omega)) | (with_reducible apply bw_behind; with_reducible assumption))); done) | (simp [go_sem, *]; omega) | (simp (maxDischargeDepth := 4) [go_sem, *]; done))
      case measure => simp [intOf]; omega
    · obtain rfl : k = 8 := by omega
      go_wp2
      refine bodyPost_ret (v := .tuple #[.int .u64 ((G 8).toNat : Int), .int .i64 0]) (by simp (maxDischargeDepth := 4) [results, Tryd.results33, go_sem, *]) rfl ?_
      refine ⟨rfl, ?_⟩
      repeat (first | with_reducible assumption | with_reducible exact Below.refl _ _ | with_reducible refine Below.drew ?_ | with_reducible refine below_drewN ?_ _ | with_reducible refine bw_alloc ?_ _ | (with_reducible refine bw_set ?_ ?_ _; focus (dsimp only; omega)) | (with_reducible apply bw_behind; with_reducible assumption))
end Go.Proofs.YtnookalplejneaaDoor
