/-
  The document's memory: what lay, Store, Byte and Load answer, by the list of the bytes that were laid.
-/
import Derived.Test.YtnookalplejneaaDoorRef8
namespace Go.Proofs.YtnookalplejneaaDoor
open Go.RowKit Words

theorem lay_any (sa : Option Addr) (na ca : Nat) (sb : Option Addr) (nb cb : Nat) (L : List (Nat × BitVec 8)) (a : Nat) (b : BitVec 8) (w : World) (hA : Sl w sa na ca (numA L)) (hB : Sl w sb nb cb (numV L)) (hl : L.length ≤ 1000) :
    Calls Tryd.prog 47 #[.agg #[.int .i64 8, .slice sa na ca, .slice sb nb cb, .slice none 0 0], .int .u64 (a : Int), .int .u8 (b.toNat : Int)] w (fun e W' => ∃ sa' na' ca' sb' nb' cb', e = .returned (.agg #[.int .i64 8, .slice sa' na' ca', .slice sb' nb' cb', .slice none 0 0]) ∧ Sl W' sa' na' ca' (numA (L ++ [(a, b)])) ∧ Sl W' sb' nb' cb' (numV (L ++ [(a, b)])) ∧ Below w.heap.size w W' ∧ From w.heap.size sa' ∧ From w.heap.size sb') := by
  obtain ⟨h1, hA⟩ := hA
  obtain ⟨h2, hB⟩ := hB
  subst h1 h2
  have e1 : numA (L ++ [(a, b)]) = numA L ++ [.int .u64 (a : Int)] := by simp [numA]
  have e2 : numV (L ++ [(a, b)]) = numV L ++ [.int .u8 (b.toNat : Int)] := by simp [numV]
  have l1 : (numA L).length = L.length := by simp [numA]
  have l2 : (numV L).length = L.length := by simp [numV]
  rw [e1, e2, l1, l2]
  rcases hA with ⟨rfl, rfl, h⟩ | ⟨ga, rfl, hc, hr, hne⟩
  · obtain rfl : L = [] := by simpa [numA] using h
    rcases hB with ⟨rfl, rfl, _⟩ | ⟨gb, _, _, _, h⟩
    · refine (lay_nil (a : Int) (b.toNat : Int) w).mono ?_
      rintro e W' ⟨g1, c1, g2, c2, rfl, hc1, hc2, hr1, hr2, hb, n1, n2⟩
      exact ⟨_, _, _, _, _, _, rfl, ⟨rfl, .inr ⟨g1, rfl, hc1, hr1, by simp⟩⟩, ⟨rfl, .inr ⟨g2, rfl, hc2, hr2, by simp⟩⟩, hb, fun g h => by cases h; exact n1, fun g h => by cases h; exact n2⟩
    · simp [numV] at h
  · have hL : L ≠ [] := fun h => hne (by rw [h]; rfl)
    rcases hB with ⟨_, _, h⟩ | ⟨gb, rfl, hcb, hrb, _⟩
    · exact absurd (by simpa [numV] using h) hL
    · have hp : 1 ≤ L.length := by cases L with | nil => exact absurd rfl hL | cons x l => simp
      refine (lay_some ga gb L.length ca cb (numA L) (numV L) (a : Int) (b.toNat : Int) w hr hrb l1 l2 (fun u hu => ?_) (fun u hu => ?_) hp hl).mono ?_
      · obtain ⟨x, _, rfl⟩ := List.mem_map.1 hu
        rfl
      · obtain ⟨x, _, rfl⟩ := List.mem_map.1 hu
        rfl
      rintro e W' ⟨g1, c1, g2, c2, rfl, hc1, hc2, hr1, hr2, hb, n1, n2⟩
      exact ⟨_, _, _, _, _, _, rfl, ⟨by simp [l1], .inr ⟨g1, rfl, hc1, hr1, by simp⟩⟩, ⟨by simp [l2], .inr ⟨g2, rfl, hc2, hr2, by simp⟩⟩, hb, fun g h => by cases h; exact n1, fun g h => by cases h; exact n2⟩
/-- What the first k bytes of a number's Store lay. -/
def laidL (A : Nat) (v : BitVec 64) : Nat → List (Nat × BitVec 8)
  | 0 => []
  | k + 1 => laidL A v k ++ [(A + k, by8 v k)]
theorem laidL_length (A : Nat) (v : BitVec 64) : ∀ k, (laidL A v k).length = k
  | 0 => rfl
  | k + 1 => by rw [laidL, List.length_append, laidL_length A v k]; rfl
structure StoMet (A k : Nat) (V E T b : Int) : Prop where
  h0 : IntKind.u64.wrap (k : Int) = (k : Int)
  h1 : IntKind.u64.wrap ((A : Int) + (k : Int)) = ((A + k : Nat) : Int)
  h2 : IntKind.i64.wrap (8 * (k : Int)) = E
  h3 : IntKind.u64.wrap E = E
  h4 : V / 2 ^ E.toNat = T
  h5 : IntKind.u8.wrap T = b
  h6 : 0 ≤ E
  h7 : E < 64
theorem sto_met (v : BitVec 64) (A k : Nat) (hk : k < 8) (hA : A < 32768) : ∃ T, StoMet A k (v.toNat : Int) ((8 * k : Nat) : Int) T ((by8 v k).toNat : Int) := by
  refine ⟨((v >>> (8 * k)).toNat : Int), ⟨by rw [IntKind.wrap_u64]; omega, by rw [IntKind.wrap_u64]; omega, by rw [IntKind.wrap_i64]; omega, by rw [IntKind.wrap_u64]; omega, ?_, u8_bv _, by omega, by omega⟩⟩
  rw [Int.toNat_natCast]
  exact shr_bv _ _

set_option maxRecDepth 100000 in
set_option maxHeartbeats 8000000 in
theorem rstore_any (sa0 : Option Addr) (na0 ca0 : Nat) (sb0 : Option Addr) (nb0 cb0 : Nat) (L : List (Nat × BitVec 8)) (A : Nat) (v : BitVec 64) (hA8 : A % 8 = 0) (hA : A < 32768) (hl : L.length ≤ 900) (w : World) (hSA : Sl w sa0 na0 ca0 (numA L)) (hSB : Sl w sb0 nb0 cb0 (numV L)) :
    Calls Tryd.prog 26 #[.agg #[.int .i64 8, .slice sa0 na0 ca0, .slice sb0 nb0 cb0, .slice none 0 0], .int .u64 (A : Int), .int .i64 8, .int .u64 (v.toNat : Int)] w (fun e W' => ∃ sa na ca sb nb cb, e = .returned (.tuple #[.agg #[.int .i64 8, .slice sa na ca, .slice sb nb cb, .slice none 0 0], .int .i64 0]) ∧ Sl W' sa na ca (numA (L ++ laidL A v 8)) ∧ Sl W' sb nb cb (numV (L ++ laidL A v 8)) ∧ Below w.heap.size w W' ∧ From w.heap.size sa ∧ From w.heap.size sb) := by
  have c1 := fun W => rmay_any sa0 sb0 na0 ca0 nb0 cb0 A hA8 hA W
  have HM := hide (fun k hk => sto_met v A k hk hA)
  have HA := hide hSA
  have HB := hide hSB
  have CL := hide (fun sa na ca sb nb cb L a b W => lay_any sa na ca sb nb cb L a b W)
  have HL := hide (laidL_length A v)
  have Cc1 := hide c1
  clear c1
  have SS := cell_same
  have LB' := ltB_add
  have LS := ltB_self
  have LA' := alloc_reads
  have LH := alloc_holds
  clear hSA hSB hA8 hA
  generalize hV : (v.toNat : Int) = V
  have HV := hide hV
  clear hV
  go_enter Tryd.func26, Tryd.ntmps26
  go_wp2_with (go_at_call 46; (with_reducible refine (Cc1.out _).mono ?_); rintro e w1 ⟨rfl, hb1⟩; have hr1 := below_reads hb1; have hh1 := below_holds hb1; obtain ⟨m1, hs1⟩ := below_grew hb1)
  go_loopw [10] (fun i wr => ∃ (k : Nat) (sa : Option Addr) (na ca : Nat) (sb : Option Addr) (nb cb : Nat), k ≤ 8 ∧ i = .int .i64 (k : Int) ∧ wr.cell? ⟨w.heap.size, 0, none⟩ = some (.int .i64 8) ∧ wr.cell? ⟨w.heap.size, 1, none⟩ = some (.slice sa na ca) ∧ wr.cell? ⟨w.heap.size, 2, none⟩ = some (.slice sb nb cb) ∧ wr.cell? ⟨w.heap.size, 3, none⟩ = some (.slice none 0 0) ∧ Own wr w.heap.size 4 ∧ Own wr (w.heap.size + 1) 4 ∧ Sl wr sa na ca (numA (L ++ laidL A v k)) ∧ Sl wr sb nb cb (numV (L ++ laidL A v k)) ∧ Below w.heap.size w wr ∧ w.heap.size + 2 ≤ wr.heap.size ∧ Away w.heap.size sa ∧ Away (w.heap.size + 1) sa ∧ Away w.heap.size sb ∧ Away (w.heap.size + 1) sb ∧ Hid (1 ≤ k → From w.heap.size sa ∧ From w.heap.size sb)) (fun i _ => 8 - (intOf i).toNat)
  case atStart =>
    have l0 : laidL A v 0 = [] := rfl
    refine ⟨0, sa0, na0, ca0, sb0, nb0, cb0, by omega, rfl, ?_, ?_, ?_, ?_, ?_, ?_, ?_, ?_, ?_, ?_, HA.out.old (by omega), HA.out.old (by omega), HB.out.old (by omega), HB.out.old (by omega), fun h => absurd h (by omega)⟩
    all_goals first | ((first | with_reducible assumption | ((repeat (first | with_reducible assumption | with_reducible refine c_dr _ ?_ | with_reducible refine c_d1 ?_ | with_reducible refine c_al _ ?_ | (with_reducible refine c_set ?_ ?_; focus (dsimp only; omega)) | (with_reducible apply c_be; with_reducible assumption))); done) | ((repeat (first | with_reducible assumption | with_reducible refine o_dr _ ?_ | with_reducible refine o_d1 ?_ | with_reducible refine o_set ?_ | (with_reducible refine o_new ?_ ?_; (focus (simp)); (focus (simp))) | with_reducible refine o_al _ ?_ | (with_reducible apply o_be; with_reducible assumption))); done) | ((repeat (first | with_reducible assumption | with_reducible exact Below.refl _ _ | with_reducible refine Below.drew ?_ | with_reducible refine below_drewN ?_ _ | with_reducible refine bw_alloc ?_ _ | (with_reducible refine bw_set ?_ ?_ _; focus (dsimp only; omega)) | (with_reducible apply bw_behind; with_reducible assumption))); done) | (simp [go_sem, *]; omega) | (simp (maxDischargeDepth := 4) [go_sem, *]; done))) | (rw [l0, List.append_nil]; exact sl_be hb1 (sl_be (below_alloc (below_alloc (Below.refl _ _) (Nat.le_refl _) _) (by simp) _) HA.out)) | (rw [l0, List.append_nil]; exact sl_be hb1 (sl_be (below_alloc (below_alloc (Below.refl _ _) (Nat.le_refl _) _) (by simp) _) HB.out)) | (simp [*]; done) | (simp [*]; omega)
  case round =>
    obtain ⟨k, sa, na, ca, sb, nb, cb, hk, rfl, q0, q1, q2, q3, o1, o2, sA, sB, hB, hlt, aw1, aw2, aw3, aw4, hfr⟩ := hrel
    have HAW := hide (And.intro aw1 (And.intro aw2 (And.intro aw3 aw4)))
    clear aw1 aw2 aw3 aw4
    by_cases hk8 : k < 8
    · obtain ⟨T, e0, e1, e2, e3, e4, e5, e6, e7⟩ := HM.out k hk8
      obtain ⟨b, hb⟩ : ∃ b, ((by8 v k).toNat : Int) = b := ⟨_, rfl⟩
      have D1 := fun W x y => CL.out sa na ca sb nb cb (L ++ laidL A v k) (A + k) (by8 v k) W x y (by rw [List.length_append, HL.out]; omega)
      have HBB := hide hb
      rw [HV.out] at e4
      rw [hb] at D1 e5
      have D2 := hide D1
      clear D1 hb
      generalize ((8 * k : Nat) : Int) = E at *
      generalize ((A + k : Nat) : Int) = P at *
      have t1 : ltB w.heap.size wr.heap.size = true := by unfold ltB; exact decide_eq_true (by omega)
      have t2 : ltB (w.heap.size + 1) wr.heap.size = true := by unfold ltB; exact decide_eq_true (by omega)
      have f0 := o1.free 0 (by omega)
      have f1 := o1.free 1 (by omega)
      have f2 := o1.free 2 (by omega)
      have f3 := o1.free 3 (by omega)
      have SA := hide sA
      have SB := hide sB
      clear sA sB
      go_wp2_with (go_at_call 47; (with_reducible refine (D2.out _ SA.out SB.out).mono ?_); rintro e w2 ⟨sa', na', ca', sb', nb', cb', rfl, nA, nB, hb2, fA, fB⟩; have hr2 := below_reads hb2; have hh2 := below_holds hb2; have hz2 := hb2.size)
      go_roundw
      case rel =>
        have oB := o_be hb2 o1
        have oC := o_be hb2 o2
        have a1 : Away w.heap.size sa' := fun g hg => by have := fA g hg; omega
        have a2 : Away (w.heap.size + 1) sa' := fun g hg => by have := fA g hg; omega
        have a3 : Away w.heap.size sb' := fun g hg => by have := fB g hg; omega
        have a4 : Away (w.heap.size + 1) sb' := fun g hg => by have := fB g hg; omega
        refine ⟨k + 1, sa', na', ca', sb', nb', cb', by omega, by go_num, ?_, ?_, ?_, ?_, ?_, ?_, ?_, ?_, ?_, ?_, a1, a2, a3, a4, fun _ => ⟨fun g hg => by have := fA g hg; omega, fun g hg => by have := fB g hg; omega⟩⟩
        · iterate 4 (first | (refine set_at (k := 4) ?_ (by omega) ?_; (focus (repeat (first | with_reducible assumption | with_reducible refine o_dr _ ?_ | with_reducible refine o_d1 ?_ | with_reducible refine o_set ?_ | (with_reducible refine o_new ?_ ?_; (focus (simp)); (focus (simp))) | with_reducible refine o_al _ ?_ | (with_reducible apply o_be; with_reducible assumption)))); (first | (rw [if_pos rfl]; done) | rw [if_neg (by omega)])) | skip)
        · iterate 4 (first | (refine set_at (k := 4) ?_ (by omega) ?_; (focus (repeat (first | with_reducible assumption | with_reducible refine o_dr _ ?_ | with_reducible refine o_d1 ?_ | with_reducible refine o_set ?_ | (with_reducible refine o_new ?_ ?_; (focus (simp)); (focus (simp))) | with_reducible refine o_al _ ?_ | (with_reducible apply o_be; with_reducible assumption)))); (first | (rw [if_pos rfl]; done) | rw [if_neg (by omega)])) | skip)
        · iterate 4 (first | (refine set_at (k := 4) ?_ (by omega) ?_; (focus (repeat (first | with_reducible assumption | with_reducible refine o_dr _ ?_ | with_reducible refine o_d1 ?_ | with_reducible refine o_set ?_ | (with_reducible refine o_new ?_ ?_; (focus (simp)); (focus (simp))) | with_reducible refine o_al _ ?_ | (with_reducible apply o_be; with_reducible assumption)))); (first | (rw [if_pos rfl]; done) | rw [if_neg (by omega)])) | skip)
        · iterate 4 (first | (refine set_at (k := 4) ?_ (by omega) ?_; (focus (repeat (first | with_reducible assumption | with_reducible refine o_dr _ ?_ | with_reducible refine o_d1 ?_ | with_reducible refine o_set ?_ | (with_reducible refine o_new ?_ ?_; (focus (simp)); (focus (simp))) | with_reducible refine o_al _ ?_ | (with_reducible apply o_be; with_reducible assumption)))); (first | (rw [if_pos rfl]; done) | rw [if_neg (by omega)])) | skip)
        · repeat (first | with_reducible assumption | with_reducible refine o_dr _ ?_ | with_reducible refine o_d1 ?_ | with_reducible refine o_set ?_ | (with_reducible refine o_new ?_ ?_; (focus (simp)); (focus (simp))) | with_reducible refine o_al _ ?_ | (with_reducible apply o_be; with_reducible assumption))
        · repeat (first | with_reducible assumption | with_reducible refine o_dr _ ?_ | with_reducible refine o_d1 ?_ | with_reducible refine o_set ?_ | (with_reducible refine o_new ?_ ?_; (focus (simp)); (focus (simp))) | with_reducible refine o_al _ ?_ | (with_reducible apply o_be; with_reducible assumption))
        · rw [laidL, ← List.append_assoc]
          exact sl_set (sl_set (sl_set (sl_set nA a1) a1) a1) a1
        · rw [laidL, ← List.append_assoc]
          exact sl_set (sl_set (sl_set (sl_set nB a3) a3) a3) a3
        · repeat (first | with_reducible assumption | with_reducible exact Below.refl _ _ | with_reducible refine Below.drew ?_ | with_reducible refine below_drewN ?_ _ | with_reducible refine bw_alloc ?_ _ | (with_reducible refine bw_set ?_ ?_ _; focus (dsimp only; omega)) | (with_reducible apply bw_behind; with_reducible assumption))
        · simp; omega
      case measure => simp [intOf]; omega
    · obtain rfl : k = 8 := by omega
      have f0 := o2.free 0 (by omega)
      have f1 := o2.free 1 (by omega)
      have f2 := o2.free 2 (by omega)
      have f3 := o2.free 3 (by omega)
      obtain ⟨u0, v0⟩ := o2.val 0 (by omega)
      obtain ⟨u1, v1⟩ := o2.val 1 (by omega)
      obtain ⟨u2, v2⟩ := o2.val 2 (by omega)
      obtain ⟨u3, v3⟩ := o2.val 3 (by omega)
      have SA := hide sA
      have SB := hide sB
      clear sA sB
      go_wp2
      refine bodyPost_ret (v := .tuple #[.agg #[.int .i64 8, .slice sa na ca, .slice sb nb cb, .slice none 0 0], .int .i64 0]) (by simp (maxDischargeDepth := 4) [results, Tryd.results26, go_sem, *]) rfl ?_
      refine ⟨sa, na, ca, sb, nb, cb, rfl, ?_, ?_, ?_, (hfr.out (by omega)).1, (hfr.out (by omega)).2⟩
      · exact sl_set (sl_set (sl_set (sl_set SA.out HAW.out.2.1) HAW.out.2.1) HAW.out.2.1) HAW.out.2.1
      · exact sl_set (sl_set (sl_set (sl_set SB.out HAW.out.2.2.2) HAW.out.2.2.2) HAW.out.2.2.2) HAW.out.2.2.2
      · repeat (first | with_reducible assumption | with_reducible exact Below.refl _ _ | with_reducible refine Below.drew ?_ | with_reducible refine below_drewN ?_ _ | with_reducible refine bw_alloc ?_ _ | (with_reducible refine bw_set ?_ ?_ _; focus (dsimp only; omega)) | (with_reducible apply bw_behind; with_reducible assumption))
end Go.Proofs.YtnookalplejneaaDoor
