/-
  BoundsTells holds: for every f, a and b the law returns true and turns nothing that was there, where the table of places holds what the program's text lays.
-/
import Derived.Test.YtdffacghdnaniaaDoorTabLaid03
import Derived.Test.YtdffacghdnaniaaDoorNear03
import Derived.Test.YtdffacghdnaniaaDoorRefDec03
namespace Go.Proofs.YtdffacghdnaniaaDoor.BoundsTells
open Go.RowKit Words FieldMath BoundsMath

theorem wp_abs {P : Program} {c : Code} {Q : Exit → Act → World → Prop} {a : Act} {w : World} (C : World → Prop) (hC : C w) (h : ∀ w0, C w0 → c.wp P Q a w0) : c.wp P Q a w := h w hC
theorem behind_cell {w0 : World} {a : Addr} {v : Value} (h : w0.cell? a = some v) : ∀ y : Behind w0.heap.size w0, y.world.cell? a = some v := fun y => (y.below.cell (World.block_lt_of_cell? w0 a h)).trans h
theorem eq_rin (D U B T : Int) : ∀ W, (Op.equalIn 10000 32 (.agg #[.int .u64 D, .int .u64 U]) (.agg #[.int .u64 B, .int .u64 T])).run Tryd.prog W = .ok (decide (D = B ∧ U = T)) W := by
  intro W
  by_cases h1 : D = B <;> by_cases h2 : U = T <;> simp [go_sem, h1, h2]

structure Met (B T E A C D1 U1 D2 U2 R LB LT LE S1 S2 S3 A32 OB OT OE : Int) (O1 O2 V : Bool) : Prop where
  dec : ∀ W, Tab W → Calls Tryd.prog 15 #[.agg #[.int .u64 B, .int .u64 T, .int .u64 E], .int .u64 A] W (Makes (.tuple #[.agg #[.int .u64 D1, .int .u64 U1], .bool O1]) W)
  rdec : ∀ W, Calls Tryd.prog 16 #[.agg #[.int .u64 B, .int .u64 T, .int .u64 E], .int .u64 A] W (Makes (.tuple #[.agg #[.int .u64 D1, .int .u64 U1], .bool O1]) W)
  rdec2 : ∀ W, Calls Tryd.prog 16 #[.agg #[.int .u64 B, .int .u64 T, .int .u64 E], .int .u64 C] W (Makes (.tuple #[.agg #[.int .u64 D2, .int .u64 U2], .bool O2]) W)
  word : ∀ W, Tab W → Calls Tryd.prog 17 #[.agg #[.int .u64 B, .int .u64 T, .int .u64 E]] W (Makes (.int .u64 R) W)
  dec2 : ∀ W, Tab W → Calls Tryd.prog 15 #[.agg #[.int .u64 5, .int .u64 9, .int .u64 0], .int .u64 6] W (Makes (.tuple #[.agg #[.int .u64 5, .int .u64 9], .bool true]) W)
  near : ∀ W, Tab W → Calls Tryd.prog 18 #[.agg #[.int .u64 B, .int .u64 T, .int .u64 E], .int .u64 A, .int .u64 C] W (Makes (.bool V) W)
  ofw : ∀ W, Tab W → Calls Tryd.prog 19 #[.int .u64 R] W (Makes (.agg #[.int .u64 LB, .int .u64 LT, .int .u64 LE]) W)
  ofa : ∀ W, Tab W → Calls Tryd.prog 19 #[.int .u64 A] W (Makes (.agg #[.int .u64 OB, .int .u64 OT, .int .u64 OE]) W)
  ofl : ∀ W, Tab W → Calls Tryd.prog 19 #[.int .u64 A32] W (Makes (.agg #[.int .u64 OB, .int .u64 OT, .int .u64 OE]) W)
  lb : B % 16384 = LB
  lbt : B.tmod 16384 = LB
  lt' : T % 4096 = LT
  ltt : T.tmod 4096 = LT
  le' : E % 64 = LE
  let' : E.tmod 64 = LE
  s1 : IntKind.u64.wrap (LT * 16384) = S1
  s1' : IntKind.u64.wrap (LT * 2 ^ 14) = S1
  s2 : IntKind.u64.wrap (LB + S1) = S2
  s3 : IntKind.u64.wrap (LE * 67108864) = S3
  s3' : IntKind.u64.wrap (LE * 2 ^ 26) = S3
  s4 : IntKind.u64.wrap (S2 + S3) = R
  a32 : A % 4294967296 = A32
  a32t : A.tmod 4294967296 = A32
  both : O1 = true → O2 = true → V = decide (D1 = D2 ∧ U1 = U2)
  one : O1 = false → V = false
  two : O2 = false → V = false

theorem dec_lit (W : World) (hW : Tab W) : Calls Tryd.prog 15 #[.agg #[.int .u64 5, .int .u64 9, .int .u64 0], .int .u64 6] W (Makes (.tuple #[.agg #[.int .u64 5, .int .u64 9], .bool true]) W) := by
  have h : decOk 5 9 0 6 := by
    refine ⟨⟨by decide, by decide, by decide, by decide⟩, by decide, by decide⟩
  have := decode_yes 5 9 0 6 h W hW
  rw [show (baseN 5 0 6 * 2 ^ (0 - 1) : Nat) = 5 by decide, show ((baseN 5 0 6 + lenN 5 9 0) * 2 ^ (0 - 1) : Nat) = 9 by decide] at this
  exact this
theorem dec_met (b t e a : Nat) (hb : b < 18446744073709551616) (ht : t < 18446744073709551616) (he : e < 18446744073709551616) : ∃ D U O, (∀ W, Tab W → Calls Tryd.prog 15 #[.agg #[.int .u64 (b : Int), .int .u64 (t : Int), .int .u64 (e : Int)], .int .u64 (a : Int)] W (Makes (.tuple #[.agg #[.int .u64 D, .int .u64 U], .bool O]) W)) ∧
    (∀ W, Calls Tryd.prog 16 #[.agg #[.int .u64 (b : Int), .int .u64 (t : Int), .int .u64 (e : Int)], .int .u64 (a : Int)] W (Makes (.tuple #[.agg #[.int .u64 D, .int .u64 U], .bool O]) W)) ∧
    (O = true ↔ decOk b t e a) ∧ (O = true → D = ((baseN b e a * 2 ^ (e - 1) : Nat) : Int) ∧ U = (((baseN b e a + lenN b t e) * 2 ^ (e - 1) : Nat) : Int)) := by
  by_cases h : decOk b t e a
  · exact ⟨_, _, true, fun W hW => decode_yes b t e a h W hW, fun W => rdecode_yes b t e a h W, ⟨fun _ => h, fun _ => rfl⟩, fun _ => ⟨rfl, rfl⟩⟩
  · exact ⟨0, 0, false, fun W hW => decode_no b t e a hb ht he h W hW, fun W => rdecode_no b t e a h W, ⟨fun h2 => (by cases h2), fun h2 => absurd h2 h⟩, fun h2 => (by cases h2)⟩
theorem met (b t e a c : Nat) (hb : b < 18446744073709551616) (ht : t < 18446744073709551616) (he : e < 18446744073709551616) (ha : a < 18446744073709551616) :
    ∃ D1 U1 D2 U2 R LB LT LE S1 S2 S3 A32 OB OT OE O1 O2 V, Met b t e a c D1 U1 D2 U2 R LB LT LE S1 S2 S3 A32 OB OT OE O1 O2 V := by
  obtain ⟨D1, U1, O1, h1, h2, h3, h4⟩ := dec_met b t e a hb ht he
  obtain ⟨D2, U2, O2, k1, k2, k3, k4⟩ := dec_met b t e c hb ht he
  have hw := fun n : Int => IntKind.wrap_u64 n
  have ow := fun W hW => of_any (wordN b t e) (by have := word_lt b t e; omega) W hW
  rw [show wordN b t e % 16384 = b % 16384 by unfold wordN; omega, show wordN b t e / 16384 % 4096 = t % 4096 by unfold wordN; omega, show wordN b t e / 67108864 % 64 = e % 64 by unfold wordN; omega] at ow
  have ol := fun W hW => of_any (a % 4294967296) (by omega) W hW
  rw [show a % 4294967296 % 16384 = a % 16384 by omega, show a % 4294967296 / 16384 % 4096 = a / 16384 % 4096 by omega, show a % 4294967296 / 67108864 % 64 = a / 67108864 % 64 by omega] at ol
  have hR : wordN b t e = b % 16384 + t % 4096 * 16384 + e % 64 * 67108864 := rfl
  refine ⟨D1, U1, D2, U2, ((wordN b t e : Nat) : Int), ((b % 16384 : Nat) : Int), ((t % 4096 : Nat) : Int), ((e % 64 : Nat) : Int), ((t % 4096 * 16384 : Nat) : Int), ((b % 16384 + t % 4096 * 16384 : Nat) : Int), ((e % 64 * 67108864 : Nat) : Int), ((a % 4294967296 : Nat) : Int), _, _, _, O1, O2,
    O1 && O2 && decide (D1 = D2 ∧ U1 = U2), ⟨h1, h2, k2, fun W hW => word_any b t e hb ht he W hW, dec_lit, fun W hW => ?_, ow, fun W hW => of_any a ha W hW, ol,
      by omega, by rw [Int.tmod_eq_emod_of_nonneg (by omega)]; omega, by omega, by rw [Int.tmod_eq_emod_of_nonneg (by omega)]; omega, by omega, by rw [Int.tmod_eq_emod_of_nonneg (by omega)]; omega,
      by rw [hw]; omega, by rw [hw]; omega, by rw [hw]; omega, by rw [hw]; omega, by rw [hw]; omega, by rw [hw, hR]; omega, by omega, by rw [Int.tmod_eq_emod_of_nonneg (by omega)]; omega,
      fun e1 e2 => by rw [e1, e2]; rfl, fun e1 => by rw [e1]; rfl, fun e1 => by rw [e1, Bool.and_false, Bool.false_and]⟩⟩
  refine near_any b t e a c hb ht he W hW _ ?_
  rw [Bool.and_eq_true, Bool.and_eq_true, h3, k3, decide_eq_true_iff, and_assoc]
  constructor
  · rintro ⟨x1, x2, x3, x4⟩
    obtain ⟨p1, p2⟩ := h4 (h3.2 x1)
    obtain ⟨p3, p4⟩ := k4 (k3.2 x2)
    rw [p1, p3] at x3
    rw [p2, p4] at x4
    exact ⟨x1, x2, Int.ofNat_inj.1 x3, Int.ofNat_inj.1 x4⟩
  · rintro ⟨x1, x2, x3, x4⟩
    obtain ⟨p1, p2⟩ := h4 (h3.2 x1)
    obtain ⟨p3, p4⟩ := k4 (k3.2 x2)
    exact ⟨x1, x2, by rw [p1, p3, x3], by rw [p2, p4, x4]⟩

set_option maxHeartbeats 4000000 in
theorem walk_no (B T E A C D1 U1 D2 U2 R LB LT LE S1 S2 S3 A32 OB OT OE : Int) (O2 : Bool) (hm : Met B T E A C D1 U1 D2 U2 R LB LT LE S1 S2 S3 A32 OB OT OE false O2 false) (w : World) (hT : Tab w) :
    Calls Tryd.prog 4 #[.agg #[.int .u64 B, .int .u64 T, .int .u64 E], .int .u64 A, .int .u64 C] w fun e w' => e = .returned (.bool true) ∧ Below w.heap.size w w' := by
  have CM := hide hm
  have g0 := hm.lb
  have g1 := hm.lbt
  have g2 := hm.lt'
  have g3 := hm.ltt
  have g4 := hm.le'
  have g5 := hm.let'
  have g6 := hm.s1
  have g7 := hm.s1'
  have g8 := hm.s2
  have g9 := hm.s3
  have g10 := hm.s3'
  have g11 := hm.s4
  have g12 := hm.a32
  have g13 := hm.a32t
  clear hm
  have SS := cell_same
  have LB' := ltB_add
  have LS := ltB_self
  have LA' := alloc_reads
  have LH := alloc_holds
  go_enter Tryd.func4, Tryd.ntmps4
  go_wp2_with (first | (go_at_call 15; (with_reducible refine (CM.out.dec _ ?_).mono ?_); (refine hT.behind ?_; repeat (first | with_reducible assumption | with_reducible exact Below.refl _ _ | with_reducible refine Below.drew ?_ | with_reducible refine below_drewN ?_ _ | with_reducible refine bw_alloc ?_ _ | (with_reducible refine bw_set ?_ ?_ _; focus (dsimp only; omega)) | (with_reducible apply bw_behind; with_reducible assumption))); rintro e wa ⟨rfl, hba⟩; have hra := below_reads hba; have hha := below_holds hba; obtain ⟨ma, hsa⟩ := below_grew hba) | (go_at_call 16; (with_reducible refine (CM.out.rdec _).mono ?_); rintro e wb ⟨rfl, hbb⟩; have hrb := below_reads hbb; have hhb := below_holds hbb; obtain ⟨mb, hsb⟩ := below_grew hbb) | (go_at_call 16; (with_reducible refine (CM.out.rdec2 _).mono ?_); rintro e wc ⟨rfl, hbc⟩; have hrc := below_reads hbc; have hhc := below_holds hbc; obtain ⟨mc, hsc⟩ := below_grew hbc) | (go_at_call 17; (with_reducible refine (CM.out.word _ ?_).mono ?_); (refine hT.behind ?_; repeat (first | with_reducible assumption | with_reducible exact Below.refl _ _ | with_reducible refine Below.drew ?_ | with_reducible refine below_drewN ?_ _ | with_reducible refine bw_alloc ?_ _ | (with_reducible refine bw_set ?_ ?_ _; focus (dsimp only; omega)) | (with_reducible apply bw_behind; with_reducible assumption))); rintro e wd ⟨rfl, hbd⟩; have hrd := below_reads hbd; have hhd := below_holds hbd; obtain ⟨md, hsd⟩ := below_grew hbd) | (go_at_call 15; (with_reducible refine (CM.out.dec2 _ ?_).mono ?_); (refine hT.behind ?_; repeat (first | with_reducible assumption | with_reducible exact Below.refl _ _ | with_reducible refine Below.drew ?_ | with_reducible refine below_drewN ?_ _ | with_reducible refine bw_alloc ?_ _ | (with_reducible refine bw_set ?_ ?_ _; focus (dsimp only; omega)) | (with_reducible apply bw_behind; with_reducible assumption))); rintro e we ⟨rfl, hbe⟩; have hre := below_reads hbe; have hhe := below_holds hbe; obtain ⟨me, hse⟩ := below_grew hbe))
  refine wp_abs (fun W => Tab W ∧ Below w.heap.size w W ∧ W.cell? ⟨w.heap.size, 0, none⟩ = some (.int .u64 B) ∧ W.cell? ⟨w.heap.size, 1, none⟩ = some (.int .u64 T) ∧ W.cell? ⟨w.heap.size, 2, none⟩ = some (.int .u64 E) ∧ W.cell? ⟨w.heap.size + 1 + ma, 0, none⟩ = some (.int .u64 D1) ∧ W.cell? ⟨w.heap.size + 1 + ma, 1, none⟩ = some (.int .u64 U1) ∧ W.cell? ⟨w.heap.size + 1 + ma + 1 + mb, 0, none⟩ = some (.int .u64 D1) ∧ W.cell? ⟨w.heap.size + 1 + ma + 1 + mb, 1, none⟩ = some (.int .u64 U1) ∧ W.cell? ⟨w.heap.size + 1 + ma + 1 + mb + 1 + mc, 0, none⟩ = some (.int .u64 D2) ∧ W.cell? ⟨w.heap.size + 1 + ma + 1 + mb + 1 + mc, 1, none⟩ = some (.int .u64 U2) ∧ W.cell? ⟨w.heap.size + 1 + ma + 1 + mb + 1 + mc + 1 + md, 0, none⟩ = some (.int .u64 LB) ∧ W.cell? ⟨w.heap.size + 1 + ma + 1 + mb + 1 + mc + 1 + md, 1, none⟩ = some (.int .u64 LT) ∧ W.cell? ⟨w.heap.size + 1 + ma + 1 + mb + 1 + mc + 1 + md, 2, none⟩ = some (.int .u64 LE) ∧ W.cell? ⟨w.heap.size + 1 + ma + 1 + mb + 1 + mc + 1 + md + 1 + me, 0, none⟩ = some (.int .u64 5) ∧ W.cell? ⟨w.heap.size + 1 + ma + 1 + mb + 1 + mc + 1 + md + 1 + me, 1, none⟩ = some (.int .u64 9)) ⟨hT.behind (by repeat (first | with_reducible assumption | with_reducible exact Below.refl _ _ | with_reducible refine Below.drew ?_ | with_reducible refine below_drewN ?_ _ | with_reducible refine bw_alloc ?_ _ | (with_reducible refine bw_set ?_ ?_ _; focus (dsimp only; omega)) | (with_reducible apply bw_behind; with_reducible assumption))), by repeat (first | with_reducible assumption | with_reducible exact Below.refl _ _ | with_reducible refine Below.drew ?_ | with_reducible refine below_drewN ?_ _ | with_reducible refine bw_alloc ?_ _ | (with_reducible refine bw_set ?_ ?_ _; focus (dsimp only; omega)) | (with_reducible apply bw_behind; with_reducible assumption)), by simp (maxDischargeDepth := 4) [go_sem, *], by simp (maxDischargeDepth := 4) [go_sem, *], by simp (maxDischargeDepth := 4) [go_sem, *], by simp (maxDischargeDepth := 4) [go_sem, *], by simp (maxDischargeDepth := 4) [go_sem, *], by simp (maxDischargeDepth := 4) [go_sem, *], by simp (maxDischargeDepth := 4) [go_sem, *], by simp (maxDischargeDepth := 4) [go_sem, *], by simp (maxDischargeDepth := 4) [go_sem, *], by simp (maxDischargeDepth := 4) [go_sem, *], by simp (maxDischargeDepth := 4) [go_sem, *], by simp (maxDischargeDepth := 4) [go_sem, *], by simp (maxDischargeDepth := 4) [go_sem, *], by simp (maxDischargeDepth := 4) [go_sem, *]⟩ ?_
  rintro w0 ⟨hT0, hB0, c0, c1, c2, c3, c4, c5, c6, c7, c8, c9, c10, c11, c12, c13⟩
  have y0 := behind_cell c0
  have y1 := behind_cell c1
  have y2 := behind_cell c2
  have y3 := behind_cell c3
  have y4 := behind_cell c4
  have y5 := behind_cell c5
  have y6 := behind_cell c6
  have y7 := behind_cell c7
  have y8 := behind_cell c8
  have y9 := behind_cell c9
  have y10 := behind_cell c10
  have y11 := behind_cell c11
  have y12 := behind_cell c12
  have y13 := behind_cell c13
  have hsome := Behind.any w0
  clear c0 c1 c2 c3 c4 c5 c6 c7 c8 c9 c10 c11 c12 c13
  refine wp_region_behind w0 (by kernel_rfl) (by kernel_rfl) (Below.refl _ _) ?_
  repeat (go_big_quiet_step (first | (go_at_call 18; with_reducible exact behind_call CM.out.near hT0 _) | (go_at_call 19; with_reducible first | exact behind_call CM.out.ofw hT0 _ | exact behind_call CM.out.ofa hT0 _ | exact behind_call CM.out.ofl hT0 _)))
  refine wpQuiet_nil ?_
  rintro _ ⟨y, rfl⟩
  go_wp2
  go_ret
  exact ⟨rfl, bw_behind y.below hB0⟩

set_option maxHeartbeats 4000000 in
theorem walk_one (B T E A C D1 U1 D2 U2 R LB LT LE S1 S2 S3 A32 OB OT OE : Int) (hm : Met B T E A C D1 U1 D2 U2 R LB LT LE S1 S2 S3 A32 OB OT OE true false false) (w : World) (hT : Tab w) :
    Calls Tryd.prog 4 #[.agg #[.int .u64 B, .int .u64 T, .int .u64 E], .int .u64 A, .int .u64 C] w fun e w' => e = .returned (.bool true) ∧ Below w.heap.size w w' := by
  have CM := hide hm
  have g0 := hm.lb
  have g1 := hm.lbt
  have g2 := hm.lt'
  have g3 := hm.ltt
  have g4 := hm.le'
  have g5 := hm.let'
  have g6 := hm.s1
  have g7 := hm.s1'
  have g8 := hm.s2
  have g9 := hm.s3
  have g10 := hm.s3'
  have g11 := hm.s4
  have g12 := hm.a32
  have g13 := hm.a32t
  clear hm
  have SS := cell_same
  have LB' := ltB_add
  have LS := ltB_self
  have LA' := alloc_reads
  have LH := alloc_holds
  go_enter Tryd.func4, Tryd.ntmps4
  go_wp2_with (first | (go_at_call 15; (with_reducible refine (CM.out.dec _ ?_).mono ?_); (refine hT.behind ?_; repeat (first | with_reducible assumption | with_reducible exact Below.refl _ _ | with_reducible refine Below.drew ?_ | with_reducible refine below_drewN ?_ _ | with_reducible refine bw_alloc ?_ _ | (with_reducible refine bw_set ?_ ?_ _; focus (dsimp only; omega)) | (with_reducible apply bw_behind; with_reducible assumption))); rintro e wa ⟨rfl, hba⟩; have hra := below_reads hba; have hha := below_holds hba; obtain ⟨ma, hsa⟩ := below_grew hba) | (go_at_call 16; (with_reducible refine (CM.out.rdec _).mono ?_); rintro e wb ⟨rfl, hbb⟩; have hrb := below_reads hbb; have hhb := below_holds hbb; obtain ⟨mb, hsb⟩ := below_grew hbb) | (go_at_call 16; (with_reducible refine (CM.out.rdec2 _).mono ?_); rintro e wc ⟨rfl, hbc⟩; have hrc := below_reads hbc; have hhc := below_holds hbc; obtain ⟨mc, hsc⟩ := below_grew hbc) | (go_at_call 17; (with_reducible refine (CM.out.word _ ?_).mono ?_); (refine hT.behind ?_; repeat (first | with_reducible assumption | with_reducible exact Below.refl _ _ | with_reducible refine Below.drew ?_ | with_reducible refine below_drewN ?_ _ | with_reducible refine bw_alloc ?_ _ | (with_reducible refine bw_set ?_ ?_ _; focus (dsimp only; omega)) | (with_reducible apply bw_behind; with_reducible assumption))); rintro e wd ⟨rfl, hbd⟩; have hrd := below_reads hbd; have hhd := below_holds hbd; obtain ⟨md, hsd⟩ := below_grew hbd) | (go_at_call 15; (with_reducible refine (CM.out.dec2 _ ?_).mono ?_); (refine hT.behind ?_; repeat (first | with_reducible assumption | with_reducible exact Below.refl _ _ | with_reducible refine Below.drew ?_ | with_reducible refine below_drewN ?_ _ | with_reducible refine bw_alloc ?_ _ | (with_reducible refine bw_set ?_ ?_ _; focus (dsimp only; omega)) | (with_reducible apply bw_behind; with_reducible assumption))); rintro e we ⟨rfl, hbe⟩; have hre := below_reads hbe; have hhe := below_holds hbe; obtain ⟨me, hse⟩ := below_grew hbe))
  refine wp_abs (fun W => Tab W ∧ Below w.heap.size w W ∧ W.cell? ⟨w.heap.size, 0, none⟩ = some (.int .u64 B) ∧ W.cell? ⟨w.heap.size, 1, none⟩ = some (.int .u64 T) ∧ W.cell? ⟨w.heap.size, 2, none⟩ = some (.int .u64 E) ∧ W.cell? ⟨w.heap.size + 1 + ma, 0, none⟩ = some (.int .u64 D1) ∧ W.cell? ⟨w.heap.size + 1 + ma, 1, none⟩ = some (.int .u64 U1) ∧ W.cell? ⟨w.heap.size + 1 + ma + 1 + mb, 0, none⟩ = some (.int .u64 D1) ∧ W.cell? ⟨w.heap.size + 1 + ma + 1 + mb, 1, none⟩ = some (.int .u64 U1) ∧ W.cell? ⟨w.heap.size + 1 + ma + 1 + mb + 1 + mc, 0, none⟩ = some (.int .u64 D2) ∧ W.cell? ⟨w.heap.size + 1 + ma + 1 + mb + 1 + mc, 1, none⟩ = some (.int .u64 U2) ∧ W.cell? ⟨w.heap.size + 1 + ma + 1 + mb + 1 + mc + 1 + md, 0, none⟩ = some (.int .u64 LB) ∧ W.cell? ⟨w.heap.size + 1 + ma + 1 + mb + 1 + mc + 1 + md, 1, none⟩ = some (.int .u64 LT) ∧ W.cell? ⟨w.heap.size + 1 + ma + 1 + mb + 1 + mc + 1 + md, 2, none⟩ = some (.int .u64 LE) ∧ W.cell? ⟨w.heap.size + 1 + ma + 1 + mb + 1 + mc + 1 + md + 1 + me, 0, none⟩ = some (.int .u64 5) ∧ W.cell? ⟨w.heap.size + 1 + ma + 1 + mb + 1 + mc + 1 + md + 1 + me, 1, none⟩ = some (.int .u64 9)) ⟨hT.behind (by repeat (first | with_reducible assumption | with_reducible exact Below.refl _ _ | with_reducible refine Below.drew ?_ | with_reducible refine below_drewN ?_ _ | with_reducible refine bw_alloc ?_ _ | (with_reducible refine bw_set ?_ ?_ _; focus (dsimp only; omega)) | (with_reducible apply bw_behind; with_reducible assumption))), by repeat (first | with_reducible assumption | with_reducible exact Below.refl _ _ | with_reducible refine Below.drew ?_ | with_reducible refine below_drewN ?_ _ | with_reducible refine bw_alloc ?_ _ | (with_reducible refine bw_set ?_ ?_ _; focus (dsimp only; omega)) | (with_reducible apply bw_behind; with_reducible assumption)), by simp (maxDischargeDepth := 4) [go_sem, *], by simp (maxDischargeDepth := 4) [go_sem, *], by simp (maxDischargeDepth := 4) [go_sem, *], by simp (maxDischargeDepth := 4) [go_sem, *], by simp (maxDischargeDepth := 4) [go_sem, *], by simp (maxDischargeDepth := 4) [go_sem, *], by simp (maxDischargeDepth := 4) [go_sem, *], by simp (maxDischargeDepth := 4) [go_sem, *], by simp (maxDischargeDepth := 4) [go_sem, *], by simp (maxDischargeDepth := 4) [go_sem, *], by simp (maxDischargeDepth := 4) [go_sem, *], by simp (maxDischargeDepth := 4) [go_sem, *], by simp (maxDischargeDepth := 4) [go_sem, *], by simp (maxDischargeDepth := 4) [go_sem, *]⟩ ?_
  rintro w0 ⟨hT0, hB0, c0, c1, c2, c3, c4, c5, c6, c7, c8, c9, c10, c11, c12, c13⟩
  have y0 := behind_cell c0
  have y1 := behind_cell c1
  have y2 := behind_cell c2
  have y3 := behind_cell c3
  have y4 := behind_cell c4
  have y5 := behind_cell c5
  have y6 := behind_cell c6
  have y7 := behind_cell c7
  have y8 := behind_cell c8
  have y9 := behind_cell c9
  have y10 := behind_cell c10
  have y11 := behind_cell c11
  have y12 := behind_cell c12
  have y13 := behind_cell c13
  have hsome := Behind.any w0
  clear c0 c1 c2 c3 c4 c5 c6 c7 c8 c9 c10 c11 c12 c13
  refine wp_region_behind w0 (by kernel_rfl) (by kernel_rfl) (Below.refl _ _) ?_
  repeat (go_big_quiet_step (first | (go_at_call 18; with_reducible exact behind_call CM.out.near hT0 _) | (go_at_call 19; with_reducible first | exact behind_call CM.out.ofw hT0 _ | exact behind_call CM.out.ofa hT0 _ | exact behind_call CM.out.ofl hT0 _)))
  refine wpQuiet_nil ?_
  rintro _ ⟨y, rfl⟩
  go_wp2
  go_ret
  exact ⟨rfl, bw_behind y.below hB0⟩

set_option maxHeartbeats 4000000 in
theorem walk_two (B T E A C D1 U1 D2 U2 R LB LT LE S1 S2 S3 A32 OB OT OE : Int) (V : Bool) (hV : V = decide (D1 = D2 ∧ U1 = U2)) (hm : Met B T E A C D1 U1 D2 U2 R LB LT LE S1 S2 S3 A32 OB OT OE true true V) (w : World) (hT : Tab w) :
    Calls Tryd.prog 4 #[.agg #[.int .u64 B, .int .u64 T, .int .u64 E], .int .u64 A, .int .u64 C] w fun e w' => e = .returned (.bool true) ∧ Below w.heap.size w w' := by
  have CM := hide hm
  have g0 := hm.lb
  have g1 := hm.lbt
  have g2 := hm.lt'
  have g3 := hm.ltt
  have g4 := hm.le'
  have g5 := hm.let'
  have g6 := hm.s1
  have g7 := hm.s1'
  have g8 := hm.s2
  have g9 := hm.s3
  have g10 := hm.s3'
  have g11 := hm.s4
  have g12 := hm.a32
  have g13 := hm.a32t
  clear hm
  have EQ := eq_rin D1 U1 D2 U2
  rw [← hV] at EQ
  clear hV
  have SS := cell_same
  have LB' := ltB_add
  have LS := ltB_self
  have LA' := alloc_reads
  have LH := alloc_holds
  go_enter Tryd.func4, Tryd.ntmps4
  go_wp2_with (first | (go_at_call 15; (with_reducible refine (CM.out.dec _ ?_).mono ?_); (refine hT.behind ?_; repeat (first | with_reducible assumption | with_reducible exact Below.refl _ _ | with_reducible refine Below.drew ?_ | with_reducible refine below_drewN ?_ _ | with_reducible refine bw_alloc ?_ _ | (with_reducible refine bw_set ?_ ?_ _; focus (dsimp only; omega)) | (with_reducible apply bw_behind; with_reducible assumption))); rintro e wa ⟨rfl, hba⟩; have hra := below_reads hba; have hha := below_holds hba; obtain ⟨ma, hsa⟩ := below_grew hba) | (go_at_call 16; (with_reducible refine (CM.out.rdec _).mono ?_); rintro e wb ⟨rfl, hbb⟩; have hrb := below_reads hbb; have hhb := below_holds hbb; obtain ⟨mb, hsb⟩ := below_grew hbb) | (go_at_call 16; (with_reducible refine (CM.out.rdec2 _).mono ?_); rintro e wc ⟨rfl, hbc⟩; have hrc := below_reads hbc; have hhc := below_holds hbc; obtain ⟨mc, hsc⟩ := below_grew hbc) | (go_at_call 17; (with_reducible refine (CM.out.word _ ?_).mono ?_); (refine hT.behind ?_; repeat (first | with_reducible assumption | with_reducible exact Below.refl _ _ | with_reducible refine Below.drew ?_ | with_reducible refine below_drewN ?_ _ | with_reducible refine bw_alloc ?_ _ | (with_reducible refine bw_set ?_ ?_ _; focus (dsimp only; omega)) | (with_reducible apply bw_behind; with_reducible assumption))); rintro e wd ⟨rfl, hbd⟩; have hrd := below_reads hbd; have hhd := below_holds hbd; obtain ⟨md, hsd⟩ := below_grew hbd) | (go_at_call 15; (with_reducible refine (CM.out.dec2 _ ?_).mono ?_); (refine hT.behind ?_; repeat (first | with_reducible assumption | with_reducible exact Below.refl _ _ | with_reducible refine Below.drew ?_ | with_reducible refine below_drewN ?_ _ | with_reducible refine bw_alloc ?_ _ | (with_reducible refine bw_set ?_ ?_ _; focus (dsimp only; omega)) | (with_reducible apply bw_behind; with_reducible assumption))); rintro e we ⟨rfl, hbe⟩; have hre := below_reads hbe; have hhe := below_holds hbe; obtain ⟨me, hse⟩ := below_grew hbe))
  refine wp_abs (fun W => Tab W ∧ Below w.heap.size w W ∧ W.cell? ⟨w.heap.size, 0, none⟩ = some (.int .u64 B) ∧ W.cell? ⟨w.heap.size, 1, none⟩ = some (.int .u64 T) ∧ W.cell? ⟨w.heap.size, 2, none⟩ = some (.int .u64 E) ∧ W.cell? ⟨w.heap.size + 1 + ma, 0, none⟩ = some (.int .u64 D1) ∧ W.cell? ⟨w.heap.size + 1 + ma, 1, none⟩ = some (.int .u64 U1) ∧ W.cell? ⟨w.heap.size + 1 + ma + 1 + mb, 0, none⟩ = some (.int .u64 D1) ∧ W.cell? ⟨w.heap.size + 1 + ma + 1 + mb, 1, none⟩ = some (.int .u64 U1) ∧ W.cell? ⟨w.heap.size + 1 + ma + 1 + mb + 1 + mc, 0, none⟩ = some (.int .u64 D2) ∧ W.cell? ⟨w.heap.size + 1 + ma + 1 + mb + 1 + mc, 1, none⟩ = some (.int .u64 U2) ∧ W.cell? ⟨w.heap.size + 1 + ma + 1 + mb + 1 + mc + 1 + md, 0, none⟩ = some (.int .u64 LB) ∧ W.cell? ⟨w.heap.size + 1 + ma + 1 + mb + 1 + mc + 1 + md, 1, none⟩ = some (.int .u64 LT) ∧ W.cell? ⟨w.heap.size + 1 + ma + 1 + mb + 1 + mc + 1 + md, 2, none⟩ = some (.int .u64 LE) ∧ W.cell? ⟨w.heap.size + 1 + ma + 1 + mb + 1 + mc + 1 + md + 1 + me, 0, none⟩ = some (.int .u64 5) ∧ W.cell? ⟨w.heap.size + 1 + ma + 1 + mb + 1 + mc + 1 + md + 1 + me, 1, none⟩ = some (.int .u64 9)) ⟨hT.behind (by repeat (first | with_reducible assumption | with_reducible exact Below.refl _ _ | with_reducible refine Below.drew ?_ | with_reducible refine below_drewN ?_ _ | with_reducible refine bw_alloc ?_ _ | (with_reducible refine bw_set ?_ ?_ _; focus (dsimp only; omega)) | (with_reducible apply bw_behind; with_reducible assumption))), by repeat (first | with_reducible assumption | with_reducible exact Below.refl _ _ | with_reducible refine Below.drew ?_ | with_reducible refine below_drewN ?_ _ | with_reducible refine bw_alloc ?_ _ | (with_reducible refine bw_set ?_ ?_ _; focus (dsimp only; omega)) | (with_reducible apply bw_behind; with_reducible assumption)), by simp (maxDischargeDepth := 4) [go_sem, *], by simp (maxDischargeDepth := 4) [go_sem, *], by simp (maxDischargeDepth := 4) [go_sem, *], by simp (maxDischargeDepth := 4) [go_sem, *], by simp (maxDischargeDepth := 4) [go_sem, *], by simp (maxDischargeDepth := 4) [go_sem, *], by simp (maxDischargeDepth := 4) [go_sem, *], by simp (maxDischargeDepth := 4) [go_sem, *], by simp (maxDischargeDepth := 4) [go_sem, *], by simp (maxDischargeDepth := 4) [go_sem, *], by simp (maxDischargeDepth := 4) [go_sem, *], by simp (maxDischargeDepth := 4) [go_sem, *], by simp (maxDischargeDepth := 4) [go_sem, *], by simp (maxDischargeDepth := 4) [go_sem, *]⟩ ?_
  rintro w0 ⟨hT0, hB0, c0, c1, c2, c3, c4, c5, c6, c7, c8, c9, c10, c11, c12, c13⟩
  have y0 := behind_cell c0
  have y1 := behind_cell c1
  have y2 := behind_cell c2
  have y3 := behind_cell c3
  have y4 := behind_cell c4
  have y5 := behind_cell c5
  have y6 := behind_cell c6
  have y7 := behind_cell c7
  have y8 := behind_cell c8
  have y9 := behind_cell c9
  have y10 := behind_cell c10
  have y11 := behind_cell c11
  have y12 := behind_cell c12
  have y13 := behind_cell c13
  have hsome := Behind.any w0
  clear c0 c1 c2 c3 c4 c5 c6 c7 c8 c9 c10 c11 c12 c13
  refine wp_region_behind w0 (by kernel_rfl) (by kernel_rfl) (Below.refl _ _) ?_
  repeat (go_big_quiet_step (first | (go_at_call 18; with_reducible exact behind_call CM.out.near hT0 _) | (go_at_call 19; with_reducible first | exact behind_call CM.out.ofw hT0 _ | exact behind_call CM.out.ofa hT0 _ | exact behind_call CM.out.ofl hT0 _)))
  refine wpQuiet_nil ?_
  rintro _ ⟨y, rfl⟩
  go_wp2
  go_ret
  exact ⟨rfl, bw_behind y.below hB0⟩

theorem walk (b t e a c : BitVec 64) (w : World) (hT : Tab w) :
    Calls Tryd.prog 4 #[.agg #[.int .u64 (b.toNat : Int), .int .u64 (t.toNat : Int), .int .u64 (e.toNat : Int)], .int .u64 (a.toNat : Int), .int .u64 (c.toNat : Int)] w fun e w' => e = .returned (.bool true) ∧ Below w.heap.size w w' := by
  obtain ⟨D1, U1, D2, U2, R, LB, LT, LE, S1, S2, S3, A32, OB, OT, OE, O1, O2, V, hm⟩ := met b.toNat t.toNat e.toNat a.toNat c.toNat b.isLt t.isLt e.isLt a.isLt
  cases O1 with
  | false =>
    obtain rfl := hm.one rfl
    exact walk_no _ _ _ _ _ _ _ _ _ _ _ _ _ _ _ _ _ _ _ _ O2 hm w hT
  | true =>
    cases O2 with
    | false =>
      obtain rfl := hm.two rfl
      exact walk_one _ _ _ _ _ _ _ _ _ _ _ _ _ _ _ _ _ _ _ _ hm w hT
    | true => exact walk_two _ _ _ _ _ _ _ _ _ _ _ _ _ _ _ _ _ _ _ _ V (hm.both rfl rfl) hm w hT
open Go.ChangeShapes Go.WideShapes Go.ChangeAt
theorem walks : Frame.WalksLaid [("mintmark/bounds.places", Rows.laid_mintmark_bounds_places)] 4 Tryd.f4 := by
  intro H enc W base args ds ps hL hval hA
  rw [Tryd.params4] at hA hval
  obtain ⟨v0, v1, v2, d0, d1, d2, p0, p1, p2, hargs, rfl, rfl, h0, h1, h2⟩ := trodAll_three hA
  obtain rfl : args = #[v0, v1, v2] := by cases args; simp_all
  obtain ⟨cs0, rfl, hf0⟩ := Frame.open_struct (F := 4) (ks := [.inl .u64, .inl .u64, .inl .u64]) Tryd.underlying26 (by kernel_rfl) (hval 0 26 v0 rfl rfl) h0
  match cs0, hf0 with
  | [_, _, _], ⟨⟨z0_0, rfl, wz0_0⟩, ⟨z0_1, rfl, wz0_1⟩, ⟨z0_2, rfl, wz0_2⟩, _⟩ =>
  obtain ⟨Z0_0, rfl⟩ := Frame.wf_u64 wz0_0
  obtain ⟨Z0_1, rfl⟩ := Frame.wf_u64 wz0_1
  obtain ⟨Z0_2, rfl⟩ := Frame.wf_u64 wz0_2
  obtain ⟨x1, rfl, rfl, rfl, w1⟩ := open_int Tryd.underlying22 (hval 1 22 v1 rfl rfl) h1
  obtain ⟨x2, rfl, rfl, rfl, w2⟩ := open_int Tryd.underlying22 (hval 2 22 v2 rfl rfl) h2
  obtain ⟨X1, rfl⟩ := Frame.wf_u64 w1
  obtain ⟨X2, rfl⟩ := Frame.wf_u64 w2
  exact walk Z0_0 Z0_1 Z0_2 X1 X2 W (tab_of_laid hL)
set_option maxRecDepth 100000 in
theorem said : Rows.BoundsTellsSaid :=
  OpenClaim.holds_of_wide 4 Tryd.f4 rfl rfl rfl rfl rfl rfl rfl ⟨rfl, rfl, rfl, rfl, rfl⟩ rfl rfl rfl rfl rfl (by kernel_rfl) Tryd.func4 (by kernel_rfl)
    (of_decide_eq_true (by kernel_rfl)) (by unfold Func.isWrapper; first | (rw [if_pos (by decide +kernel)]; kernel_rfl) | (rw [if_neg (by decide +kernel)]; exact ⟨rfl, rfl⟩))
    (fun os started H enc _ => Frame.liftLaid [("mintmark/bounds.places", Rows.laid_mintmark_bounds_places)] os started H enc _ _ Rows.boundsTellsSpec 4 (by kernel_rfl) Tryd.func4 Tryd.underlying4 (by kernel_rfl) rfl (by kernel_rfl)
      (fun ds h => by match ds, h with | [_, _, _], _ => exact ⟨rfl, rfl, rfl⟩)
      (ChangeSpec.witness_shaped (enc := enc) (C := Tryd.checked) (os := os) (X := fun w _ => laidMetH Tryd.prog [("mintmark/bounds.places", Rows.laid_mintmark_bounds_places)] w) false (World.doorLaid Tryd.prog 400 os) #[.agg #[.int .u64 0, .int .u64 0, .int .u64 0], .int .u64 0, .int .u64 0] 8 rfl (World.shaped_of_RefB (by kernel_rfl) (by kernel_rfl)) (by kernel_rfl) (by kernel_rfl) (by kernel_rfl) (door_met os _)) walks)
set_option maxRecDepth 100000 in
theorem proved : Rows.BoundsTellsCardSaid :=
  Claim7.holds_tied_plain_at .later [] [.data] true _ false said (fun _ h => by cases h) (by kernel_rfl) (fun _ h => by cases h) boundsTells_row_tie rfl ⟨rfl, rfl⟩ (by kernel_rfl) rfl
    (fun f fn hf hfn => by
      obtain rfl : f = 4 := Option.some.inj ((show Tryd.prog.funcNamed "mintmark/mintmarklaw03.BoundsTells" = some 4 by kernel_rfl).symm.trans hf) |>.symm
      obtain rfl : fn = Tryd.f4 := (Option.some.inj (Tryd.func4.symm.trans hfn)).symm
      exact ⟨by kernel_rfl, fun j t ht => by
        rw [Tryd.params4] at ht
        have hm : t ∈ [26, 22] := by have := Array.mem_of_getElem? ht; simp at this; simp; omega
        have hall : ([26, 22].all fun u => !Tryd.prog.wantsStandIn u) = true := by kernel_rfl
        exact (show Tryd.prog.wantsStandIn t = false by simpa using List.all_eq_true.1 hall t hm)⟩)
    (by kernel_rfl)
end Go.Proofs.YtdffacghdnaniaaDoor.BoundsTells
