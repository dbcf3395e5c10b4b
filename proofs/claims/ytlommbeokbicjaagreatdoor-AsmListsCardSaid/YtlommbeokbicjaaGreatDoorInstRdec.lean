/-
  The document's Decode finds what the program's finds.
-/
import Derived.Test.YtlommbeokbicjaaGreatDoorInstDoc
import Derived.Test.YtlommbeokbicjaaGreatDoorInstImm
import Derived.Test.YtlommbeokbicjaaGreatDoorGIref
namespace Go.Proofs.YtlommbeokbicjaaGreatDoor
open Go.RowKit Words FieldMath InstMath

/-- The walk's own rule, by its name here (an import of the kit's shelf bears the same name). -/
theorem below_drewN {B : Nat} {a w : World} (h : Below B a w) (n : Nat) : Below B a (w.drewN n) := h.trans ⟨rfl, rfl, rfl, Nat.le_refl _, fun _ _ => rfl⟩
theorem get_shl (x : BitVec 64) (a n : Int) : 0#64 ||| getB x a n <<< 0 = getB x a n := by simp
theorem raw_regs (x : BitVec 64) {s : Nat} (hs : IsShape s) :
    readL x (partsL s) (fun _ => 0) 0 = (if s = 83 ∨ s = 66 ∨ s = 78 then 0#64 else getB x 7 5) ∧ readL x (partsL s) (fun _ => 0) 1 = (if s = 85 ∨ s = 74 ∨ s = 78 then 0#64 else getB x 15 5) ∧ readL x (partsL s) (fun _ => 0) 2 = (if s = 82 ∨ s = 83 ∨ s = 66 then getB x 20 5 else 0#64) :=
  each_shape (P := fun s => readL x (partsL s) (fun _ => 0) 0 = (if s = 83 ∨ s = 66 ∨ s = 78 then 0#64 else getB x 7 5) ∧ readL x (partsL s) (fun _ => 0) 1 = (if s = 85 ∨ s = 74 ∨ s = 78 then 0#64 else getB x 15 5) ∧ readL x (partsL s) (fun _ => 0) 2 = (if s = 82 ∨ s = 83 ∨ s = 66 then getB x 20 5 else 0#64))
   ⟨⟨(get_shl x 7 5), (get_shl x 15 5), (get_shl x 20 5)⟩, ⟨(get_shl x 7 5), (get_shl x 15 5), rfl⟩, ⟨(get_shl x 7 5), (get_shl x 15 5), rfl⟩, ⟨(get_shl x 7 5), (get_shl x 15 5), rfl⟩, ⟨(get_shl x 7 5), (get_shl x 15 5), rfl⟩, ⟨rfl, (get_shl x 15 5), (get_shl x 20 5)⟩, ⟨rfl, (get_shl x 15 5), (get_shl x 20 5)⟩, ⟨(get_shl x 7 5), rfl, rfl⟩, ⟨(get_shl x 7 5), rfl, rfl⟩, ⟨rfl, rfl, rfl⟩⟩ hs
theorem ops_imm (k : Nat) (x : BitVec 64) : opsI k x 3 = immS (shp k) x := by
  unfold opsI opsB immS rawB rawS
  cases nS (shp k) <;> simp
theorem ops_raw (k : Nat) (x : BitVec 64) {o : Nat} (ho : o ≠ 3) : opsI k x o = (rawB k x o).toInt := by
  unfold opsI opsB
  rw [if_neg (fun h => ho h.1)]

set_option maxRecDepth 100000 in
set_option maxHeartbeats 8000000 in
theorem rdec_any (x : BitVec 64) (hx : x.toNat < 4294967296) (d : Option Nat) (hd : IsDec x d) (w : World) :
    Calls Tryz.prog 33 #[.int .u32 (x.toNat : Int)] w (Makes (decV d x) w) := by
  have HD := hide hd
  have HX := hide hx
  clear hd
  have SS := cell_same
  have LB' := ltB_add
  have LS := ltB_self
  have LA' := alloc_reads
  have LH := alloc_holds
  go_enter Tryz.func33, Tryz.ntmps33
  go_wp2_with (first | (go_at_call 66; (with_reducible refine (rows_any _).mono ?_); rintro e wa ⟨N, rfl, hN, hba, hRa⟩; have hra := below_reads hba; have hha := below_holds hba; obtain ⟨ma, hsa⟩ := below_grew hba))
  have hO0 : Own wa w.heap.size 5 := by
    repeat (first | with_reducible assumption | with_reducible refine o_dr _ ?_ | with_reducible refine o_d1 ?_ | with_reducible refine o_set ?_ | (with_reducible refine o_new ?_ ?_; (focus (simp)); (focus (simp))) | with_reducible refine o_al _ ?_ | (with_reducible apply o_be; with_reducible assumption))
  have hA : Below w.heap.size w wa := by
    repeat (first | with_reducible assumption | with_reducible exact Below.refl _ _ | with_reducible refine Below.drew ?_ | with_reducible refine below_drewN ?_ _ | with_reducible refine bw_alloc ?_ _ | (with_reducible refine bw_set ?_ ?_ _; focus (dsimp only; omega)) | (with_reducible apply bw_behind; with_reducible assumption))
  have hN0 : w.heap.size < N := by simp at hN; omega
  clear hba hra hha hsa
  go_loopw [5] (fun i wr => ∃ (j : Nat), i = .int .i64 (j : Int) ∧ j ≤ 69 ∧ (∀ k, 1 ≤ k → k ≤ j → matchB k x = false) ∧ RowsAt wr N ∧ Below w.heap.size w wr ∧ Own wr w.heap.size 5) (fun i _ => 69 - (intOf i).toNat)
  case atStart => exact ⟨0, rfl, by omega, fun k h1 h2 => by omega, hRa, hA, hO0⟩
  case round =>
    clear hA hO0 hRa hN wa
    obtain ⟨j, rfl, hj, hall, hR, hB, hO⟩ := hrel
    have HA := hide hall
    clear hall
    by_cases hlt : j < 69
    · have hlt2 : (j : Int) < 69 := by omega
      have hs := shape_of (k := j + 1) (by omega) (by omega)
      have c1 := (hR j hlt).2.1
      have HR := hide hR
      clear hR
      have ki : Hid (∀ W, Calls Tryz.prog 67 #[.int .u32 (x.toNat : Int), .int .u8 ((shp (j + 1) : Nat) : Int)] W (Makes (.int .i64 (opsI (j + 1) x 3)) W)) := hide (fun W => by rw [ops_imm]; exact (imm_any _ hs x HX.out W).mono fun _ _ h => quiet_makes h)
      have kg0 : Hid (∀ W, Calls Tryz.prog 68 #[.int .u32 (x.toNat : Int), .int .i64 7, .int .i64 5] W (Quiet (.int .u64 ((getB x 7 5).toNat : Int)) W)) := hide (rget13 x HX.out 7 5)
      have kg1 : Hid (∀ W, Calls Tryz.prog 68 #[.int .u32 (x.toNat : Int), .int .i64 15, .int .i64 5] W (Quiet (.int .u64 ((getB x 15 5).toNat : Int)) W)) := hide (rget13 x HX.out 15 5)
      have kg2 : Hid (∀ W, Calls Tryz.prog 68 #[.int .u32 (x.toNat : Int), .int .i64 20, .int .i64 5] W (Quiet (.int .u64 ((getB x 20 5).toNat : Int)) W)) := hide (rget13 x HX.out 20 5)
      have w0 := wrap64_bv (getB x 7 5)
      have w1 := wrap64_bv (getB x 15 5)
      have w2 := wrap64_bv (getB x 20 5)
      obtain ⟨q0, q1, q2⟩ := raw_regs x hs
      have p0 := (ops_raw (j + 1) x (o := 0) (by decide)).trans (congrArg BitVec.toInt q0)
      have p1 := (ops_raw (j + 1) x (o := 1) (by decide)).trans (congrArg BitVec.toInt q1)
      have p2 := (ops_raw (j + 1) x (o := 2) (by decide)).trans (congrArg BitVec.toInt q2)
      clear q0 q1 q2
      -- what Encode says of it
      obtain ⟨V, kc, hV⟩ := doc_any j hlt (opsI (j + 1) x 0) (opsI (j + 1) x 1) (opsI (j + 1) x 2) (opsI (j + 1) x 3) (rng_ops x 3)
      rw [four_ops (k := j + 1) (by omega) (by omega)] at kc hV
      have hout : Hid ((matchB (j + 1) x = true ∧ (encK (j + 1) (opsI (j + 1) x)).isSome = true ∧ (V == (x.toNat : Int)) = true) ∨ (matchB (j + 1) x = false ∧ (encK (j + 1) (opsI (j + 1) x)).isSome = false) ∨ (matchB (j + 1) x = false ∧ (encK (j + 1) (opsI (j + 1) x)).isSome = true ∧ (V == (x.toNat : Int)) = false)) := hide (by
        cases hm : matchB (j + 1) x with
        | true =>
          have he := enc_read (k := j + 1) (by omega) (by omega) HX.out hm
          exact .inl ⟨rfl, by rw [he]; rfl, by rw [hV x he]; simp⟩
        | false =>
          cases he : encK (j + 1) (opsI (j + 1) x) with
          | none => exact .inr (.inl ⟨rfl, rfl⟩)
          | some y =>
            refine .inr (.inr ⟨rfl, rfl, ?_⟩)
            rw [hV y he]
            cases hq : ((y.toNat : Int) == (x.toNat : Int)) with
            | false => rfl
            | true =>
              have : y = x := BitVec.toNat_inj.1 (by have := beq_iff_eq.1 hq; omega)
              subst this
              rw [(enc_match (k := j + 1) (by omega) (by omega) he).2] at hm
              cases hm)
      have HV := hide (decV_some (j + 1) x)
      have KC := hide kc
      clear hV kc
      obtain ⟨B, hBq⟩ : ∃ B, (encK (j + 1) (opsI (j + 1) x)).isSome = B := ⟨_, rfl⟩
      rw [hBq] at hout KC
      clear hBq
      obtain ⟨sI, hsI⟩ : ∃ sI : Int, ((shp (j + 1) : Nat) : Int) = sI := ⟨_, rfl⟩
      obtain ⟨d0, hd0⟩ : ∃ z, opsI (j + 1) x 0 = z := ⟨_, rfl⟩
      obtain ⟨d1, hd1⟩ : ∃ z, opsI (j + 1) x 1 = z := ⟨_, rfl⟩
      obtain ⟨d2, hd2⟩ : ∃ z, opsI (j + 1) x 2 = z := ⟨_, rfl⟩
      obtain ⟨im, him⟩ : ∃ z, opsI (j + 1) x 3 = z := ⟨_, rfl⟩
      rw [hd0, hd1, hd2, him] at HV KC
      rw [him] at ki
      rw [hd0] at p0
      rw [hd1] at p1
      rw [hd2] at p2
      rw [hsI] at c1 ki
      have hcl : ((sI = 82 ∧ d0 = (getB x 7 5).toInt ∧ d1 = (getB x 15 5).toInt ∧ d2 = (getB x 20 5).toInt) ∨ (sI = 83 ∧ d0 = 0 ∧ d1 = (getB x 15 5).toInt ∧ d2 = (getB x 20 5).toInt) ∨ (sI = 66 ∧ d0 = 0 ∧ d1 = (getB x 15 5).toInt ∧ d2 = (getB x 20 5).toInt) ∨ (sI = 85 ∧ d0 = (getB x 7 5).toInt ∧ d1 = 0 ∧ d2 = 0) ∨ (sI = 74 ∧ d0 = (getB x 7 5).toInt ∧ d1 = 0 ∧ d2 = 0) ∨ (sI = 78 ∧ d0 = 0 ∧ d1 = 0 ∧ d2 = 0) ∨ ((sI != 83) = true ∧ (sI != 66) = true ∧ (sI != 78) = true ∧ (sI != 85) = true ∧ (sI != 74) = true ∧ (sI == 82) = false ∧ (sI == 83) = false ∧ (sI == 66) = false ∧ d0 = (getB x 7 5).toInt ∧ d1 = (getB x 15 5).toInt ∧ d2 = 0)) := by
        have hs2 := hs
        simp only [IsShape, List.mem_cons, List.not_mem_nil, or_false] at hs2
        rcases hs2 with h | h | h | h | h | h | h | h | h | h <;> rw [h] at hsI p0 p1 p2 <;> subst hsI <;> simp at p0 p1 p2 <;> simp [p0, p1, p2]
      clear p0 p1 p2 hd0 hd1 hd2 him hs hsI
      generalize (getB x 7 5).toInt = I0 at *
      generalize (getB x 15 5).toInt = I1 at *
      generalize (getB x 20 5).toInt = I2 at *
      generalize getB x 7 5 = G0 at *
      generalize getB x 15 5 = G1 at *
      generalize getB x 20 5 = G2 at *
      rcases hcl with ⟨rfl, rfl, rfl, rfl⟩ | ⟨rfl, rfl, rfl, rfl⟩ | ⟨rfl, rfl, rfl, rfl⟩ | ⟨rfl, rfl, rfl, rfl⟩ | ⟨rfl, rfl, rfl, rfl⟩ | ⟨rfl, rfl, rfl, rfl⟩ | ⟨n1, n2, n3, n4, n5, n6, n7, n8, rfl, rfl, rfl⟩
      · -- R
        go_upto_region 13 with (first | (go_at_call 67; (with_reducible refine (ki.out _).mono ?_); rintro e wi ⟨rfl, hbi⟩; have hri := below_reads hbi; have hhi := below_holds hbi; obtain ⟨mi, hsi⟩ := below_grew hbi) | (go_at_call 68; (with_reducible first | refine (kg0.out _).mono ?_ | refine (kg1.out _).mono ?_ | refine (kg2.out _).mono ?_); rintro e w' ⟨rfl, n1, rfl⟩))
        refine wp_abs (fun W => Below wr.heap.size wr W ∧ W.cell? ⟨wr.heap.size + mi, 0, none⟩ = some (.int .i64 ((j : Int) + 1)) ∧ W.cell? ⟨wr.heap.size + mi, 1, none⟩ = some (.int .i64 (d0)) ∧ W.cell? ⟨wr.heap.size + mi, 2, none⟩ = some (.int .i64 (d1)) ∧ W.cell? ⟨wr.heap.size + mi, 3, none⟩ = some (.int .i64 (d2)) ∧ W.cell? ⟨wr.heap.size + mi, 4, none⟩ = some (.int .i64 (im))) ?_ ?_
        · refine ⟨?_, ?_, ?_, ?_, ?_, ?_⟩
          · repeat (first | with_reducible assumption | with_reducible exact Below.refl _ _ | with_reducible refine Below.drew ?_ | with_reducible refine below_drewN ?_ _ | with_reducible refine bw_alloc ?_ _ | (with_reducible refine bw_set ?_ ?_ _; focus (dsimp only; omega)) | (with_reducible apply bw_behind; with_reducible assumption))
          all_goals (simp (maxDischargeDepth := 4) [go_sem, *]; done)
        rintro w3 ⟨hB3, y0, y1, y2, y3, y4⟩
        have hz3 := hB3.size
        have hb4 := bw_behind hB3 hB
        have o3 := o_be hB3 hO
        have r3 := HR.out.be hB3
        clear c1 ki kg0 kg1 kg2
        have O3 := hide o3
        have R3 := hide r3
        clear o3 r3
        have lw : ltB (wr.heap.size + mi) w3.heap.size = true := by unfold ltB; simpa using World.block_lt_of_cell? _ _ y0
        rcases hout.out with ⟨m1, rfl, hvx⟩ | ⟨m1, rfl⟩ | ⟨m1, rfl, hvx⟩
        · have M1 := hide m1
          clear m1
          have z1 : ltB w.heap.size w3.heap.size = true := by
            obtain ⟨v0, e0⟩ := O3.out.val 0 (by omega)
            unfold ltB; simpa using World.block_lt_of_cell? _ _ e0
          obtain ⟨v0, e0⟩ := O3.out.val 0 (by omega)
          have f0 := O3.out.free 0 (by omega)
          obtain ⟨v1, e1⟩ := O3.out.val 1 (by omega)
          have f1 := O3.out.free 1 (by omega)
          obtain ⟨v2, e2⟩ := O3.out.val 2 (by omega)
          have f2 := O3.out.free 2 (by omega)
          obtain ⟨v3, e3⟩ := O3.out.val 3 (by omega)
          have f3 := O3.out.free 3 (by omega)
          obtain ⟨v4, e4⟩ := O3.out.val 4 (by omega)
          have f4 := O3.out.free 4 (by omega)
          go_wp2_with (first | (go_at_call 69; (with_reducible refine (KC.out _).mono ?_); rintro e w4 ⟨rfl, hb5⟩; have hr4 := below_reads hb5; have hh4 := below_holds hb5; obtain ⟨m4, hs4⟩ := below_grew hb5))
          obtain rfl : d = some (j + 1) := by
            cases d with
            | none => have := HD.out (j + 1) (by omega) (by omega); rw [M1.out] at this; cases this
            | some k => rw [match_one ⟨HD.out.1, HD.out.2.1⟩ ⟨by omega, by omega⟩ HD.out.2.2 M1.out]
          refine bodyPost_ret (v := .tuple #[.agg #[.int .i64 ((j : Int) + 1), .int .i64 d0, .int .i64 d1, .int .i64 d2, .int .i64 im], .bool true]) (by simp (maxDischargeDepth := 4) [results, Tryz.results33, go_sem, *]) rfl ?_
          refine ⟨congrArg _ HV.out.symm, ?_⟩
          repeat (first | with_reducible assumption | with_reducible exact Below.refl _ _ | with_reducible refine Below.drew ?_ | with_reducible refine below_drewN ?_ _ | with_reducible refine bw_alloc ?_ _ | (with_reducible refine bw_set ?_ ?_ _; focus (dsimp only; omega)) | (with_reducible apply bw_behind; with_reducible assumption))
        · have M1 := hide m1
          clear m1
          go_wp2_with (first | (go_at_call 69; (with_reducible refine (KC.out _).mono ?_); rintro e w4 ⟨rfl, hb5⟩; have hr4 := below_reads hb5; have hh4 := below_holds hb5; obtain ⟨m4, hs4⟩ := below_grew hb5))
          go_roundw
          case rel =>
            refine ⟨j + 1, by go_num, by omega, fun k h1 h2 => ?_, R3.out.be (by assumption), bw_behind (by assumption) hb4, o_be (by assumption) O3.out⟩
            by_cases hk : k = j + 1
            · rw [hk]; exact M1.out
            · exact HA.out k h1 (by omega)
          case measure => simp [intOf]; omega
        · have M1 := hide m1
          clear m1
          go_wp2_with (first | (go_at_call 69; (with_reducible refine (KC.out _).mono ?_); rintro e w4 ⟨rfl, hb5⟩; have hr4 := below_reads hb5; have hh4 := below_holds hb5; obtain ⟨m4, hs4⟩ := below_grew hb5))
          go_roundw
          case rel =>
            refine ⟨j + 1, by go_num, by omega, fun k h1 h2 => ?_, R3.out.be (by assumption), bw_behind (by assumption) hb4, o_be (by assumption) O3.out⟩
            by_cases hk : k = j + 1
            · rw [hk]; exact M1.out
            · exact HA.out k h1 (by omega)
          case measure => simp [intOf]; omega
      · -- S
        go_upto_region 13 with (first | (go_at_call 67; (with_reducible refine (ki.out _).mono ?_); rintro e wi ⟨rfl, hbi⟩; have hri := below_reads hbi; have hhi := below_holds hbi; obtain ⟨mi, hsi⟩ := below_grew hbi) | (go_at_call 68; (with_reducible first | refine (kg1.out _).mono ?_ | refine (kg2.out _).mono ?_); rintro e w' ⟨rfl, n1, rfl⟩))
        refine wp_abs (fun W => Below wr.heap.size wr W ∧ W.cell? ⟨wr.heap.size + mi, 0, none⟩ = some (.int .i64 ((j : Int) + 1)) ∧ W.cell? ⟨wr.heap.size + mi, 1, none⟩ = some (.int .i64 (0)) ∧ W.cell? ⟨wr.heap.size + mi, 2, none⟩ = some (.int .i64 (d1)) ∧ W.cell? ⟨wr.heap.size + mi, 3, none⟩ = some (.int .i64 (d2)) ∧ W.cell? ⟨wr.heap.size + mi, 4, none⟩ = some (.int .i64 (im))) ?_ ?_
        · refine ⟨?_, ?_, ?_, ?_, ?_, ?_⟩
          · repeat (first | with_reducible assumption | with_reducible exact Below.refl _ _ | with_reducible refine Below.drew ?_ | with_reducible refine below_drewN ?_ _ | with_reducible refine bw_alloc ?_ _ | (with_reducible refine bw_set ?_ ?_ _; focus (dsimp only; omega)) | (with_reducible apply bw_behind; with_reducible assumption))
          all_goals (simp (maxDischargeDepth := 4) [go_sem, *]; done)
        rintro w3 ⟨hB3, y0, y1, y2, y3, y4⟩
        have hz3 := hB3.size
        have hb4 := bw_behind hB3 hB
        have o3 := o_be hB3 hO
        have r3 := HR.out.be hB3
        clear c1 ki kg0 kg1 kg2
        have O3 := hide o3
        have R3 := hide r3
        clear o3 r3
        have lw : ltB (wr.heap.size + mi) w3.heap.size = true := by unfold ltB; simpa using World.block_lt_of_cell? _ _ y0
        rcases hout.out with ⟨m1, rfl, hvx⟩ | ⟨m1, rfl⟩ | ⟨m1, rfl, hvx⟩
        · have M1 := hide m1
          clear m1
          have z1 : ltB w.heap.size w3.heap.size = true := by
            obtain ⟨v0, e0⟩ := O3.out.val 0 (by omega)
            unfold ltB; simpa using World.block_lt_of_cell? _ _ e0
          obtain ⟨v0, e0⟩ := O3.out.val 0 (by omega)
          have f0 := O3.out.free 0 (by omega)
          obtain ⟨v1, e1⟩ := O3.out.val 1 (by omega)
          have f1 := O3.out.free 1 (by omega)
          obtain ⟨v2, e2⟩ := O3.out.val 2 (by omega)
          have f2 := O3.out.free 2 (by omega)
          obtain ⟨v3, e3⟩ := O3.out.val 3 (by omega)
          have f3 := O3.out.free 3 (by omega)
          obtain ⟨v4, e4⟩ := O3.out.val 4 (by omega)
          have f4 := O3.out.free 4 (by omega)
          go_wp2_with (first | (go_at_call 69; (with_reducible refine (KC.out _).mono ?_); rintro e w4 ⟨rfl, hb5⟩; have hr4 := below_reads hb5; have hh4 := below_holds hb5; obtain ⟨m4, hs4⟩ := below_grew hb5))
          obtain rfl : d = some (j + 1) := by
            cases d with
            | none => have := HD.out (j + 1) (by omega) (by omega); rw [M1.out] at this; cases this
            | some k => rw [match_one ⟨HD.out.1, HD.out.2.1⟩ ⟨by omega, by omega⟩ HD.out.2.2 M1.out]
          refine bodyPost_ret (v := .tuple #[.agg #[.int .i64 ((j : Int) + 1), .int .i64 0, .int .i64 d1, .int .i64 d2, .int .i64 im], .bool true]) (by simp (maxDischargeDepth := 4) [results, Tryz.results33, go_sem, *]) rfl ?_
          refine ⟨congrArg _ HV.out.symm, ?_⟩
          repeat (first | with_reducible assumption | with_reducible exact Below.refl _ _ | with_reducible refine Below.drew ?_ | with_reducible refine below_drewN ?_ _ | with_reducible refine bw_alloc ?_ _ | (with_reducible refine bw_set ?_ ?_ _; focus (dsimp only; omega)) | (with_reducible apply bw_behind; with_reducible assumption))
        · have M1 := hide m1
          clear m1
          go_wp2_with (first | (go_at_call 69; (with_reducible refine (KC.out _).mono ?_); rintro e w4 ⟨rfl, hb5⟩; have hr4 := below_reads hb5; have hh4 := below_holds hb5; obtain ⟨m4, hs4⟩ := below_grew hb5))
          go_roundw
          case rel =>
            refine ⟨j + 1, by go_num, by omega, fun k h1 h2 => ?_, R3.out.be (by assumption), bw_behind (by assumption) hb4, o_be (by assumption) O3.out⟩
            by_cases hk : k = j + 1
            · rw [hk]; exact M1.out
            · exact HA.out k h1 (by omega)
          case measure => simp [intOf]; omega
        · have M1 := hide m1
          clear m1
          go_wp2_with (first | (go_at_call 69; (with_reducible refine (KC.out _).mono ?_); rintro e w4 ⟨rfl, hb5⟩; have hr4 := below_reads hb5; have hh4 := below_holds hb5; obtain ⟨m4, hs4⟩ := below_grew hb5))
          go_roundw
          case rel =>
            refine ⟨j + 1, by go_num, by omega, fun k h1 h2 => ?_, R3.out.be (by assumption), bw_behind (by assumption) hb4, o_be (by assumption) O3.out⟩
            by_cases hk : k = j + 1
            · rw [hk]; exact M1.out
            · exact HA.out k h1 (by omega)
          case measure => simp [intOf]; omega
      · -- B
        go_upto_region 13 with (first | (go_at_call 67; (with_reducible refine (ki.out _).mono ?_); rintro e wi ⟨rfl, hbi⟩; have hri := below_reads hbi; have hhi := below_holds hbi; obtain ⟨mi, hsi⟩ := below_grew hbi) | (go_at_call 68; (with_reducible first | refine (kg1.out _).mono ?_ | refine (kg2.out _).mono ?_); rintro e w' ⟨rfl, n1, rfl⟩))
        refine wp_abs (fun W => Below wr.heap.size wr W ∧ W.cell? ⟨wr.heap.size + mi, 0, none⟩ = some (.int .i64 ((j : Int) + 1)) ∧ W.cell? ⟨wr.heap.size + mi, 1, none⟩ = some (.int .i64 (0)) ∧ W.cell? ⟨wr.heap.size + mi, 2, none⟩ = some (.int .i64 (d1)) ∧ W.cell? ⟨wr.heap.size + mi, 3, none⟩ = some (.int .i64 (d2)) ∧ W.cell? ⟨wr.heap.size + mi, 4, none⟩ = some (.int .i64 (im))) ?_ ?_
        · refine ⟨?_, ?_, ?_, ?_, ?_, ?_⟩
          · repeat (first | with_reducible assumption | with_reducible exact Below.refl _ _ | with_reducible refine Below.drew ?_ | with_reducible refine below_drewN ?_ _ | with_reducible refine bw_alloc ?_ _ | (with_reducible refine bw_set ?_ ?_ _; focus (dsimp only; omega)) | (with_reducible apply bw_behind; with_reducible assumption))
          all_goals (simp (maxDischargeDepth := 4) [go_sem, *]; done)
        rintro w3 ⟨hB3, y0, y1, y2, y3, y4⟩
        have hz3 := hB3.size
        have hb4 := bw_behind hB3 hB
        have o3 := o_be hB3 hO
        have r3 := HR.out.be hB3
        clear c1 ki kg0 kg1 kg2
        have O3 := hide o3
        have R3 := hide r3
        clear o3 r3
        have lw : ltB (wr.heap.size + mi) w3.heap.size = true := by unfold ltB; simpa using World.block_lt_of_cell? _ _ y0
        rcases hout.out with ⟨m1, rfl, hvx⟩ | ⟨m1, rfl⟩ | ⟨m1, rfl, hvx⟩
        · have M1 := hide m1
          clear m1
          have z1 : ltB w.heap.size w3.heap.size = true := by
            obtain ⟨v0, e0⟩ := O3.out.val 0 (by omega)
            unfold ltB; simpa using World.block_lt_of_cell? _ _ e0
          obtain ⟨v0, e0⟩ := O3.out.val 0 (by omega)
          have f0 := O3.out.free 0 (by omega)
          obtain ⟨v1, e1⟩ := O3.out.val 1 (by omega)
          have f1 := O3.out.free 1 (by omega)
          obtain ⟨v2, e2⟩ := O3.out.val 2 (by omega)
          have f2 := O3.out.free 2 (by omega)
          obtain ⟨v3, e3⟩ := O3.out.val 3 (by omega)
          have f3 := O3.out.free 3 (by omega)
          obtain ⟨v4, e4⟩ := O3.out.val 4 (by omega)
          have f4 := O3.out.free 4 (by omega)
          go_wp2_with (first | (go_at_call 69; (with_reducible refine (KC.out _).mono ?_); rintro e w4 ⟨rfl, hb5⟩; have hr4 := below_reads hb5; have hh4 := below_holds hb5; obtain ⟨m4, hs4⟩ := below_grew hb5))
          obtain rfl : d = some (j + 1) := by
            cases d with
            | none => have := HD.out (j + 1) (by omega) (by omega); rw [M1.out] at this; cases this
            | some k => rw [match_one ⟨HD.out.1, HD.out.2.1⟩ ⟨by omega, by omega⟩ HD.out.2.2 M1.out]
          refine bodyPost_ret (v := .tuple #[.agg #[.int .i64 ((j : Int) + 1), .int .i64 0, .int .i64 d1, .int .i64 d2, .int .i64 im], .bool true]) (by simp (maxDischargeDepth := 4) [results, Tryz.results33, go_sem, *]) rfl ?_
          refine ⟨congrArg _ HV.out.symm, ?_⟩
          repeat (first | with_reducible assumption | with_reducible exact Below.refl _ _ | with_reducible refine Below.drew ?_ | with_reducible refine below_drewN ?_ _ | with_reducible refine bw_alloc ?_ _ | (with_reducible refine bw_set ?_ ?_ _; focus (dsimp only; omega)) | (with_reducible apply bw_behind; with_reducible assumption))
        · have M1 := hide m1
          clear m1
          go_wp2_with (first | (go_at_call 69; (with_reducible refine (KC.out _).mono ?_); rintro e w4 ⟨rfl, hb5⟩; have hr4 := below_reads hb5; have hh4 := below_holds hb5; obtain ⟨m4, hs4⟩ := below_grew hb5))
          go_roundw
          case rel =>
            refine ⟨j + 1, by go_num, by omega, fun k h1 h2 => ?_, R3.out.be (by assumption), bw_behind (by assumption) hb4, o_be (by assumption) O3.out⟩
            by_cases hk : k = j + 1
            · rw [hk]; exact M1.out
            · exact HA.out k h1 (by omega)
          case measure => simp [intOf]; omega
        · have M1 := hide m1
          clear m1
          go_wp2_with (first | (go_at_call 69; (with_reducible refine (KC.out _).mono ?_); rintro e w4 ⟨rfl, hb5⟩; have hr4 := below_reads hb5; have hh4 := below_holds hb5; obtain ⟨m4, hs4⟩ := below_grew hb5))
          go_roundw
          case rel =>
            refine ⟨j + 1, by go_num, by omega, fun k h1 h2 => ?_, R3.out.be (by assumption), bw_behind (by assumption) hb4, o_be (by assumption) O3.out⟩
            by_cases hk : k = j + 1
            · rw [hk]; exact M1.out
            · exact HA.out k h1 (by omega)
          case measure => simp [intOf]; omega
      · -- U
        go_upto_region 13 with (first | (go_at_call 67; (with_reducible refine (ki.out _).mono ?_); rintro e wi ⟨rfl, hbi⟩; have hri := below_reads hbi; have hhi := below_holds hbi; obtain ⟨mi, hsi⟩ := below_grew hbi) | (go_at_call 68; (with_reducible first | refine (kg0.out _).mono ?_); rintro e w' ⟨rfl, n1, rfl⟩))
        refine wp_abs (fun W => Below wr.heap.size wr W ∧ W.cell? ⟨wr.heap.size + mi, 0, none⟩ = some (.int .i64 ((j : Int) + 1)) ∧ W.cell? ⟨wr.heap.size + mi, 1, none⟩ = some (.int .i64 (d0)) ∧ W.cell? ⟨wr.heap.size + mi, 2, none⟩ = some (.int .i64 (0)) ∧ W.cell? ⟨wr.heap.size + mi, 3, none⟩ = some (.int .i64 (0)) ∧ W.cell? ⟨wr.heap.size + mi, 4, none⟩ = some (.int .i64 (im))) ?_ ?_
        · refine ⟨?_, ?_, ?_, ?_, ?_, ?_⟩
          · repeat (first | with_reducible assumption | with_reducible exact Below.refl _ _ | with_reducible refine Below.drew ?_ | with_reducible refine below_drewN ?_ _ | with_reducible refine bw_alloc ?_ _ | (with_reducible refine bw_set ?_ ?_ _; focus (dsimp only; omega)) | (with_reducible apply bw_behind; with_reducible assumption))
          all_goals (simp (maxDischargeDepth := 4) [go_sem, *]; done)
        rintro w3 ⟨hB3, y0, y1, y2, y3, y4⟩
        have hz3 := hB3.size
        have hb4 := bw_behind hB3 hB
        have o3 := o_be hB3 hO
        have r3 := HR.out.be hB3
        clear c1 ki kg0 kg1 kg2
        have O3 := hide o3
        have R3 := hide r3
        clear o3 r3
        have lw : ltB (wr.heap.size + mi) w3.heap.size = true := by unfold ltB; simpa using World.block_lt_of_cell? _ _ y0
        rcases hout.out with ⟨m1, rfl, hvx⟩ | ⟨m1, rfl⟩ | ⟨m1, rfl, hvx⟩
        · have M1 := hide m1
          clear m1
          have z1 : ltB w.heap.size w3.heap.size = true := by
            obtain ⟨v0, e0⟩ := O3.out.val 0 (by omega)
            unfold ltB; simpa using World.block_lt_of_cell? _ _ e0
          obtain ⟨v0, e0⟩ := O3.out.val 0 (by omega)
          have f0 := O3.out.free 0 (by omega)
          obtain ⟨v1, e1⟩ := O3.out.val 1 (by omega)
          have f1 := O3.out.free 1 (by omega)
          obtain ⟨v2, e2⟩ := O3.out.val 2 (by omega)
          have f2 := O3.out.free 2 (by omega)
          obtain ⟨v3, e3⟩ := O3.out.val 3 (by omega)
          have f3 := O3.out.free 3 (by omega)
          obtain ⟨v4, e4⟩ := O3.out.val 4 (by omega)
          have f4 := O3.out.free 4 (by omega)
          go_wp2_with (first | (go_at_call 69; (with_reducible refine (KC.out _).mono ?_); rintro e w4 ⟨rfl, hb5⟩; have hr4 := below_reads hb5; have hh4 := below_holds hb5; obtain ⟨m4, hs4⟩ := below_grew hb5))
          obtain rfl : d = some (j + 1) := by
            cases d with
            | none => have := HD.out (j + 1) (by omega) (by omega); rw [M1.out] at this; cases this
            | some k => rw [match_one ⟨HD.out.1, HD.out.2.1⟩ ⟨by omega, by omega⟩ HD.out.2.2 M1.out]
          refine bodyPost_ret (v := .tuple #[.agg #[.int .i64 ((j : Int) + 1), .int .i64 d0, .int .i64 0, .int .i64 0, .int .i64 im], .bool true]) (by simp (maxDischargeDepth := 4) [results, Tryz.results33, go_sem, *]) rfl ?_
          refine ⟨congrArg _ HV.out.symm, ?_⟩
          repeat (first | with_reducible assumption | with_reducible exact Below.refl _ _ | with_reducible refine Below.drew ?_ | with_reducible refine below_drewN ?_ _ | with_reducible refine bw_alloc ?_ _ | (with_reducible refine bw_set ?_ ?_ _; focus (dsimp only; omega)) | (with_reducible apply bw_behind; with_reducible assumption))
        · have M1 := hide m1
          clear m1
          go_wp2_with (first | (go_at_call 69; (with_reducible refine (KC.out _).mono ?_); rintro e w4 ⟨rfl, hb5⟩; have hr4 := below_reads hb5; have hh4 := below_holds hb5; obtain ⟨m4, hs4⟩ := below_grew hb5))
          go_roundw
          case rel =>
            refine ⟨j + 1, by go_num, by omega, fun k h1 h2 => ?_, R3.out.be (by assumption), bw_behind (by assumption) hb4, o_be (by assumption) O3.out⟩
            by_cases hk : k = j + 1
            · rw [hk]; exact M1.out
            · exact HA.out k h1 (by omega)
          case measure => simp [intOf]; omega
        · have M1 := hide m1
          clear m1
          go_wp2_with (first | (go_at_call 69; (with_reducible refine (KC.out _).mono ?_); rintro e w4 ⟨rfl, hb5⟩; have hr4 := below_reads hb5; have hh4 := below_holds hb5; obtain ⟨m4, hs4⟩ := below_grew hb5))
          go_roundw
          case rel =>
            refine ⟨j + 1, by go_num, by omega, fun k h1 h2 => ?_, R3.out.be (by assumption), bw_behind (by assumption) hb4, o_be (by assumption) O3.out⟩
            by_cases hk : k = j + 1
            · rw [hk]; exact M1.out
            · exact HA.out k h1 (by omega)
          case measure => simp [intOf]; omega
      · -- J
        go_upto_region 13 with (first | (go_at_call 67; (with_reducible refine (ki.out _).mono ?_); rintro e wi ⟨rfl, hbi⟩; have hri := below_reads hbi; have hhi := below_holds hbi; obtain ⟨mi, hsi⟩ := below_grew hbi) | (go_at_call 68; (with_reducible first | refine (kg0.out _).mono ?_); rintro e w' ⟨rfl, n1, rfl⟩))
        refine wp_abs (fun W => Below wr.heap.size wr W ∧ W.cell? ⟨wr.heap.size + mi, 0, none⟩ = some (.int .i64 ((j : Int) + 1)) ∧ W.cell? ⟨wr.heap.size + mi, 1, none⟩ = some (.int .i64 (d0)) ∧ W.cell? ⟨wr.heap.size + mi, 2, none⟩ = some (.int .i64 (0)) ∧ W.cell? ⟨wr.heap.size + mi, 3, none⟩ = some (.int .i64 (0)) ∧ W.cell? ⟨wr.heap.size + mi, 4, none⟩ = some (.int .i64 (im))) ?_ ?_
        · refine ⟨?_, ?_, ?_, ?_, ?_, ?_⟩
          · repeat (first | with_reducible assumption | with_reducible exact Below.refl _ _ | with_reducible refine Below.drew ?_ | with_reducible refine below_drewN ?_ _ | with_reducible refine bw_alloc ?_ _ | (with_reducible refine bw_set ?_ ?_ _; focus (dsimp only; omega)) | (with_reducible apply bw_behind; with_reducible assumption))
          all_goals (simp (maxDischargeDepth := 4) [go_sem, *]; done)
        rintro w3 ⟨hB3, y0, y1, y2, y3, y4⟩
        have hz3 := hB3.size
        have hb4 := bw_behind hB3 hB
        have o3 := o_be hB3 hO
        have r3 := HR.out.be hB3
        clear c1 ki kg0 kg1 kg2
        have O3 := hide o3
        have R3 := hide r3
        clear o3 r3
        have lw : ltB (wr.heap.size + mi) w3.heap.size = true := by unfold ltB; simpa using World.block_lt_of_cell? _ _ y0
        rcases hout.out with ⟨m1, rfl, hvx⟩ | ⟨m1, rfl⟩ | ⟨m1, rfl, hvx⟩
        · have M1 := hide m1
          clear m1
          have z1 : ltB w.heap.size w3.heap.size = true := by
            obtain ⟨v0, e0⟩ := O3.out.val 0 (by omega)
            unfold ltB; simpa using World.block_lt_of_cell? _ _ e0
          obtain ⟨v0, e0⟩ := O3.out.val 0 (by omega)
          have f0 := O3.out.free 0 (by omega)
          obtain ⟨v1, e1⟩ := O3.out.val 1 (by omega)
          have f1 := O3.out.free 1 (by omega)
          obtain ⟨v2, e2⟩ := O3.out.val 2 (by omega)
          have f2 := O3.out.free 2 (by omega)
          obtain ⟨v3, e3⟩ := O3.out.val 3 (by omega)
          have f3 := O3.out.free 3 (by omega)
          obtain ⟨v4, e4⟩ := O3.out.val 4 (by omega)
          have f4 := O3.out.free 4 (by omega)
          go_wp2_with (first | (go_at_call 69; (with_reducible refine (KC.out _).mono ?_); rintro e w4 ⟨rfl, hb5⟩; have hr4 := below_reads hb5; have hh4 := below_holds hb5; obtain ⟨m4, hs4⟩ := below_grew hb5))
          obtain rfl : d = some (j + 1) := by
            cases d with
            | none => have := HD.out (j + 1) (by omega) (by omega); rw [M1.out] at this; cases this
            | some k => rw [match_one ⟨HD.out.1, HD.out.2.1⟩ ⟨by omega, by omega⟩ HD.out.2.2 M1.out]
          refine bodyPost_ret (v := .tuple #[.agg #[.int .i64 ((j : Int) + 1), .int .i64 d0, .int .i64 0, .int .i64 0, .int .i64 im], .bool true]) (by simp (maxDischargeDepth := 4) [results, Tryz.results33, go_sem, *]) rfl ?_
          refine ⟨congrArg _ HV.out.symm, ?_⟩
          repeat (first | with_reducible assumption | with_reducible exact Below.refl _ _ | with_reducible refine Below.drew ?_ | with_reducible refine below_drewN ?_ _ | with_reducible refine bw_alloc ?_ _ | (with_reducible refine bw_set ?_ ?_ _; focus (dsimp only; omega)) | (with_reducible apply bw_behind; with_reducible assumption))
        · have M1 := hide m1
          clear m1
          go_wp2_with (first | (go_at_call 69; (with_reducible refine (KC.out _).mono ?_); rintro e w4 ⟨rfl, hb5⟩; have hr4 := below_reads hb5; have hh4 := below_holds hb5; obtain ⟨m4, hs4⟩ := below_grew hb5))
          go_roundw
          case rel =>
            refine ⟨j + 1, by go_num, by omega, fun k h1 h2 => ?_, R3.out.be (by assumption), bw_behind (by assumption) hb4, o_be (by assumption) O3.out⟩
            by_cases hk : k = j + 1
            · rw [hk]; exact M1.out
            · exact HA.out k h1 (by omega)
          case measure => simp [intOf]; omega
        · have M1 := hide m1
          clear m1
          go_wp2_with (first | (go_at_call 69; (with_reducible refine (KC.out _).mono ?_); rintro e w4 ⟨rfl, hb5⟩; have hr4 := below_reads hb5; have hh4 := below_holds hb5; obtain ⟨m4, hs4⟩ := below_grew hb5))
          go_roundw
          case rel =>
            refine ⟨j + 1, by go_num, by omega, fun k h1 h2 => ?_, R3.out.be (by assumption), bw_behind (by assumption) hb4, o_be (by assumption) O3.out⟩
            by_cases hk : k = j + 1
            · rw [hk]; exact M1.out
            · exact HA.out k h1 (by omega)
          case measure => simp [intOf]; omega
      · -- N
        go_upto_region 13 with (first | (go_at_call 67; (with_reducible refine (ki.out _).mono ?_); rintro e wi ⟨rfl, hbi⟩; have hri := below_reads hbi; have hhi := below_holds hbi; obtain ⟨mi, hsi⟩ := below_grew hbi))
        refine wp_abs (fun W => Below wr.heap.size wr W ∧ W.cell? ⟨wr.heap.size + mi, 0, none⟩ = some (.int .i64 ((j : Int) + 1)) ∧ W.cell? ⟨wr.heap.size + mi, 1, none⟩ = some (.int .i64 (0)) ∧ W.cell? ⟨wr.heap.size + mi, 2, none⟩ = some (.int .i64 (0)) ∧ W.cell? ⟨wr.heap.size + mi, 3, none⟩ = some (.int .i64 (0)) ∧ W.cell? ⟨wr.heap.size + mi, 4, none⟩ = some (.int .i64 (im))) ?_ ?_
        · refine ⟨?_, ?_, ?_, ?_, ?_, ?_⟩
          · repeat (first | with_reducible assumption | with_reducible exact Below.refl _ _ | with_reducible refine Below.drew ?_ | with_reducible refine below_drewN ?_ _ | with_reducible refine bw_alloc ?_ _ | (with_reducible refine bw_set ?_ ?_ _; focus (dsimp only; omega)) | (with_reducible apply bw_behind; with_reducible assumption))
          all_goals (simp (maxDischargeDepth := 4) [go_sem, *]; done)
        rintro w3 ⟨hB3, y0, y1, y2, y3, y4⟩
        have hz3 := hB3.size
        have hb4 := bw_behind hB3 hB
        have o3 := o_be hB3 hO
        have r3 := HR.out.be hB3
        clear c1 ki kg0 kg1 kg2
        have O3 := hide o3
        have R3 := hide r3
        clear o3 r3
        have lw : ltB (wr.heap.size + mi) w3.heap.size = true := by unfold ltB; simpa using World.block_lt_of_cell? _ _ y0
        rcases hout.out with ⟨m1, rfl, hvx⟩ | ⟨m1, rfl⟩ | ⟨m1, rfl, hvx⟩
        · have M1 := hide m1
          clear m1
          have z1 : ltB w.heap.size w3.heap.size = true := by
            obtain ⟨v0, e0⟩ := O3.out.val 0 (by omega)
            unfold ltB; simpa using World.block_lt_of_cell? _ _ e0
          obtain ⟨v0, e0⟩ := O3.out.val 0 (by omega)
          have f0 := O3.out.free 0 (by omega)
          obtain ⟨v1, e1⟩ := O3.out.val 1 (by omega)
          have f1 := O3.out.free 1 (by omega)
          obtain ⟨v2, e2⟩ := O3.out.val 2 (by omega)
          have f2 := O3.out.free 2 (by omega)
          obtain ⟨v3, e3⟩ := O3.out.val 3 (by omega)
          have f3 := O3.out.free 3 (by omega)
          obtain ⟨v4, e4⟩ := O3.out.val 4 (by omega)
          have f4 := O3.out.free 4 (by omega)
          go_wp2_with (first | (go_at_call 69; (with_reducible refine (KC.out _).mono ?_); rintro e w4 ⟨rfl, hb5⟩; have hr4 := below_reads hb5; have hh4 := below_holds hb5; obtain ⟨m4, hs4⟩ := below_grew hb5))
          obtain rfl : d = some (j + 1) := by
            cases d with
            | none => have := HD.out (j + 1) (by omega) (by omega); rw [M1.out] at this; cases this
            | some k => rw [match_one ⟨HD.out.1, HD.out.2.1⟩ ⟨by omega, by omega⟩ HD.out.2.2 M1.out]
          refine bodyPost_ret (v := .tuple #[.agg #[.int .i64 ((j : Int) + 1), .int .i64 0, .int .i64 0, .int .i64 0, .int .i64 im], .bool true]) (by simp (maxDischargeDepth := 4) [results, Tryz.results33, go_sem, *]) rfl ?_
          refine ⟨congrArg _ HV.out.symm, ?_⟩
          repeat (first | with_reducible assumption | with_reducible exact Below.refl _ _ | with_reducible refine Below.drew ?_ | with_reducible refine below_drewN ?_ _ | with_reducible refine bw_alloc ?_ _ | (with_reducible refine bw_set ?_ ?_ _; focus (dsimp only; omega)) | (with_reducible apply bw_behind; with_reducible assumption))
        · have M1 := hide m1
          clear m1
          go_wp2_with (first | (go_at_call 69; (with_reducible refine (KC.out _).mono ?_); rintro e w4 ⟨rfl, hb5⟩; have hr4 := below_reads hb5; have hh4 := below_holds hb5; obtain ⟨m4, hs4⟩ := below_grew hb5))
          go_roundw
          case rel =>
            refine ⟨j + 1, by go_num, by omega, fun k h1 h2 => ?_, R3.out.be (by assumption), bw_behind (by assumption) hb4, o_be (by assumption) O3.out⟩
            by_cases hk : k = j + 1
            · rw [hk]; exact M1.out
            · exact HA.out k h1 (by omega)
          case measure => simp [intOf]; omega
        · have M1 := hide m1
          clear m1
          go_wp2_with (first | (go_at_call 69; (with_reducible refine (KC.out _).mono ?_); rintro e w4 ⟨rfl, hb5⟩; have hr4 := below_reads hb5; have hh4 := below_holds hb5; obtain ⟨m4, hs4⟩ := below_grew hb5))
          go_roundw
          case rel =>
            refine ⟨j + 1, by go_num, by omega, fun k h1 h2 => ?_, R3.out.be (by assumption), bw_behind (by assumption) hb4, o_be (by assumption) O3.out⟩
            by_cases hk : k = j + 1
            · rw [hk]; exact M1.out
            · exact HA.out k h1 (by omega)
          case measure => simp [intOf]; omega
      · -- P
        go_upto_region 13 with (first | (go_at_call 67; (with_reducible refine (ki.out _).mono ?_); rintro e wi ⟨rfl, hbi⟩; have hri := below_reads hbi; have hhi := below_holds hbi; obtain ⟨mi, hsi⟩ := below_grew hbi) | (go_at_call 68; (with_reducible first | refine (kg0.out _).mono ?_ | refine (kg1.out _).mono ?_); rintro e w' ⟨rfl, n1, rfl⟩))
        refine wp_abs (fun W => Below wr.heap.size wr W ∧ W.cell? ⟨wr.heap.size + mi, 0, none⟩ = some (.int .i64 ((j : Int) + 1)) ∧ W.cell? ⟨wr.heap.size + mi, 1, none⟩ = some (.int .i64 (d0)) ∧ W.cell? ⟨wr.heap.size + mi, 2, none⟩ = some (.int .i64 (d1)) ∧ W.cell? ⟨wr.heap.size + mi, 3, none⟩ = some (.int .i64 (0)) ∧ W.cell? ⟨wr.heap.size + mi, 4, none⟩ = some (.int .i64 (im))) ?_ ?_
        · refine ⟨?_, ?_, ?_, ?_, ?_, ?_⟩
          · repeat (first | with_reducible assumption | with_reducible exact Below.refl _ _ | with_reducible refine Below.drew ?_ | with_reducible refine below_drewN ?_ _ | with_reducible refine bw_alloc ?_ _ | (with_reducible refine bw_set ?_ ?_ _; focus (dsimp only; omega)) | (with_reducible apply bw_behind; with_reducible assumption))
          all_goals (simp (maxDischargeDepth := 4) [go_sem, *]; done)
        rintro w3 ⟨hB3, y0, y1, y2, y3, y4⟩
        have hz3 := hB3.size
        have hb4 := bw_behind hB3 hB
        have o3 := o_be hB3 hO
        have r3 := HR.out.be hB3
        clear c1 ki kg0 kg1 kg2
        have O3 := hide o3
        have R3 := hide r3
        clear o3 r3
        have lw : ltB (wr.heap.size + mi) w3.heap.size = true := by unfold ltB; simpa using World.block_lt_of_cell? _ _ y0
        rcases hout.out with ⟨m1, rfl, hvx⟩ | ⟨m1, rfl⟩ | ⟨m1, rfl, hvx⟩
        · have M1 := hide m1
          clear m1
          have z1 : ltB w.heap.size w3.heap.size = true := by
            obtain ⟨v0, e0⟩ := O3.out.val 0 (by omega)
            unfold ltB; simpa using World.block_lt_of_cell? _ _ e0
          obtain ⟨v0, e0⟩ := O3.out.val 0 (by omega)
          have f0 := O3.out.free 0 (by omega)
          obtain ⟨v1, e1⟩ := O3.out.val 1 (by omega)
          have f1 := O3.out.free 1 (by omega)
          obtain ⟨v2, e2⟩ := O3.out.val 2 (by omega)
          have f2 := O3.out.free 2 (by omega)
          obtain ⟨v3, e3⟩ := O3.out.val 3 (by omega)
          have f3 := O3.out.free 3 (by omega)
          obtain ⟨v4, e4⟩ := O3.out.val 4 (by omega)
          have f4 := O3.out.free 4 (by omega)
          go_wp2_with (first | (go_at_call 69; (with_reducible refine (KC.out _).mono ?_); rintro e w4 ⟨rfl, hb5⟩; have hr4 := below_reads hb5; have hh4 := below_holds hb5; obtain ⟨m4, hs4⟩ := below_grew hb5))
          obtain rfl : d = some (j + 1) := by
            cases d with
            | none => have := HD.out (j + 1) (by omega) (by omega); rw [M1.out] at this; cases this
            | some k => rw [match_one ⟨HD.out.1, HD.out.2.1⟩ ⟨by omega, by omega⟩ HD.out.2.2 M1.out]
          refine bodyPost_ret (v := .tuple #[.agg #[.int .i64 ((j : Int) + 1), .int .i64 d0, .int .i64 d1, .int .i64 0, .int .i64 im], .bool true]) (by simp (maxDischargeDepth := 4) [results, Tryz.results33, go_sem, *]) rfl ?_
          refine ⟨congrArg _ HV.out.symm, ?_⟩
          repeat (first | with_reducible assumption | with_reducible exact Below.refl _ _ | with_reducible refine Below.drew ?_ | with_reducible refine below_drewN ?_ _ | with_reducible refine bw_alloc ?_ _ | (with_reducible refine bw_set ?_ ?_ _; focus (dsimp only; omega)) | (with_reducible apply bw_behind; with_reducible assumption))
        · have M1 := hide m1
          clear m1
          go_wp2_with (first | (go_at_call 69; (with_reducible refine (KC.out _).mono ?_); rintro e w4 ⟨rfl, hb5⟩; have hr4 := below_reads hb5; have hh4 := below_holds hb5; obtain ⟨m4, hs4⟩ := below_grew hb5))
          go_roundw
          case rel =>
            refine ⟨j + 1, by go_num, by omega, fun k h1 h2 => ?_, R3.out.be (by assumption), bw_behind (by assumption) hb4, o_be (by assumption) O3.out⟩
            by_cases hk : k = j + 1
            · rw [hk]; exact M1.out
            · exact HA.out k h1 (by omega)
          case measure => simp [intOf]; omega
        · have M1 := hide m1
          clear m1
          go_wp2_with (first | (go_at_call 69; (with_reducible refine (KC.out _).mono ?_); rintro e w4 ⟨rfl, hb5⟩; have hr4 := below_reads hb5; have hh4 := below_holds hb5; obtain ⟨m4, hs4⟩ := below_grew hb5))
          go_roundw
          case rel =>
            refine ⟨j + 1, by go_num, by omega, fun k h1 h2 => ?_, R3.out.be (by assumption), bw_behind (by assumption) hb4, o_be (by assumption) O3.out⟩
            by_cases hk : k = j + 1
            · rw [hk]; exact M1.out
            · exact HA.out k h1 (by omega)
          case measure => simp [intOf]; omega
    · obtain rfl : j = 69 := by omega
      obtain rfl : d = none := by
        cases d with
        | none => rfl
        | some k => have := HA.out k HD.out.1 HD.out.2.1; rw [HD.out.2.2] at this; cases this
      obtain ⟨v0, e0⟩ := hO.val 0 (by omega)
      obtain ⟨v1, e1⟩ := hO.val 1 (by omega)
      obtain ⟨v2, e2⟩ := hO.val 2 (by omega)
      obtain ⟨v3, e3⟩ := hO.val 3 (by omega)
      obtain ⟨v4, e4⟩ := hO.val 4 (by omega)
      have d0 := hO.free 0 (by omega)
      have d1 := hO.free 1 (by omega)
      have d2 := hO.free 2 (by omega)
      have d3 := hO.free 3 (by omega)
      have d4 := hO.free 4 (by omega)
      go_wp2
      refine bodyPost_ret (v := .tuple #[.agg #[.int .i64 0, .int .i64 0, .int .i64 0, .int .i64 0, .int .i64 0], .bool false]) (by simp (maxDischargeDepth := 4) [results, Tryz.results33, go_sem, *]) rfl ?_
      refine ⟨rfl, ?_⟩
      repeat (first | with_reducible assumption | with_reducible exact Below.refl _ _ | with_reducible refine Below.drew ?_ | with_reducible refine below_drewN ?_ _ | with_reducible refine bw_alloc ?_ _ | (with_reducible refine bw_set ?_ ?_ _; focus (dsimp only; omega)) | (with_reducible apply bw_behind; with_reducible assumption))
end Go.Proofs.YtlommbeokbicjaaGreatDoor
