/-
  What asm.read answers to the text of an instruction with operands, by the closure of Parse.
-/
import Derived.Test.YtlommbeokbicjaaGreatDoorAsmRead
namespace Go.Proofs.YtlommbeokbicjaaGreatDoor
open Go.RowKit InstMath AsmMath
open Go.Lib (itoa)

set_option maxRecDepth 100000 in
set_option maxHeartbeats 8000000 in
theorem readP_ops (k : Nat) (h1 : 1 ≤ k) (h2 : k ≤ 69) (hn : opL (shp k) ≠ []) (F : Nat → Int) (hF : ∀ o, rng (F o)) (hreg : ∀ o ∈ opL (shp k), o ≠ 3 → 0 ≤ F o ∧ F o < 32) (s : List UInt8) (hs : LastOk s) (y : BitVec 64)
    (he : encK k (four (msk k F 0) (msk k F 1) (msk k F 2) (msk k F 3)) = some y) (w : World) (hG : G w) (cl : ∀ W, G W → Calls Tryz.prog 22 #[.int .u8 (shp k : Int), .string (str s)] W (Makes (.tuple #[.int .i64 (F 3), .bool true]) W)) :
    Calls Tryz.prog 21 #[.string (str (wr k F s)), .func (.func 22) #[] #[]] w (Makes (.tuple #[instV k (msk k F 0) (msk k F 1) (msk k F 2) (msk k F 3), .bool true]) w) := by
  have hsh := shape_of h1 h2
  have hk70 : k < 70 := by omega
  have hlen := txs_len h1 hk70 hs hF (k := k)
  have hwl := wr_len h1 hk70 hs hF (k := k)
  have CL := hide cl
  have C1 : Hid (∀ W, G W → Calls Tryz.prog 49 #[.string (str (wr k F s)), .string ⟨#[32]⟩] W (Makes (.tuple #[.string (str (nameL k)), .string (str (joinS [44, 32] (txs k F s))), .bool true]) W)) := hide (fun W hG => by
    have := cut_any (wr k F s) [32] (by omega) W hG
    rw [wr_cut hk70 hn] at this
    exact this)
  have C2 : Hid (∀ W, G W → Calls Tryz.prog 50 #[.string (str (nameL k))] W (Makes (.int .i64 (k : Int)) W)) := hide (find_name k hk70)
  have C3 : Hid (∀ W, G W → Calls Tryz.prog 15 #[.int .i64 (k : Int)] W (Makes (.int .u8 (shp k : Int)) W)) := hide (fun W _ => (shape_yes k ⟨h1, h2⟩ W).mono fun _ _ h => quiet_makes h)
  have C4 : Hid (∀ W, Calls Tryz.prog 44 #[.int .u8 (shp k : Int)] W fun e w' => e = .returned (.slice (some ⟨W.heap.size, 0, none⟩) (opL (shp k)).length (opL (shp k)).length) ∧ w' = W.alloc (.cells ((opL (shp k)).map (fun (k : Nat) => Value.int .i64 (k : Int))).toArray 3)) := hide (fun W => (operands_any _ hsh W).mono fun e w' h => by
    rcases h with h | h
    · exact absurd h.1 hn
    · exact h.2)
  have htl : (txs k F s).length = (opL (shp k)).length := by unfold txs; simp
  have hol := ops_len hsh
  have C5 : Hid (∀ W, G W → Calls Tryz.prog 51 #[.string (str (joinS [44, 32] (txs k F s))), .string ⟨#[44, 32]⟩, .int .i64 (((opL (shp k)).length : Int) + 1)] W fun e w' => ∃ c, e = .returned (.slice (some ⟨W.heap.size, 0, none⟩) (opL (shp k)).length c) ∧ Below W.heap.size W w' ∧ Strs w' W.heap.size (txs k F s) ∧ W.heap.size < w'.heap.size) := hide (fun W hG => by
    have := splitN_any 44 [32] (txs k F s) ((opL (shp k)).length + 1) (by intro e; rw [e] at htl; exact hn (List.length_eq_zero_iff.1 htl.symm)) (txs_44 hs) (by omega) (by omega) (by omega) (by have := join_min [44, 32] (txs k F s) (fun r hr => by obtain ⟨o, _, rfl⟩ := List.mem_map.1 hr; exact tx_ne hs o); omega) W hG
    rw [htl] at this
    exact this)
  have C6 : Hid (∀ (o : Nat), o ∈ opL (shp k) → o ≠ 3 → ∀ (b : Nat) W, G W → W.cell? ⟨b, 0, none⟩ = some (.bool true) → W.frozen? ⟨b, 0, none⟩ = false → Calls Tryz.prog 52 #[.string (str (tx F s o)), .pointer (some ⟨b, 0, none⟩)] W (Makes (.int .i64 (F o)) W)) := hide (fun o ho h3 b W hG hc hf => by
    have := reg_any (F o) (hreg o ho h3) b W hG hc hf
    unfold tx
    rw [if_neg h3]
    exact this)
  have C7 : Hid (∀ W, G W → Calls Tryz.prog 6 #[.agg #[.int .i64 (k : Int), .int .i64 (msk k F 0), .int .i64 (msk k F 1), .int .i64 (msk k F 2), .int .i64 (msk k F 3)]] W (Makes (.tuple #[.int .u32 (y.toNat : Int), .bool true]) W)) := hide (fun W hG => by
    have hm : ∀ o, rng (msk k F o) := fun o => by
      by_cases ho : o ∈ opL (shp k)
      · rw [msk_yes ho]; exact hF o
      · rw [msk_no ho]; unfold rng; omega
    have := enc_yes k h1 h2 _ _ _ _ (hm 0) (hm 1) (hm 2) (hm 3) W hG.words
    rw [he] at this
    exact this)
  have hop := hide (ops_lt hsh)
  have HTX := hide (show ∀ (j o : Nat), (opL (shp k))[j]? = some o → (txs k F s)[j]? = some (tx F s o) from fun j o hj => by unfold txs; rw [List.getElem?_map, hj]; rfl)
  unfold instV msk at *
  generalize txs k F s = X at *
  generalize wr k F s = S0 at *
  generalize nameL k = NM at *
  generalize opL (shp k) = L at *
  generalize joinS [44, 32] X = J at *
  generalize str J = SJ at *
  generalize str NM = SN at *
  generalize str S0 = SS0 at *
  have hL1 : ((L.length : Int) != (L.length : Int)) = false := by simp
  clear hsh hF hreg hs h1 h2 he cl hk70 hlen hwl
  have SS := cell_same
  have LB' := ltB_add
  have LS := ltB_self
  have LA' := alloc_reads
  have LH := alloc_holds
  go_enter Tryz.func21, Tryz.ntmps21
  go_wp2_with (first | (go_at_call 49; (first | ((with_reducible refine (C1.out _ ?_).mono ?_); (focus (refine hG.behind ?_; repeat (first | with_reducible assumption | with_reducible exact Below.refl _ _ | with_reducible refine Below.drew ?_ | with_reducible refine below_drewN ?_ _ | with_reducible refine bw_alloc ?_ _ | (with_reducible refine bw_set ?_ ?_ _; focus (dsimp only; omega)) | (with_reducible apply bw_behind; with_reducible assumption)))))); rintro e w1 ⟨rfl, hb1⟩; have hr1 := below_reads hb1; have hh1 := below_holds hb1; obtain ⟨m1, hs1⟩ := below_grew hb1) | (go_at_call 50; (first | ((with_reducible refine (C2.out _ ?_).mono ?_); (focus (refine hG.behind ?_; repeat (first | with_reducible assumption | with_reducible exact Below.refl _ _ | with_reducible refine Below.drew ?_ | with_reducible refine below_drewN ?_ _ | with_reducible refine bw_alloc ?_ _ | (with_reducible refine bw_set ?_ ?_ _; focus (dsimp only; omega)) | (with_reducible apply bw_behind; with_reducible assumption)))))); rintro e w2 ⟨rfl, hb2⟩; have hr2 := below_reads hb2; have hh2 := below_holds hb2; obtain ⟨m2, hs2⟩ := below_grew hb2) | (go_at_call 15; (first | ((with_reducible refine (C3.out _ ?_).mono ?_); (focus (refine hG.behind ?_; repeat (first | with_reducible assumption | with_reducible exact Below.refl _ _ | with_reducible refine Below.drew ?_ | with_reducible refine below_drewN ?_ _ | with_reducible refine bw_alloc ?_ _ | (with_reducible refine bw_set ?_ ?_ _; focus (dsimp only; omega)) | (with_reducible apply bw_behind; with_reducible assumption)))))); rintro e w3 ⟨rfl, hb3⟩; have hr3 := below_reads hb3; have hh3 := below_holds hb3; obtain ⟨m3, hs3⟩ := below_grew hb3) | (go_at_call 44; (with_reducible refine (C4.out _).mono ?_); rintro e w4 ⟨rfl, rfl⟩) | (go_at_call 51; (with_reducible refine (C5.out _ ?_).mono ?_); (focus (refine hG.behind ?_; repeat (first | with_reducible assumption | with_reducible exact Below.refl _ _ | with_reducible refine Below.drew ?_ | with_reducible refine below_drewN ?_ _ | with_reducible refine bw_alloc ?_ _ | (with_reducible refine bw_set ?_ ?_ _; focus (dsimp only; omega)) | (with_reducible apply bw_behind; with_reducible assumption)))); rintro e w5 ⟨c5, rfl, hb5, ht5, hl5⟩; have hr5 := below_reads hb5; have hh5 := below_holds hb5; obtain ⟨m5, hs5⟩ := below_grew hb5))
  have ht6 : Strs w5 (w.heap.size + 1 + m1 + m2 + 1 + m3 + 1) X := by simpa [hs3, hs2, hs1] using ht5
  refine wp_abs (fun W => Below w.heap.size w W ∧ (W.cell? ⟨(w.heap.size + 1 + m1 + m2), 0, none⟩ = some (.int .i64 (k : Int)) ∧ W.cell? ⟨(w.heap.size + 1 + m1 + m2), 1, none⟩ = some (.int .i64 0) ∧ W.cell? ⟨(w.heap.size + 1 + m1 + m2), 2, none⟩ = some (.int .i64 0) ∧ W.cell? ⟨(w.heap.size + 1 + m1 + m2), 3, none⟩ = some (.int .i64 0) ∧ W.cell? ⟨(w.heap.size + 1 + m1 + m2), 4, none⟩ = some (.int .i64 0)) ∧ Own W ((w.heap.size + 1 + m1 + m2)) 5 ∧ W.cell? ⟨(w.heap.size + 1 + m1 + m2 + 1 + m3 + 1 + m5), 0, none⟩ = some (.bool true) ∧ Own W ((w.heap.size + 1 + m1 + m2 + 1 + m3 + 1 + m5)) 1 ∧ Own W w.heap.size 5 ∧ Ops W ((w.heap.size + 1 + m1 + m2 + 1 + m3)) L ∧ Strs W ((w.heap.size + 1 + m1 + m2 + 1 + m3 + 1)) X) ?_ ?_
  · refine ⟨?_, ⟨?_, ?_, ?_, ?_, ?_⟩, ?_, ?_, ?_, ?_, ?_, ?_⟩
    · repeat (first | with_reducible assumption | with_reducible exact Below.refl _ _ | with_reducible refine Below.drew ?_ | with_reducible refine below_drewN ?_ _ | with_reducible refine bw_alloc ?_ _ | (with_reducible refine bw_set ?_ ?_ _; focus (dsimp only; omega)) | (with_reducible apply bw_behind; with_reducible assumption))
    · first | (simp (maxDischargeDepth := 4) [go_sem, *]; done) | (simp [go_sem, *]; omega)
    · first | (simp (maxDischargeDepth := 4) [go_sem, *]; done) | (simp [go_sem, *]; omega)
    · first | (simp (maxDischargeDepth := 4) [go_sem, *]; done) | (simp [go_sem, *]; omega)
    · first | (simp (maxDischargeDepth := 4) [go_sem, *]; done) | (simp [go_sem, *]; omega)
    · first | (simp (maxDischargeDepth := 4) [go_sem, *]; done) | (simp [go_sem, *]; omega)
    · repeat (first | with_reducible assumption | (with_reducible refine o_new ?_ ?_; (focus (simp [*]; done)); (focus (simp; done))) | with_reducible refine o_al _ ?_ | (with_reducible apply o_be; with_reducible assumption))
    · first | (simp (maxDischargeDepth := 4) [go_sem, *]; done) | (simp [go_sem, *]; omega)
    · repeat (first | with_reducible assumption | (with_reducible refine o_new ?_ ?_; (focus (simp [*]; done)); (focus (simp; done))) | with_reducible refine o_al _ ?_ | (with_reducible apply o_be; with_reducible assumption))
    · repeat (first | with_reducible assumption | (with_reducible refine o_new ?_ ?_; (focus (simp [*]; done)); (focus (simp; done))) | with_reducible refine o_al _ ?_ | (with_reducible apply o_be; with_reducible assumption))
    · refine ops_al _ (ops_be hb5 ?_)
      intro j o hj
      simp [go_sem, *]
    · exact strs_al _ ht6
  rintro w0 ⟨hB0, ⟨c0, c1, c2, c3, c4⟩, oi, cr, or', o4, hN, hT⟩
  have q1 : w.heap.size < (w.heap.size + 1 + m1 + m2) := by omega
  have q2 : (w.heap.size + 1 + m1 + m2) < (w.heap.size + 1 + m1 + m2 + 1 + m3) := by omega
  have q3 : (w.heap.size + 1 + m1 + m2 + 1 + m3) < (w.heap.size + 1 + m1 + m2 + 1 + m3 + 1) := by omega
  have q4 : (w.heap.size + 1 + m1 + m2 + 1 + m3 + 1) < (w.heap.size + 1 + m1 + m2 + 1 + m3 + 1 + m5) := by have h := hl5; simp [hs3, hs2, hs1] at h; omega
  clear ht5 ht6 hb5 hr5 hh5 hs5 hl5 hb3 hr3 hh3 hs3 hb2 hr2 hh2 hs2 hb1 hr1 hh1 hs1 C1 C2 C3 C4 C5
  generalize (w.heap.size + 1 + m1 + m2 + 1 + m3 + 1 + m5) = br at *
  generalize (w.heap.size + 1 + m1 + m2 + 1 + m3 + 1) = T at *
  generalize (w.heap.size + 1 + m1 + m2 + 1 + m3) = N at *
  generalize (w.heap.size + 1 + m1 + m2) = bi at *
  have hol2 := hol
  go_loopw [50] (fun i wr => ∃ j : Nat, j ≤ L.length ∧ i = .int .i64 (j : Int) ∧ Below w.heap.size w wr ∧ (wr.cell? ⟨bi, 0, none⟩ = some (.int .i64 (k : Int)) ∧ wr.cell? ⟨bi, 1, none⟩ = some (.int .i64 (vl L F j 0)) ∧ wr.cell? ⟨bi, 2, none⟩ = some (.int .i64 (vl L F j 1)) ∧ wr.cell? ⟨bi, 3, none⟩ = some (.int .i64 (vl L F j 2)) ∧ wr.cell? ⟨bi, 4, none⟩ = some (.int .i64 (vl L F j 3))) ∧ Own wr bi 5 ∧ wr.cell? ⟨br, 0, none⟩ = some (.bool true) ∧ Own wr br 1 ∧ Own wr w.heap.size 5 ∧ Ops wr N L ∧ Strs wr T X) (fun i _ => L.length - (intOf i).toNat)
  case atStart =>
    refine ⟨0, by omega, rfl, hB0, ?_, oi, cr, or', o4, hN, hT⟩
    rw [vl_zero, vl_zero, vl_zero, vl_zero]
    exact ⟨c0, c1, c2, c3, c4⟩
  case round =>
    clear hB0 c0 c1 c2 c3 c4 oi cr or' o4 hN hT
    obtain ⟨j, hj, rfl, hB, ⟨c0, c1, c2, c3, c4⟩, oi, cr, or', o4, hN, hT⟩ := hrel
    have fr := or'.free 0 (by omega)
    have lbi : ltB bi wr.heap.size = true := by unfold ltB; simpa using World.block_lt_of_cell? _ _ c0
    have lbr : ltB br wr.heap.size = true := by unfold ltB; simpa using World.block_lt_of_cell? _ _ cr
    have lb4 : ltB w.heap.size wr.heap.size = true := by obtain ⟨v, hv⟩ := o4.val 0 (by omega); unfold ltB; simpa using World.block_lt_of_cell? _ _ hv
    have f0 := oi.free 0 (by omega)
    have f1 := oi.free 1 (by omega)
    have f2 := oi.free 2 (by omega)
    have f3 := oi.free 3 (by omega)
    have f4 := oi.free 4 (by omega)
    by_cases hlt : j < L.length
    · obtain ⟨o, ho⟩ : ∃ o, L[j] = o := ⟨_, rfl⟩
      have hjo : L[j]? = some o := by rw [List.getElem?_eq_getElem hlt, ho]
      have hmem : o ∈ L := ho ▸ List.getElem_mem hlt
      have ho4 := hop.out o hmem
      have hc := hN j o hjo
      have hx := hT j _ (HTX.out j o hjo)
      have ROWS := hide (And.intro hN hT)
      have OO := hide (And.intro oi (And.intro or' o4))
      clear hN hT
      clear ho
      obtain rfl | rfl | rfl | rfl : o = 0 ∨ o = 1 ∨ o = 2 ∨ o = 3 := by omega
      · have C6o := hide (C6.out 0 hmem (by decide) br)
        generalize str (tx F s 0) = Z at *
        go_wp2_with (first | (go_at_call 52; (with_reducible refine (C6o.out _ ?_ ?_ ?_).mono ?_); (focus (refine hG.behind ?_; repeat (first | with_reducible assumption | with_reducible exact Below.refl _ _ | with_reducible refine Below.drew ?_ | with_reducible refine below_drewN ?_ _ | with_reducible refine bw_alloc ?_ _ | (with_reducible refine bw_set ?_ ?_ _; focus (dsimp only; omega)) | (with_reducible apply bw_behind; with_reducible assumption)))); (with_reducible assumption); (with_reducible assumption); rintro e w7 ⟨rfl, hb7⟩; have hr7 := below_reads hb7; have hh7 := below_holds hb7; obtain ⟨m7, hs7⟩ := below_grew hb7))
        go_roundw
        case rel =>
          refine ⟨j + 1, by omega, by go_num, ?_⟩
          rw [vl_hit hjo, vl_miss hjo (show (1 : Nat) ≠ 0 by decide), vl_miss hjo (show (2 : Nat) ≠ 0 by decide), vl_miss hjo (show (3 : Nat) ≠ 0 by decide)]
          refine ⟨?_, ⟨?_, ?_, ?_, ?_, ?_⟩, ?_, ?_, ?_, ?_, ?_, ?_⟩
          · repeat (first | with_reducible assumption | with_reducible exact Below.refl _ _ | with_reducible refine Below.drew ?_ | with_reducible refine below_drewN ?_ _ | with_reducible refine bw_alloc ?_ _ | (with_reducible refine bw_set ?_ ?_ _; focus (dsimp only; omega)) | (with_reducible apply bw_behind; with_reducible assumption))
          all_goals first | ((repeat (first | with_reducible assumption | (with_reducible refine c_hit ?_; (focus (simp [*]; done))) | with_reducible refine c_hit2 ?_ | (with_reducible refine c_off ?_ ?_; focus (decide)) | (with_reducible refine c_set ?_ ?_; focus (dsimp only; omega)) | (with_reducible apply c_be; with_reducible assumption))); done) | ((repeat (first | with_reducible exact OO.out.1 | with_reducible exact OO.out.2.1 | with_reducible exact OO.out.2.2 | with_reducible refine o_set ?_ | (with_reducible apply o_be; with_reducible assumption))); done) | ((repeat (first | with_reducible exact ROWS.out.1 | (with_reducible refine ops_set ?_ ?_; focus (dsimp only; omega)) | (with_reducible apply ops_be; with_reducible assumption))); done) | ((repeat (first | with_reducible exact ROWS.out.2 | (with_reducible refine strs_set ?_ ?_; focus (dsimp only; omega)) | (with_reducible apply strs_be; with_reducible assumption))); done)
        case measure => simp [intOf]; omega
      · have C6o := hide (C6.out 1 hmem (by decide) br)
        generalize str (tx F s 1) = Z at *
        go_wp2_with (first | (go_at_call 52; (with_reducible refine (C6o.out _ ?_ ?_ ?_).mono ?_); (focus (refine hG.behind ?_; repeat (first | with_reducible assumption | with_reducible exact Below.refl _ _ | with_reducible refine Below.drew ?_ | with_reducible refine below_drewN ?_ _ | with_reducible refine bw_alloc ?_ _ | (with_reducible refine bw_set ?_ ?_ _; focus (dsimp only; omega)) | (with_reducible apply bw_behind; with_reducible assumption)))); (with_reducible assumption); (with_reducible assumption); rintro e w7 ⟨rfl, hb7⟩; have hr7 := below_reads hb7; have hh7 := below_holds hb7; obtain ⟨m7, hs7⟩ := below_grew hb7))
        go_roundw
        case rel =>
          refine ⟨j + 1, by omega, by go_num, ?_⟩
          rw [vl_miss hjo (show (0 : Nat) ≠ 1 by decide), vl_hit hjo, vl_miss hjo (show (2 : Nat) ≠ 1 by decide), vl_miss hjo (show (3 : Nat) ≠ 1 by decide)]
          refine ⟨?_, ⟨?_, ?_, ?_, ?_, ?_⟩, ?_, ?_, ?_, ?_, ?_, ?_⟩
          · repeat (first | with_reducible assumption | with_reducible exact Below.refl _ _ | with_reducible refine Below.drew ?_ | with_reducible refine below_drewN ?_ _ | with_reducible refine bw_alloc ?_ _ | (with_reducible refine bw_set ?_ ?_ _; focus (dsimp only; omega)) | (with_reducible apply bw_behind; with_reducible assumption))
          all_goals first | ((repeat (first | with_reducible assumption | (with_reducible refine c_hit ?_; (focus (simp [*]; done))) | with_reducible refine c_hit2 ?_ | (with_reducible refine c_off ?_ ?_; focus (decide)) | (with_reducible refine c_set ?_ ?_; focus (dsimp only; omega)) | (with_reducible apply c_be; with_reducible assumption))); done) | ((repeat (first | with_reducible exact OO.out.1 | with_reducible exact OO.out.2.1 | with_reducible exact OO.out.2.2 | with_reducible refine o_set ?_ | (with_reducible apply o_be; with_reducible assumption))); done) | ((repeat (first | with_reducible exact ROWS.out.1 | (with_reducible refine ops_set ?_ ?_; focus (dsimp only; omega)) | (with_reducible apply ops_be; with_reducible assumption))); done) | ((repeat (first | with_reducible exact ROWS.out.2 | (with_reducible refine strs_set ?_ ?_; focus (dsimp only; omega)) | (with_reducible apply strs_be; with_reducible assumption))); done)
        case measure => simp [intOf]; omega
      · have C6o := hide (C6.out 2 hmem (by decide) br)
        generalize str (tx F s 2) = Z at *
        go_wp2_with (first | (go_at_call 52; (with_reducible refine (C6o.out _ ?_ ?_ ?_).mono ?_); (focus (refine hG.behind ?_; repeat (first | with_reducible assumption | with_reducible exact Below.refl _ _ | with_reducible refine Below.drew ?_ | with_reducible refine below_drewN ?_ _ | with_reducible refine bw_alloc ?_ _ | (with_reducible refine bw_set ?_ ?_ _; focus (dsimp only; omega)) | (with_reducible apply bw_behind; with_reducible assumption)))); (with_reducible assumption); (with_reducible assumption); rintro e w7 ⟨rfl, hb7⟩; have hr7 := below_reads hb7; have hh7 := below_holds hb7; obtain ⟨m7, hs7⟩ := below_grew hb7))
        go_roundw
        case rel =>
          refine ⟨j + 1, by omega, by go_num, ?_⟩
          rw [vl_miss hjo (show (0 : Nat) ≠ 2 by decide), vl_miss hjo (show (1 : Nat) ≠ 2 by decide), vl_hit hjo, vl_miss hjo (show (3 : Nat) ≠ 2 by decide)]
          refine ⟨?_, ⟨?_, ?_, ?_, ?_, ?_⟩, ?_, ?_, ?_, ?_, ?_, ?_⟩
          · repeat (first | with_reducible assumption | with_reducible exact Below.refl _ _ | with_reducible refine Below.drew ?_ | with_reducible refine below_drewN ?_ _ | with_reducible refine bw_alloc ?_ _ | (with_reducible refine bw_set ?_ ?_ _; focus (dsimp only; omega)) | (with_reducible apply bw_behind; with_reducible assumption))
          all_goals first | ((repeat (first | with_reducible assumption | (with_reducible refine c_hit ?_; (focus (simp [*]; done))) | with_reducible refine c_hit2 ?_ | (with_reducible refine c_off ?_ ?_; focus (decide)) | (with_reducible refine c_set ?_ ?_; focus (dsimp only; omega)) | (with_reducible apply c_be; with_reducible assumption))); done) | ((repeat (first | with_reducible exact OO.out.1 | with_reducible exact OO.out.2.1 | with_reducible exact OO.out.2.2 | with_reducible refine o_set ?_ | (with_reducible apply o_be; with_reducible assumption))); done) | ((repeat (first | with_reducible exact ROWS.out.1 | (with_reducible refine ops_set ?_ ?_; focus (dsimp only; omega)) | (with_reducible apply ops_be; with_reducible assumption))); done) | ((repeat (first | with_reducible exact ROWS.out.2 | (with_reducible refine strs_set ?_ ?_; focus (dsimp only; omega)) | (with_reducible apply strs_be; with_reducible assumption))); done)
        case measure => simp [intOf]; omega
      · have hx3 : tx F s 3 = s := rfl
        rw [hx3] at hx
        clear hx3
        go_wp2_with (first | (go_at_call 22; (with_reducible refine (CL.out _ ?_).mono ?_); (focus (refine hG.behind ?_; repeat (first | with_reducible assumption | with_reducible exact Below.refl _ _ | with_reducible refine Below.drew ?_ | with_reducible refine below_drewN ?_ _ | with_reducible refine bw_alloc ?_ _ | (with_reducible refine bw_set ?_ ?_ _; focus (dsimp only; omega)) | (with_reducible apply bw_behind; with_reducible assumption)))); rintro e w7 ⟨rfl, hb7⟩; have hr7 := below_reads hb7; have hh7 := below_holds hb7; obtain ⟨m7, hs7⟩ := below_grew hb7))
        go_roundw
        case rel =>
          refine ⟨j + 1, by omega, by go_num, ?_⟩
          rw [vl_miss hjo (show (0 : Nat) ≠ 3 by decide), vl_miss hjo (show (1 : Nat) ≠ 3 by decide), vl_miss hjo (show (2 : Nat) ≠ 3 by decide), vl_hit hjo]
          refine ⟨?_, ⟨?_, ?_, ?_, ?_, ?_⟩, ?_, ?_, ?_, ?_, ?_, ?_⟩
          · repeat (first | with_reducible assumption | with_reducible exact Below.refl _ _ | with_reducible refine Below.drew ?_ | with_reducible refine below_drewN ?_ _ | with_reducible refine bw_alloc ?_ _ | (with_reducible refine bw_set ?_ ?_ _; focus (dsimp only; omega)) | (with_reducible apply bw_behind; with_reducible assumption))
          all_goals first | ((repeat (first | with_reducible assumption | (with_reducible refine c_hit ?_; (focus (simp [*]; done))) | with_reducible refine c_hit2 ?_ | (with_reducible refine c_off ?_ ?_; focus (decide)) | (with_reducible refine c_set ?_ ?_; focus (dsimp only; omega)) | (with_reducible apply c_be; with_reducible assumption))); done) | ((repeat (first | with_reducible exact OO.out.1 | with_reducible exact OO.out.2.1 | with_reducible exact OO.out.2.2 | with_reducible refine o_set ?_ | (with_reducible apply o_be; with_reducible assumption))); done) | ((repeat (first | with_reducible exact ROWS.out.1 | (with_reducible refine ops_set ?_ ?_; focus (dsimp only; omega)) | (with_reducible apply ops_be; with_reducible assumption))); done) | ((repeat (first | with_reducible exact ROWS.out.2 | (with_reducible refine strs_set ?_ ?_; focus (dsimp only; omega)) | (with_reducible apply strs_be; with_reducible assumption))); done)
        case measure => simp [intOf]; omega
    · obtain rfl : j = L.length := by omega
      clear hN hT CL C6
      obtain ⟨u0, p0⟩ := o4.val 0 (by omega)
      obtain ⟨u1, p1⟩ := o4.val 1 (by omega)
      obtain ⟨u2, p2⟩ := o4.val 2 (by omega)
      obtain ⟨u3, p3⟩ := o4.val 3 (by omega)
      obtain ⟨u4, p4⟩ := o4.val 4 (by omega)
      have g0 := o4.free 0 (by omega)
      have g1 := o4.free 1 (by omega)
      have g2 := o4.free 2 (by omega)
      have g3 := o4.free 3 (by omega)
      have g4 := o4.free 4 (by omega)
      generalize vl L F L.length 0 = z0 at *
      generalize vl L F L.length 1 = z1 at *
      generalize vl L F L.length 2 = z2 at *
      generalize vl L F L.length 3 = z3 at *
      go_wp2_with (first | (go_at_call 6; (first | ((with_reducible refine (C7.out _ ?_).mono ?_); (focus (refine hG.behind ?_; repeat (first | with_reducible assumption | with_reducible exact Below.refl _ _ | with_reducible refine Below.drew ?_ | with_reducible refine below_drewN ?_ _ | with_reducible refine bw_alloc ?_ _ | (with_reducible refine bw_set ?_ ?_ _; focus (dsimp only; omega)) | (with_reducible apply bw_behind; with_reducible assumption)))))); rintro e w8 ⟨rfl, hb8⟩; have hr8 := below_reads hb8; have hh8 := below_holds hb8; obtain ⟨m8, hs8⟩ := below_grew hb8))
      refine bodyPost_ret (v := .tuple #[.agg #[.int .i64 (k : Int), .int .i64 z0, .int .i64 z1, .int .i64 z2, .int .i64 z3], .bool true]) (by simp (maxDischargeDepth := 4) [results, Tryz.results21, go_sem, *]) rfl ?_
      refine ⟨rfl, ?_⟩
      repeat (first | with_reducible assumption | with_reducible exact Below.refl _ _ | with_reducible refine Below.drew ?_ | with_reducible refine below_drewN ?_ _ | with_reducible refine bw_alloc ?_ _ | (with_reducible refine bw_set ?_ ?_ _; focus (dsimp only; omega)) | (with_reducible apply bw_behind; with_reducible assumption))
end Go.Proofs.YtlommbeokbicjaaGreatDoor
