/-
  Texts laid one behind the other: AsmWrite, AsmText.
  What asm.write and asm.Text answer.
  What asm.Text answers.
-/
import Derived.Test.YtlommbeokbicjaaGreatDoorAsmNum
import Derived.Test.YtlommbeokbicjaaGreatDoorOwn
namespace Go.Proofs.YtlommbeokbicjaaGreatDoor
open Go.RowKit InstMath AsmMath
open Go.Lib (itoa)

theorem info_str : (Tryz.prog.info? 9).map (fun i => (i.zero, i.size, i.bytes)) = some (some (.string ByteArray.empty), 1, 16) := by kernel_rfl
def strV (l : List (List UInt8)) : List Value := l.map (fun t => Value.string (str t))
theorem strV_strs {W : World} {b : Nat} {l : List (List UInt8)} (h : ∀ j u, (strV l)[j]? = some u → W.cell? ⟨b, j, none⟩ = some u) : Strs W b l := fun j s hs => h j _ (by simp [strV, hs])
theorem strs_be {W W' : World} {b : Nat} {l : List (List UInt8)} (hb : Below W.heap.size W W') (h : Strs W b l) : Strs W' b l := fun j s hs => c_be hb (h j s hs)

set_option maxRecDepth 100000 in
set_option maxHeartbeats 4000000 in
theorem write_any (k : Nat) (h1 : 1 ≤ k) (h2 : k ≤ 69) (F : Nat → Int) (hF : ∀ o, rng (F o)) (s : List UInt8) (hs : LastOk s) (w : World) (hG : G w) :
    Calls Tryz.prog 19 #[.agg #[.int .i64 (k : Int), .int .i64 (F 0), .int .i64 (F 1), .int .i64 (F 2), .int .i64 (F 3)], .string (str s)] w (Makes (.string (str (wr k F s))) w) := by
  have hsh := shape_of h1 h2
  have CS : Hid (∀ W, G W → Calls Tryz.prog 15 #[.int .i64 (k : Int)] W (Makes (.int .u8 (shp k : Int)) W)) := hide (fun W _ => (shape_yes k ⟨h1, h2⟩ W).mono fun _ _ h => quiet_makes h)
  have CO : Hid (∀ W, Calls Tryz.prog 44 #[.int .u8 (shp k : Int)] W (OpsV (opL (shp k)) W)) := hide (operands_any _ hsh)
  have CR : Hid (∀ (o : Nat) W, G W → Calls Tryz.prog 45 #[.int .i64 (F o)] W (Makes (.string (str (99 :: itoa (F o)))) W)) := hide (fun o => registerName_any _ (hF o))
  have CN : Hid (∀ W, G W → Calls Tryz.prog 46 #[.int .i64 (k : Int)] W (Makes (.string (str (nameL k))) W)) := hide (fun W hG => (name_yes k ⟨h1, h2⟩ W hG.names).mono fun _ _ h => quiet_makes h)
  have hlen := txs_len h1 (by omega) hs hF (k := k)
  have hnl := name_long k (by omega) h1
  have hol := ops_len hsh
  have hop := hide (ops_lt hsh)
  have CJ : Hid (∀ (b c : Nat) W, Strs W b (txs k F s) → b < W.heap.size → (txs k F s).length ≤ c → G W → Calls Tryz.prog 47 #[.slice (some ⟨b, 0, none⟩) (txs k F s).length c, .string ⟨#[44, 32]⟩] W (Makes (.string (str (joinS [44, 32] (txs k F s)))) W)) := hide (fun b c W hS hb hc _ => join_any b c _ [44, 32] (by omega) (by unfold txs; simp; omega) hc W hS hb)
  have hadd1 : ∀ W, (Op.stringOp .add (str (nameL k)) ⟨#[32]⟩).run Tryz.prog W = .ok (.string (str (nameL k ++ [32]))) W := text_add (b := [32]) (by simp; omega)
  have hadd2 : ∀ W, (Op.stringOp .add (str (nameL k ++ [32])) (str (joinS [44, 32] (txs k F s)))).run Tryz.prog W = .ok (.string (str (nameL k ++ [32] ++ joinS [44, 32] (txs k F s)))) W := text_add (by simp; omega)
  have hR0 : opL (shp k) = [] → wr k F s = nameL k := fun h => by unfold wr; rw [if_pos h, List.append_nil]
  have hR1 : opL (shp k) ≠ [] → wr k F s = nameL k ++ [32] ++ joinS [44, 32] (txs k F s) := fun h => by unfold wr; rw [if_neg h]; simp
  have HR0 := hide hR0
  have HR1 := hide hR1
  have ht : txs k F s = (opL (shp k)).map (tx F s) := rfl
  generalize txs k F s = X at *
  generalize nameL k = NM at *
  generalize wr k F s = R at *
  generalize opL (shp k) = L at *
  subst ht
  have hsL : s.length ≤ 64 := hs.len
  clear hsh hF hs h1 h2 hR0 hR1 hnl
  obtain ⟨i0, hi, hz0, hz1, hz2⟩ := info_parts info_str
  generalize q0 : F 0 = x0 at *
  generalize q1 : F 1 = x1 at *
  generalize q2 : F 2 = x2 at *
  generalize q3 : F 3 = x3 at *
  have Q := hide (And.intro q0 (And.intro q1 (And.intro q2 q3)))
  clear q0 q1 q2 q3
  have SS := cell_same
  have LB' := ltB_add
  have LS := ltB_self
  have LA' := alloc_reads
  have LH := alloc_holds
  go_enter Tryz.func19, Tryz.ntmps19
  go_wp2_with (first | (go_at_call 15; (first | ((with_reducible refine (CS.out _ ?_).mono ?_); (focus (refine hG.behind ?_; repeat (first | with_reducible assumption | with_reducible exact Below.refl _ _ | with_reducible refine Below.drew ?_ | with_reducible refine below_drewN ?_ _ | with_reducible refine bw_alloc ?_ _ | (with_reducible refine bw_set ?_ ?_ _; focus (dsimp only; omega)) | (with_reducible apply bw_behind; with_reducible assumption)))))); rintro e w1 ⟨rfl, hb1⟩; have hr1 := below_reads hb1; have hh1 := below_holds hb1; obtain ⟨m1, hs1⟩ := below_grew hb1) | (go_at_call 44; (with_reducible refine (CO.out _).mono ?_); rintro e w2 (⟨hL, rfl, rfl⟩ | ⟨hL, rfl, rfl⟩)))
  case _ =>
    have e0 := HR0.out hL
    subst e0
    refine wp_loop_rounds 1 ?_
    rw [rounds_succ]
    go_wp2_with (first | (go_at_call 46; (first | ((with_reducible refine (CN.out _ ?_).mono ?_); (focus (refine hG.behind ?_; repeat (first | with_reducible assumption | with_reducible exact Below.refl _ _ | with_reducible refine Below.drew ?_ | with_reducible refine below_drewN ?_ _ | with_reducible refine bw_alloc ?_ _ | (with_reducible refine bw_set ?_ ?_ _; focus (dsimp only; omega)) | (with_reducible apply bw_behind; with_reducible assumption)))))); rintro e w3 ⟨rfl, hb3⟩; have hr3 := below_reads hb3; have hh3 := below_holds hb3; obtain ⟨m3, hs3⟩ := below_grew hb3))
    refine bodyPost_ret (v := .string (str R)) (by simp (maxDischargeDepth := 4) [results, Tryz.results19, go_sem, *]) rfl ?_
    refine ⟨rfl, ?_⟩
    repeat (first | with_reducible assumption | with_reducible exact Below.refl _ _ | with_reducible refine Below.drew ?_ | with_reducible refine below_drewN ?_ _ | with_reducible refine bw_alloc ?_ _ | (with_reducible refine bw_set ?_ ?_ _; focus (dsimp only; omega)) | (with_reducible apply bw_behind; with_reducible assumption))
  case _ =>
    refine wp_abs (fun W => Below w.heap.size w W ∧ (∀ (j o : Nat), L[j]? = some o → W.cell? ⟨w.heap.size + 1 + m1, j, none⟩ = some (.int .i64 (o : Int))) ∧ W.cell? ⟨w.heap.size, 0, none⟩ = some (.int .i64 (k : Int)) ∧ W.cell? ⟨w.heap.size, 1, none⟩ = some (.int .i64 x0) ∧ W.cell? ⟨w.heap.size, 2, none⟩ = some (.int .i64 x1) ∧ W.cell? ⟨w.heap.size, 3, none⟩ = some (.int .i64 x2) ∧ W.cell? ⟨w.heap.size, 4, none⟩ = some (.int .i64 x3)) ?_ ?_
    · refine ⟨?_, fun j o hj => ?_, ?_, ?_, ?_, ?_, ?_⟩
      · repeat (first | with_reducible assumption | with_reducible exact Below.refl _ _ | with_reducible refine Below.drew ?_ | with_reducible refine below_drewN ?_ _ | with_reducible refine bw_alloc ?_ _ | (with_reducible refine bw_set ?_ ?_ _; focus (dsimp only; omega)) | (with_reducible apply bw_behind; with_reducible assumption))
      · simp [go_sem, *]
      all_goals (first | with_reducible assumption | ((repeat (first | with_reducible assumption | with_reducible refine c_dr _ ?_ | with_reducible refine c_d1 ?_ | with_reducible refine c_al _ ?_ | (with_reducible refine c_set ?_ ?_; focus (dsimp only; omega)) | (with_reducible apply c_be; with_reducible assumption))); done) | ((repeat (first | with_reducible assumption | with_reducible refine o_dr _ ?_ | with_reducible refine o_d1 ?_ | with_reducible refine o_set ?_ | (with_reducible refine o_new ?_ ?_; (focus (simp)); (focus (simp))) | with_reducible refine o_al _ ?_ | (with_reducible apply o_be; with_reducible assumption))); done) | ((repeat (first | with_reducible assumption | with_reducible exact Below.refl _ _ | with_reducible refine Below.drew ?_ | with_reducible refine below_drewN ?_ _ | with_reducible refine bw_alloc ?_ _ | (with_reducible refine bw_set ?_ ?_ _; focus (dsimp only; omega)) | (with_reducible apply bw_behind; with_reducible assumption))); done) | (simp [go_sem, *]; omega) | (simp (maxDischargeDepth := 4) [go_sem, *]; done))
    rintro w0 ⟨hB0, hN, c0, c1, c2, c3, c4⟩
    generalize w.heap.size + 1 + m1 = N at *
    generalize w.heap.size = b0 at c0 c1 c2 c3 c4 ⊢
    clear hb1 hr1 hh1 hs1
    have HN := hide hN
    clear hN
    go_loopw [5, 14] (fun v i wr => ∃ (j : Nat), j ≤ L.length ∧ i = .int .i64 (j : Int) ∧ Hid (wr.ownsRow w0.heap.size 9 1 v j (strV ((L.take j).map (tx F s)))) ∧ Below w0.heap.size w0 wr) (fun _ i _ => L.length - (intOf i).toNat)
    case atStart => exact ⟨0, by omega, rfl, hide (World.ownsRow_nil _ _ _ _), Below.refl _ _⟩
    case round v =>
      obtain ⟨j, hj, rfl, hown, hB⟩ := hrel
      have hsz := hB.size
      by_cases hlt : j < L.length
      · obtain ⟨o, ho⟩ : ∃ o, L[j] = o := ⟨_, rfl⟩
        have ho4 := hop.out o (ho ▸ List.getElem_mem hlt)
        have hc := c_be hB (HN.out j o (by rw [List.getElem?_eq_getElem hlt, ho]))
        have d1 := c_be hB c1
        have d2 := c_be hB c2
        have d3 := c_be hB c3
        have d4 := c_be hB c4
        have HH := hide (show strV ((L.take (j + 1)).map (tx F s)) = strV ((L.take j).map (tx F s)) ++ [.string (str (tx F s o))] by rw [List.take_succ_eq_append_getElem hlt, ho]; simp [strV])
        generalize strV ((L.take j).map (tx F s)) = X1 at *
        obtain rfl | rfl | rfl | rfl : o = 0 ∨ o = 1 ∨ o = 2 ∨ o = 3 := by omega
        · skip
          have CRo : Hid (∀ W, G W → Calls Tryz.prog 45 #[.int .i64 x0] W (Makes (.string (str (99 :: itoa x0))) W)) := hide (fun W h => by have := CR.out 0 W h; rw [Q.out.1] at this; exact this)
          have hx : tx F s 0 = 99 :: itoa x0 := by unfold tx; rw [if_neg (by decide), Q.out.1]
          rw [hx] at HH
          have HX := hide hx
          clear hx
          go_wp2_with (first | (go_at_call 45; (first | ((with_reducible refine (CRo.out _ ?_).mono ?_); (focus (refine hG.behind ?_; repeat (first | with_reducible assumption | with_reducible exact Below.refl _ _ | with_reducible refine Below.drew ?_ | with_reducible refine below_drewN ?_ _ | with_reducible refine bw_alloc ?_ _ | (with_reducible refine bw_set ?_ ?_ _; focus (dsimp only; omega)) | (with_reducible apply bw_behind; with_reducible assumption)))))); rintro e w5 ⟨rfl, hb5⟩; have hr5 := below_reads hb5; have hh5 := below_holds hb5; obtain ⟨m5, hs5⟩ := below_grew hb5) | (at_builtin; refine wpList_append_own _ rfl _ _ 41 rfl w0.heap.size 9 i0 (.string ByteArray.empty) 1 16 Tryz.underlying41 hi hz0 hz1 hz2 rfl (by decide) _ _ _ rfl (owns_al _ (owns_be hb5 hown.out)) _ 1 1 [.string (str (99 :: itoa _))] rfl rfl (cell_one _ _ _ (by simp [*])) (fun x hx => by simp at hx; subst hx; rfl) (by unfold maxLen; omega) (by omega) (by simp; omega) ?_; intro v' w3 hown' hgrow3 hnil3))
          go_roundw
          case rel => exact ⟨j + 1, by omega, by go_num, hide (by rw [HH.out]; exact hown'), (bw_alloc (bw_behind hb5 hB) _).grown hgrow3 (by simp; omega) (row_base hown.out)⟩
          case measure => simp [intOf]; omega
        · skip
          have CRo : Hid (∀ W, G W → Calls Tryz.prog 45 #[.int .i64 x1] W (Makes (.string (str (99 :: itoa x1))) W)) := hide (fun W h => by have := CR.out 1 W h; rw [Q.out.2.1] at this; exact this)
          have hx : tx F s 1 = 99 :: itoa x1 := by unfold tx; rw [if_neg (by decide), Q.out.2.1]
          rw [hx] at HH
          have HX := hide hx
          clear hx
          go_wp2_with (first | (go_at_call 45; (first | ((with_reducible refine (CRo.out _ ?_).mono ?_); (focus (refine hG.behind ?_; repeat (first | with_reducible assumption | with_reducible exact Below.refl _ _ | with_reducible refine Below.drew ?_ | with_reducible refine below_drewN ?_ _ | with_reducible refine bw_alloc ?_ _ | (with_reducible refine bw_set ?_ ?_ _; focus (dsimp only; omega)) | (with_reducible apply bw_behind; with_reducible assumption)))))); rintro e w5 ⟨rfl, hb5⟩; have hr5 := below_reads hb5; have hh5 := below_holds hb5; obtain ⟨m5, hs5⟩ := below_grew hb5) | (at_builtin; refine wpList_append_own _ rfl _ _ 41 rfl w0.heap.size 9 i0 (.string ByteArray.empty) 1 16 Tryz.underlying41 hi hz0 hz1 hz2 rfl (by decide) _ _ _ rfl (owns_al _ (owns_be hb5 hown.out)) _ 1 1 [.string (str (99 :: itoa _))] rfl rfl (cell_one _ _ _ (by simp [*])) (fun x hx => by simp at hx; subst hx; rfl) (by unfold maxLen; omega) (by omega) (by simp; omega) ?_; intro v' w3 hown' hgrow3 hnil3))
          go_roundw
          case rel => exact ⟨j + 1, by omega, by go_num, hide (by rw [HH.out]; exact hown'), (bw_alloc (bw_behind hb5 hB) _).grown hgrow3 (by simp; omega) (row_base hown.out)⟩
          case measure => simp [intOf]; omega
        · skip
          have CRo : Hid (∀ W, G W → Calls Tryz.prog 45 #[.int .i64 x2] W (Makes (.string (str (99 :: itoa x2))) W)) := hide (fun W h => by have := CR.out 2 W h; rw [Q.out.2.2.1] at this; exact this)
          have hx : tx F s 2 = 99 :: itoa x2 := by unfold tx; rw [if_neg (by decide), Q.out.2.2.1]
          rw [hx] at HH
          have HX := hide hx
          clear hx
          go_wp2_with (first | (go_at_call 45; (first | ((with_reducible refine (CRo.out _ ?_).mono ?_); (focus (refine hG.behind ?_; repeat (first | with_reducible assumption | with_reducible exact Below.refl _ _ | with_reducible refine Below.drew ?_ | with_reducible refine below_drewN ?_ _ | with_reducible refine bw_alloc ?_ _ | (with_reducible refine bw_set ?_ ?_ _; focus (dsimp only; omega)) | (with_reducible apply bw_behind; with_reducible assumption)))))); rintro e w5 ⟨rfl, hb5⟩; have hr5 := below_reads hb5; have hh5 := below_holds hb5; obtain ⟨m5, hs5⟩ := below_grew hb5) | (at_builtin; refine wpList_append_own _ rfl _ _ 41 rfl w0.heap.size 9 i0 (.string ByteArray.empty) 1 16 Tryz.underlying41 hi hz0 hz1 hz2 rfl (by decide) _ _ _ rfl (owns_al _ (owns_be hb5 hown.out)) _ 1 1 [.string (str (99 :: itoa _))] rfl rfl (cell_one _ _ _ (by simp [*])) (fun x hx => by simp at hx; subst hx; rfl) (by unfold maxLen; omega) (by omega) (by simp; omega) ?_; intro v' w3 hown' hgrow3 hnil3))
          go_roundw
          case rel => exact ⟨j + 1, by omega, by go_num, hide (by rw [HH.out]; exact hown'), (bw_alloc (bw_behind hb5 hB) _).grown hgrow3 (by simp; omega) (row_base hown.out)⟩
          case measure => simp [intOf]; omega
        · skip
          have hx : tx F s 3 = s := rfl
          rw [hx] at HH
          have HX := hide hx
          clear hx
          go_wp2_with (first | (at_builtin; refine wpList_append_own _ rfl _ _ 41 rfl w0.heap.size 9 i0 (.string ByteArray.empty) 1 16 Tryz.underlying41 hi hz0 hz1 hz2 rfl (by decide) _ _ _ rfl (owns_al _ hown.out) _ 1 1 [.string (str s)] rfl rfl (cell_one _ _ _ rfl) (fun x hx => by simp at hx; subst hx; rfl) (by unfold maxLen; omega) (by omega) (by simp; omega) ?_; intro v' w3 hown' hgrow3 hnil3))
          go_roundw
          case rel => exact ⟨j + 1, by omega, by go_num, hide (by rw [HH.out]; exact hown'), (bw_alloc hB _).grown hgrow3 (by simp; omega) (row_base hown.out)⟩
          case measure => simp [intOf]; omega
      · obtain rfl : j = L.length := by omega
        have hn0 : L.length ≠ 0 := fun e => hL (List.length_eq_zero_iff.1 e)
        obtain ⟨g, cap, rfl, hcap, hg0, hg1, hcells⟩ := owns_cell hown.out hn0
        have d0 := c_be hB c0
        rw [List.take_length] at hcells
        have CJ2 : Hid (∀ W, Below wr.heap.size wr W → G W → Calls Tryz.prog 47 #[.slice (some ⟨g, 0, none⟩) L.length cap, .string ⟨#[44, 32]⟩] W (Makes (.string (str (joinS [44, 32] (L.map (tx F s))))) W)) := hide (fun W hb hGW => by
          have := CJ.out g cap W (strs_be hb (strV_strs hcells)) (by have := hb.size; omega) (by simpa using hcap) hGW
          rw [List.length_map] at this
          exact this)
        have e0 := HR1.out hL
        subst e0
        have hn1 : ((L.length : Int) == 0) = false := by simp; omega
        have hn2 : ¬ L = [] := hL
        clear hown hcells
        generalize joinS [44, 32] (L.map (tx F s)) = JJ at *
        go_wp2_with (first | (go_at_call 46; (first | ((with_reducible refine (CN.out _ ?_).mono ?_); (focus (refine hG.behind ?_; repeat (first | with_reducible assumption | with_reducible exact Below.refl _ _ | with_reducible refine Below.drew ?_ | with_reducible refine below_drewN ?_ _ | with_reducible refine bw_alloc ?_ _ | (with_reducible refine bw_set ?_ ?_ _; focus (dsimp only; omega)) | (with_reducible apply bw_behind; with_reducible assumption)))))); rintro e w5 ⟨rfl, hb5⟩; have hr5 := below_reads hb5; have hh5 := below_holds hb5; obtain ⟨m5, hs5⟩ := below_grew hb5) | (go_at_call 47; (with_reducible refine (CJ2.out _ ?_ ?_).mono ?_); (repeat (first | with_reducible assumption | with_reducible exact Below.refl _ _ | with_reducible refine Below.drew ?_ | with_reducible refine below_drewN ?_ _ | with_reducible refine bw_alloc ?_ _ | (with_reducible refine bw_set ?_ ?_ _; focus (dsimp only; omega)) | (with_reducible apply bw_behind; with_reducible assumption))); (focus (refine hG.behind ?_; repeat (first | with_reducible assumption | with_reducible exact Below.refl _ _ | with_reducible refine Below.drew ?_ | with_reducible refine below_drewN ?_ _ | with_reducible refine bw_alloc ?_ _ | (with_reducible refine bw_set ?_ ?_ _; focus (dsimp only; omega)) | (with_reducible apply bw_behind; with_reducible assumption)))); rintro e w6 ⟨rfl, hb6⟩; have hr6 := below_reads hb6; have hh6 := below_holds hb6; obtain ⟨m6, hs6⟩ := below_grew hb6))
        refine bodyPost_ret (v := .string (str (NM ++ [32] ++ JJ))) (by simp (maxDischargeDepth := 4) [results, Tryz.results19, go_sem, *]) rfl ?_
        refine ⟨rfl, ?_⟩
        repeat (first | with_reducible assumption | with_reducible exact Below.refl _ _ | with_reducible refine Below.drew ?_ | with_reducible refine below_drewN ?_ _ | with_reducible refine bw_alloc ?_ _ | (with_reducible refine bw_set ?_ ?_ _; focus (dsimp only; omega)) | (with_reducible apply bw_behind; with_reducible assumption))
end Go.Proofs.YtlommbeokbicjaaGreatDoor

namespace Go.Proofs.YtlommbeokbicjaaGreatDoor
open Go.RowKit InstMath AsmMath
open Go.Lib (itoa)

theorem behind_callG {f : FuncId} {args : Array Value} {v : Value} {w0 : World} (c : ∀ W, G W → Calls Tryz.prog f args W (Makes v W)) (hT : G w0) (y : Behind w0.heap.size w0) :
    Calls Tryz.prog f args y.world fun e w'' => e = .returned v ∧ ∃ z : Behind w0.heap.size w0, w'' = z.world :=
  (c _ (hT.behind y.below)).mono fun _ _ ⟨he, hb⟩ => ⟨he, ⟨_, y.below.trans (hb.mono y.below.size)⟩, rfl⟩
theorem four_is {F : Nat → Int} {x0 x1 x2 x3 : Int} (q : F = four x0 x1 x2 x3) : F 0 = x0 ∧ F 1 = x1 ∧ F 2 = x2 ∧ F 3 = x3 := by subst q; exact ⟨rfl, rfl, rfl, rfl⟩
theorem four_rng {x0 x1 x2 x3 : Int} (r0 : rng x0) (r1 : rng x1) (r2 : rng x2) (r3 : rng x3) (o : Nat) : rng (four x0 x1 x2 x3 o) := by unfold four; split <;> assumption
theorem shut_str (l : List UInt8) : str l = ⟨l.toArray⟩ := rfl

set_option maxRecDepth 100000 in
set_option maxHeartbeats 4000000 in
theorem text_yes (k : Nat) (h1 : 1 ≤ k) (h2 : k ≤ 69) (x0 x1 x2 x3 : Int) (r0 : rng x0) (r1 : rng x1) (r2 : rng x2) (r3 : rng x3) (y : BitVec 64) (he : encK k (four x0 x1 x2 x3) = some y) (w : World) (hG : G w) : Calls Tryz.prog 7 #[.agg #[.int .i64 (k : Int), .int .i64 x0, .int .i64 x1, .int .i64 x2, .int .i64 x3]] w (Makes (.string (str (wr k (four x0 x1 x2 x3) (itoa x3)))) w) := by
  have C1 : Hid (∀ W, G W → Calls Tryz.prog 6 #[.agg #[.int .i64 (k : Int), .int .i64 x0, .int .i64 x1, .int .i64 x2, .int .i64 x3]] W (Makes (.tuple #[.int .u32 (y.toNat : Int), .bool true]) W)) := hide (fun W hG => by have := enc_yes k h1 h2 x0 x1 x2 x3 r0 r1 r2 r3 W hG.words; rw [he] at this; exact this)
  have C2 : Hid (∀ W, G W → Calls Tryz.prog 20 #[.int .i64 x3] W (Makes (.string (str (itoa x3))) W)) := hide (decimal_any x3 r3)
  have C3 : Hid (∀ W, G W → Calls Tryz.prog 19 #[.agg #[.int .i64 (k : Int), .int .i64 x0, .int .i64 x1, .int .i64 x2, .int .i64 x3], .string (str (itoa x3))] W (Makes (.string (str (wr k (four x0 x1 x2 x3) (itoa x3)))) W)) := hide (fun W hG => write_any k h1 h2 (four x0 x1 x2 x3) (four_rng r0 r1 r2 r3) (itoa x3) (last_itoa r3) W hG)
  generalize str (wr k (four x0 x1 x2 x3) (itoa x3)) = S1 at *
  generalize str (itoa x3) = S2 at *
  clear h1 h2 r0 r1 r2 r3 he
  have SS := cell_same
  have LB' := ltB_add
  have LS := ltB_self
  have LA' := alloc_reads
  have LH := alloc_holds
  go_enter Tryz.func7, Tryz.ntmps7
  go_upto_region 4 with (first | (go_at_call 6; (first | ((with_reducible refine (C1.out _ ?_).mono ?_); (focus (refine hG.behind ?_; repeat (first | with_reducible assumption | with_reducible exact Below.refl _ _ | with_reducible refine Below.drew ?_ | with_reducible refine below_drewN ?_ _ | with_reducible refine bw_alloc ?_ _ | (with_reducible refine bw_set ?_ ?_ _; focus (dsimp only; omega)) | (with_reducible apply bw_behind; with_reducible assumption)))))); rintro e w1 ⟨rfl, hb1⟩; have hr1 := below_reads hb1; have hh1 := below_holds hb1; obtain ⟨m1, hs1⟩ := below_grew hb1))

  refine wp_abs (fun W => G W ∧ Below w.heap.size w W ∧ W.cell? ⟨w.heap.size, 0, none⟩ = some (.int .i64 (k : Int)) ∧ W.cell? ⟨w.heap.size, 1, none⟩ = some (.int .i64 x0) ∧ W.cell? ⟨w.heap.size, 2, none⟩ = some (.int .i64 x1) ∧ W.cell? ⟨w.heap.size, 3, none⟩ = some (.int .i64 x2) ∧ W.cell? ⟨w.heap.size, 4, none⟩ = some (.int .i64 x3)) ?_ ?_
  · refine ⟨?_, ?_, ?_, ?_, ?_, ?_, ?_⟩
    all_goals (first | with_reducible assumption | ((repeat (first | with_reducible assumption | with_reducible refine c_dr _ ?_ | with_reducible refine c_d1 ?_ | with_reducible refine c_al _ ?_ | (with_reducible refine c_set ?_ ?_; focus (dsimp only; omega)) | (with_reducible apply c_be; with_reducible assumption))); done) | ((repeat (first | with_reducible assumption | with_reducible refine o_dr _ ?_ | with_reducible refine o_d1 ?_ | with_reducible refine o_set ?_ | (with_reducible refine o_new ?_ ?_; (focus (simp)); (focus (simp))) | with_reducible refine o_al _ ?_ | (with_reducible apply o_be; with_reducible assumption))); done) | ((repeat (first | with_reducible assumption | with_reducible exact Below.refl _ _ | with_reducible refine Below.drew ?_ | with_reducible refine below_drewN ?_ _ | with_reducible refine bw_alloc ?_ _ | (with_reducible refine bw_set ?_ ?_ _; focus (dsimp only; omega)) | (with_reducible apply bw_behind; with_reducible assumption))); done) | (refine hG.behind ?_; (repeat (first | with_reducible assumption | with_reducible exact Below.refl _ _ | with_reducible refine Below.drew ?_ | with_reducible refine below_drewN ?_ _ | with_reducible refine bw_alloc ?_ _ | (with_reducible refine bw_set ?_ ?_ _; focus (dsimp only; omega)) | (with_reducible apply bw_behind; with_reducible assumption))); done) | (simp [go_sem, *]; omega) | (simp (maxDischargeDepth := 4) [go_sem, *]; done))
  rintro w0 ⟨hT0, hB0, c0, c1, c2, c3, c4⟩
  have y0 := behind_cell0 c0
  have y1 := behind_cell0 c1
  have y2 := behind_cell0 c2
  have y3 := behind_cell0 c3
  have y4 := behind_cell0 c4
  have hsome := Behind.any w0
  clear c0 c1 c2 c3 c4
  refine wp_region_behind w0 (by kernel_rfl) (by kernel_rfl) (Below.refl _ _) ?_
  repeat (go_big_quiet_step (first | (go_at_call 20; with_reducible first | exact behind_callG C2.out hT0 _) | (go_at_call 19; with_reducible first | exact behind_callG C3.out hT0 _)))
  refine wpQuiet_nil ?_
  rintro _ ⟨y, rfl⟩
  have hTy := hT0.behind y.below
  have hBy := bw_behind y.below hB0
  have x0 := y0 y
  have x1 := y1 y
  have x2 := y2 y
  have x3 := y3 y
  have x4 := y4 y
  clear hsome y0 y1 y2 y3 y4
  obtain ⟨w1, hw1⟩ : ∃ W, W = y.world := ⟨_, rfl⟩
  rw [← hw1] at hTy hBy x0 x1 x2 x3 x4 ⊢
  clear hw1 y hT0 hB0
  go_wp2
  refine bodyPost_ret (v := .string S1) (by simp (maxDischargeDepth := 4) [results, Tryz.results7, go_sem, *]) rfl ?_
  refine ⟨rfl, ?_⟩
  repeat (first | with_reducible assumption | with_reducible exact Below.refl _ _ | with_reducible refine Below.drew ?_ | with_reducible refine below_drewN ?_ _ | with_reducible refine bw_alloc ?_ _ | (with_reducible refine bw_set ?_ ?_ _; focus (dsimp only; omega)) | (with_reducible apply bw_behind; with_reducible assumption))

set_option maxRecDepth 100000 in
set_option maxHeartbeats 2000000 in
theorem text_none (K x0 x1 x2 x3 : Int) (hE : ∀ W, G W → Calls Tryz.prog 6 #[.agg #[.int .i64 K, .int .i64 x0, .int .i64 x1, .int .i64 x2, .int .i64 x3]] W (Makes (.tuple #[.int .u32 0, .bool false]) W)) (w : World) (hG : G w) : Calls Tryz.prog 7 #[.agg #[.int .i64 K, .int .i64 x0, .int .i64 x1, .int .i64 x2, .int .i64 x3]] w (Makes (.string ⟨#[]⟩) w) := by
  have C1 := hide hE
  clear hE
  have SS := cell_same
  have LB' := ltB_add
  have LS := ltB_self
  have LA' := alloc_reads
  have LH := alloc_holds
  go_enter Tryz.func7, Tryz.ntmps7
  go_wp2_with (first | (go_at_call 6; (first | ((with_reducible refine (C1.out _ ?_).mono ?_); (focus (refine hG.behind ?_; repeat (first | with_reducible assumption | with_reducible exact Below.refl _ _ | with_reducible refine Below.drew ?_ | with_reducible refine below_drewN ?_ _ | with_reducible refine bw_alloc ?_ _ | (with_reducible refine bw_set ?_ ?_ _; focus (dsimp only; omega)) | (with_reducible apply bw_behind; with_reducible assumption)))))); rintro e w1 ⟨rfl, hb1⟩; have hr1 := below_reads hb1; have hh1 := below_holds hb1; obtain ⟨m1, hs1⟩ := below_grew hb1))
  refine bodyPost_ret (v := .string ⟨#[]⟩) (by simp (maxDischargeDepth := 4) [results, Tryz.results7, go_sem, *]) rfl ?_
  refine ⟨rfl, ?_⟩
  repeat (first | with_reducible assumption | with_reducible exact Below.refl _ _ | with_reducible refine Below.drew ?_ | with_reducible refine below_drewN ?_ _ | with_reducible refine bw_alloc ?_ _ | (with_reducible refine bw_set ?_ ?_ _; focus (dsimp only; omega)) | (with_reducible apply bw_behind; with_reducible assumption))
end Go.Proofs.YtlommbeokbicjaaGreatDoor
