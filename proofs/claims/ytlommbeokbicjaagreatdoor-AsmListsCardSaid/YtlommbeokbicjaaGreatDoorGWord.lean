/-
  Texts laid one behind the other: AsmMap, AsmWord, AsmWord2, AsmEnc.
  A map from texts to places (how many instructions are ahead, how many marks have the name), as a function; what a look-up and a store do.
  What asm.branches, (*program).add, word's closure and (*program).word answer.
  What asm.Parse and (*program).word answer to the text of an instruction.
  What is so of an instruction that has a word: its operands fit; the others count for nothing. No program text here but the tables' lists.
-/
import Derived.Test.YtlommbeokbicjaaGreatDoorAsmRead
import Derived.Maps.OwnSet
import Derived.StringKeys
import Derived.Test.YtlommbeokbicjaaGreatDoorAsmReadW
import Derived.Test.YtlommbeokbicjaaGreatDoorTail
import Derived.Test.YtlommbeokbicjaaGreatDoorAsmReadP
namespace Go.Proofs.YtlommbeokbicjaaGreatDoor
open Go.RowKit InstMath AsmMath
open Go.Maps Go.WideMaps

abbrev ED := DataW Unit
/-- How a place reads. -/
def plElem : Value → Option (ED × List MemPlace)
  | .agg ⟨[.int .i64 a, .int .i64 t]⟩ => some (.agg [.lit (.int .i64 a), .lit (.int .i64 t)], [])
  | _ => none
def plV (x : Int × Int) : Value := .agg #[.int .i64 x.1, .int .i64 x.2]
def plD (x : Int × Int) : ED := .agg [.lit (.int .i64 x.1), .lit (.int .i64 x.2)]
theorem plElem_mk (x : Int × Int) : plElem (plV x) = some (plD x, []) := rfl
theorem plElem_inv {v : Value} {x : Int × Int} {ps : List MemPlace} (h : plElem v = some (plD x, ps)) : v = plV x := by
  unfold plElem at h
  split at h
  · simp [plD] at h
    obtain ⟨⟨h1, h2⟩, _⟩ := h
    subst h1 h2
    rfl
  · cases h
theorem zero_place (W : World) : (zeroValue 116).run Tryz.prog W = .ok (plV (0, 0)) W := by kernel_rfl
theorem key_str : Keyed Tryz.prog 9 := string_keyed Tryz.underlying9
def KS (s : List UInt8) : Lit := .string s
theorem key_mk {s : List UInt8} (h : s.length ≤ 1000000) : keyOf Tryz.prog 9 (.string (str s)) = some (KS s) := by
  rw [keyOf_string_mk Tryz.underlying9 (by rw [str_size]; unfold maxLen; omega), str_data]
  rfl
theorem KS_inj {s t : List UInt8} (h : KS s = KS t) : s = t := by unfold KS at h; injection h
/-- Block b is a map from texts to places, of at most k entries. -/
def MapS (W : World) (b k : Nat) (h : List UInt8 → Option (Int × Int)) : Prop :=
  ∃ D : ED, W.ownsMap Tryz.prog 9 plElem b k D ∧ ∀ s, Maps.has D (KS s) = (h s).isSome ∧ D.atKey (KS s) (plD (0, 0)) = plD ((h s).getD (0, 0))
def updS (h : List UInt8 → Option (Int × Int)) (s : List UInt8) (x : Int × Int) : List UInt8 → Option (Int × Int) := fun t => if t = s then some x else h t
theorem ms_block {W W' : World} {b k : Nat} {h : List UInt8 → Option (Int × Int)} (hb : W'.heap[b]? = W.heap[b]?) (H : MapS W b k h) : MapS W' b k h := by
  obtain ⟨D, ⟨es, cl, h1, h2⟩, h3⟩ := H
  exact ⟨D, ⟨es, cl, hb.trans h1, h2⟩, h3⟩
theorem MapS.lt {W : World} {b k : Nat} {h : List UInt8 → Option (Int × Int)} (H : MapS W b k h) : b < W.heap.size := by
  obtain ⟨D, h1, _⟩ := H
  exact h1.lt
theorem ms_be {b k : Nat} {W W' : World} {h : List UInt8 → Option (Int × Int)} (hb : Below W.heap.size W W') (H : MapS W b k h) : MapS W' b k h := ms_block (hb.block b H.lt) H
theorem ms_al {b k : Nat} {W : World} {h : List UInt8 → Option (Int × Int)} (ob : Obj) (H : MapS W b k h) : MapS (W.alloc ob) b k h := ms_be (below_alloc (Below.refl _ _) (Nat.le_refl _) ob) H
theorem ms_dr {b k : Nat} {W : World} {h : List UInt8 → Option (Int × Int)} (n : Nat) (H : MapS W b k h) : MapS (W.drewN n) b k h := H
theorem ms_d1 {b k : Nat} {W : World} {h : List UInt8 → Option (Int × Int)} (H : MapS W b k h) : MapS W.drew b k h := H
theorem ms_ob {N b k : Nat} {W W' : World} {h : List UInt8 → Option (Int × Int)} (ho : OutB N W W') (hne : b ≠ N) (H : MapS W b k h) : MapS W' b k h := ms_block (ho.block b H.lt hne) H
theorem ms_set {b k : Nat} {W : World} {h : List UInt8 → Option (Int × Int)} {p : Addr} {u : Value} (hne : p.block ≠ b) (H : MapS W b k h) : MapS (W.setCell p u) b k h := ms_block (Below.heap_setCell _ _ _ _ (Ne.symm hne)) H
theorem ms_made (w : World) : MapS (w.alloc (.map #[] 0)) w.heap.size 0 (fun _ => none) := ⟨.map [], World.ownsMap_made _ _ _ _, fun _ => ⟨rfl, rfl⟩⟩

section
variable {w : World} {ops : Array Oper} {rest : List Oper} {o : Oper} {a : Act} {Q : Exit → Act → World → Prop} {b k : Nat} {s : List UInt8}
theorem wpList_look_ms {h : List UInt8 → Option (Int × Int)} (hg : o.guard = none) (m x : Operand) (hop : o.op = Op.lookup 61 m x false) (hm : a.eval m = .map (some b)) (H : MapS w b k h) (hs : s.length ≤ 1000000) (hx : a.eval x = .string (str s))
    (hK : wpList Tryz.prog ops Q rest (a.put o.dst (plV ((h s).getD (0, 0)))) w) : wpList Tryz.prog ops Q (o :: rest) a w := by
  obtain ⟨D, h1, h2⟩ := H
  obtain ⟨e1, e2⟩ := h2 s
  obtain ⟨v, ps, hrun, hv⟩ := h1.lookup key_str Tryz.underlying61 (zero_place w) (plElem_mk (0, 0)) (key_mk hs)
  rw [e2] at hv
  obtain rfl := plElem_inv hv
  refine wpList_plain hg fun K' hK' => ?_
  unfold Oper.wp
  simp [execOp, hop, hm, hx, hrun, Result.andThen]
  exact hK' _ _ hK
theorem wpList_looko_ms {h : List UInt8 → Option (Int × Int)} (hg : o.guard = none) (m x : Operand) (hop : o.op = Op.lookup 61 m x true) (hm : a.eval m = .map (some b)) (H : MapS w b k h) (hs : s.length ≤ 1000000) (hx : a.eval x = .string (str s))
    (hK : wpList Tryz.prog ops Q rest (a.put o.dst (.tuple #[plV ((h s).getD (0, 0)), .bool (h s).isSome])) w) : wpList Tryz.prog ops Q (o :: rest) a w := by
  obtain ⟨D, h1, h2⟩ := H
  obtain ⟨e1, e2⟩ := h2 s
  refine wpList_lookup_own_ok w hg m x 61 hop 9 116 key_str Tryz.underlying61 plElem (zero_place w) (plD (0, 0)) [] (plElem_mk (0, 0)) b k D hm h1 _ _ hx (key_mk hs) ?_
  intro v ps hv
  rw [e2] at hv
  rw [plElem_inv hv, e1]
  exact hK
theorem wpList_store_ms {h : List UInt8 → Option (Int × Int)} (hg : o.guard = none) (m x v : Operand) (hop : o.op = Op.mapUpdate 61 m x v) (hm : a.eval m = .map (some b)) (H : MapS w b k h) (hk : k < 100000) (hs : s.length ≤ 1000000) (X : Int × Int) (hx : a.eval x = .string (str s)) (hv : a.eval v = plV X)
    (hK : ∀ w', MapS w' b (k + 1) (updS h s X) → OutB b w w' → wpList Tryz.prog ops Q rest (a.put o.dst undef) w') : wpList Tryz.prog ops Q (o :: rest) a w := by
  obtain ⟨D, h1, h2⟩ := H
  refine wpList_mapUpdate_own w hg m x v 61 hop 9 116 key_str Tryz.underlying61 plElem b k D hm h1 (by unfold maxLen; omega) _ _ (KS s) hx hv (key_mk hs) (plD X) [] (plElem_mk X) ?_
  intro w' r1 r2
  refine hK w' ⟨_, r1, fun t => ?_⟩ (outB_grown r2)
  have hkl : WideAt.IsKeyLit (KS s) := trivial
  unfold updS
  by_cases e : t = s
  · subst e
    rw [if_pos rfl]
    exact ⟨has_put_same h1.isMap hkl _, atKey_put_same h1.isMap hkl _ _⟩
  · rw [if_neg e]
    have hne : KS t ≠ KS s := fun x => e (KS_inj x)
    rw [has_put_other hne, atKey_put_other hne]
    exact h2 t
end
end Go.Proofs.YtlommbeokbicjaaGreatDoor

namespace Go.Proofs.YtlommbeokbicjaaGreatDoor
open Go.RowKit InstMath AsmMath
open Go.Lib (itoa)

open Go.Maps
def brB (s : Nat) : Bool := s == 66 || s == 74

set_option maxHeartbeats 400000 in
theorem branches_any (s : Nat) (w : World) : Calls Tryz.prog 62 #[.int .u8 (s : Int)] w (Quiet (.bool (brB s)) w) := by
  by_cases h1 : s = 66
  · subst h1
    go_enter Tryz.func62, Tryz.ntmps62
    go_wp2
    go_ret
    exact ⟨rfl, 0, rfl⟩
  · have n1 : ((s : Int) == 66) = false := by simp; omega
    have hR := hide (show brB s = (s == 74) by unfold brB; simp [h1])
    by_cases h2 : s = 74
    · subst h2
      go_enter Tryz.func62, Tryz.ntmps62
      go_wp2
      go_ret
      exact ⟨rfl, 0, rfl⟩
    · have n2 : ((s : Int) == 74) = false := by simp; omega
      have hR2 := hide (show brB s = false by rw [hR.out]; simpa using h2)
      clear h1 h2 hR
      go_enter Tryz.func62, Tryz.ntmps62
      go_wp2
      go_ret
      exact ⟨ret_bool (by rw [hR2.out]), 0, rfl⟩

set_option maxHeartbeats 4000000 in
/-- A mark that was not there before. -/
theorem add_new (P mb k n : Nat) (h : List UInt8 → Option (Int × Int)) (s : List UInt8) (hs : s.length ≤ 1000) (hk : k < 20000) (hnone : h s = none) (w : World)
    (c1 : w.cell? ⟨P, 1, none⟩ = some (.map (some mb))) (c2 : w.cell? ⟨P, 2, none⟩ = some (.int .i64 (n : Int))) (hm : MapS w mb k h) :
    Calls Tryz.prog 59 #[.pointer (some ⟨P, 0, none⟩), .string (str s)] w fun e w' => e = .returned (.bool false) ∧ MapS w' mb (k + 1) (updS h s ((n : Int), 1)) ∧ OutB mb w w' := by
  have hlt : ltB P w.heap.size = true := by unfold ltB; simpa using World.block_lt_of_cell? _ _ c1
  have hmlt := hm.lt
  have hv : plV ((h s).getD (0, 0)) = .agg #[.int .i64 0, .int .i64 0] := by rw [hnone]; rfl
  have SS := cell_same
  have LB' := ltB_add
  have LS := ltB_self
  have LA' := alloc_reads
  have LH := alloc_holds
  go_enter Tryz.func59, Tryz.ntmps59
  go_upto_region 2 with (first | (at_lookup; refine wpList_look_ms rfl _ _ rfl rfl hm (by omega) rfl ?_; rw [hv]))
  refine wp_abs (fun W => Below w.heap.size w W ∧ W.cell? ⟨P, 1, none⟩ = some (.map (some mb)) ∧ W.cell? ⟨P, 2, none⟩ = some (.int .i64 (n : Int)) ∧ W.cell? ⟨w.heap.size, 0, none⟩ = some (.int .i64 0) ∧ W.cell? ⟨w.heap.size, 1, none⟩ = some (.int .i64 0) ∧ MapS W mb k h) ?_ ?_
  · refine ⟨?_, ?_, ?_, ?_, ?_, ?_⟩
    · repeat (first | with_reducible assumption | with_reducible exact Below.refl _ _ | with_reducible refine Below.drew ?_ | with_reducible refine below_drewN ?_ _ | with_reducible refine bw_alloc ?_ _ | (with_reducible refine bw_set ?_ ?_ _; focus (dsimp only; omega)) | (with_reducible apply bw_behind; with_reducible assumption))
    · (first | with_reducible assumption | ((repeat (first | with_reducible assumption | with_reducible refine c_dr _ ?_ | with_reducible refine c_d1 ?_ | with_reducible refine c_al _ ?_ | (with_reducible refine c_set ?_ ?_; focus (dsimp only; omega)) | (with_reducible apply c_be; with_reducible assumption))); done) | ((repeat (first | with_reducible assumption | with_reducible refine o_dr _ ?_ | with_reducible refine o_d1 ?_ | with_reducible refine o_set ?_ | (with_reducible refine o_new ?_ ?_; (focus (simp)); (focus (simp))) | with_reducible refine o_al _ ?_ | (with_reducible apply o_be; with_reducible assumption))); done) | ((repeat (first | with_reducible assumption | with_reducible exact Below.refl _ _ | with_reducible refine Below.drew ?_ | with_reducible refine below_drewN ?_ _ | with_reducible refine bw_alloc ?_ _ | (with_reducible refine bw_set ?_ ?_ _; focus (dsimp only; omega)) | (with_reducible apply bw_behind; with_reducible assumption))); done) | (simp [go_sem, *]; omega) | (simp (maxDischargeDepth := 4) [go_sem, *]; done))
    · (first | with_reducible assumption | ((repeat (first | with_reducible assumption | with_reducible refine c_dr _ ?_ | with_reducible refine c_d1 ?_ | with_reducible refine c_al _ ?_ | (with_reducible refine c_set ?_ ?_; focus (dsimp only; omega)) | (with_reducible apply c_be; with_reducible assumption))); done) | ((repeat (first | with_reducible assumption | with_reducible refine o_dr _ ?_ | with_reducible refine o_d1 ?_ | with_reducible refine o_set ?_ | (with_reducible refine o_new ?_ ?_; (focus (simp)); (focus (simp))) | with_reducible refine o_al _ ?_ | (with_reducible apply o_be; with_reducible assumption))); done) | ((repeat (first | with_reducible assumption | with_reducible exact Below.refl _ _ | with_reducible refine Below.drew ?_ | with_reducible refine below_drewN ?_ _ | with_reducible refine bw_alloc ?_ _ | (with_reducible refine bw_set ?_ ?_ _; focus (dsimp only; omega)) | (with_reducible apply bw_behind; with_reducible assumption))); done) | (simp [go_sem, *]; omega) | (simp (maxDischargeDepth := 4) [go_sem, *]; done))
    · (first | with_reducible assumption | ((repeat (first | with_reducible assumption | with_reducible refine c_dr _ ?_ | with_reducible refine c_d1 ?_ | with_reducible refine c_al _ ?_ | (with_reducible refine c_set ?_ ?_; focus (dsimp only; omega)) | (with_reducible apply c_be; with_reducible assumption))); done) | ((repeat (first | with_reducible assumption | with_reducible refine o_dr _ ?_ | with_reducible refine o_d1 ?_ | with_reducible refine o_set ?_ | (with_reducible refine o_new ?_ ?_; (focus (simp)); (focus (simp))) | with_reducible refine o_al _ ?_ | (with_reducible apply o_be; with_reducible assumption))); done) | ((repeat (first | with_reducible assumption | with_reducible exact Below.refl _ _ | with_reducible refine Below.drew ?_ | with_reducible refine below_drewN ?_ _ | with_reducible refine bw_alloc ?_ _ | (with_reducible refine bw_set ?_ ?_ _; focus (dsimp only; omega)) | (with_reducible apply bw_behind; with_reducible assumption))); done) | (simp [go_sem, *]; omega) | (simp (maxDischargeDepth := 4) [go_sem, *]; done))
    · (first | with_reducible assumption | ((repeat (first | with_reducible assumption | with_reducible refine c_dr _ ?_ | with_reducible refine c_d1 ?_ | with_reducible refine c_al _ ?_ | (with_reducible refine c_set ?_ ?_; focus (dsimp only; omega)) | (with_reducible apply c_be; with_reducible assumption))); done) | ((repeat (first | with_reducible assumption | with_reducible refine o_dr _ ?_ | with_reducible refine o_d1 ?_ | with_reducible refine o_set ?_ | (with_reducible refine o_new ?_ ?_; (focus (simp)); (focus (simp))) | with_reducible refine o_al _ ?_ | (with_reducible apply o_be; with_reducible assumption))); done) | ((repeat (first | with_reducible assumption | with_reducible exact Below.refl _ _ | with_reducible refine Below.drew ?_ | with_reducible refine below_drewN ?_ _ | with_reducible refine bw_alloc ?_ _ | (with_reducible refine bw_set ?_ ?_ _; focus (dsimp only; omega)) | (with_reducible apply bw_behind; with_reducible assumption))); done) | (simp [go_sem, *]; omega) | (simp (maxDischargeDepth := 4) [go_sem, *]; done))
    · exact ms_al _ hm
  rintro w0 ⟨hB0, d1, d2, d3, d4, hm0⟩
  refine wp_region_tail_lit (C := fun W => ∃ y : Behind w0.heap.size w0, W = y.world) 13 _ rfl (by kernel_rfl) (by kernel_rfl) (by kernel_rfl) ⟨⟨w0.drew, (Below.refl _ _).drew⟩, rfl⟩ ?_
  have y1 := behind_cell0 d1
  have y2 := behind_cell0 d2
  have y4 := behind_cell0 d4
  have hsome := Behind.any w0
  simp only [List.take_succ_cons, List.take_zero, List.cons_append, List.nil_append, mute]
  repeat (go_big_quiet_step (fail))
  refine wpQuiet_nil ?_
  rintro _ ⟨y, rfl⟩
  have x1 := y1 y
  have x2 := y2 y
  have x3 := behind_cell0 d3 y
  have x4 := y4 y
  have hm1 := ms_be y.below hm0
  have hB1 := bw_behind y.below hB0
  clear y1 y2 y4 hsome
  obtain ⟨w1, hw1⟩ : ∃ W, W = y.world := ⟨_, rfl⟩
  rw [← hw1] at x1 x2 x3 x4 hm1 hB1 ⊢
  clear hw1 y hm0 d1 d2 d3 d4
  go_wp2_with (first | (at_mapUpdate; refine wpList_store_ms rfl _ _ _ rfl rfl hm1 (by omega) (by omega) ((n : Int), 1) rfl rfl ?_; intro w3 hm3 ho3; have z4 := ob_cell ho3 (show w.heap.size ≠ mb by omega) x4))
  refine bodyPost_ret (v := .bool false) (by simp (maxDischargeDepth := 4) [results, Tryz.results59, go_sem, *]) rfl ?_
  exact ⟨rfl, hm3, (OutB.of_below hB1).trans ho3⟩

set_option maxHeartbeats 4000000 in
/-- A mark's name in place of a number. -/
theorem closure_name (sh : Nat) (hsh : brB sh = true) (a : Int) (P mb kk pb ab : Nat) (at' : Int) (h : List UInt8 → Option (Int × Int)) (s : List UInt8) (w : World) (hG : G w) (hs : s.length ≤ 1000)
    (c0 : w.cell? ⟨pb, 0, none⟩ = some (.pointer (some ⟨P, 0, none⟩))) (c1 : w.cell? ⟨ab, 0, none⟩ = some (.int .i64 at')) (c2 : w.cell? ⟨P, 1, none⟩ = some (.map (some mb))) (hm : MapS w mb kk h) (hsome : h s = some (a, 1)) (ha : 0 ≤ a ∧ a < 20000) (hat : 0 ≤ at' ∧ at' < 20000) :
    Calls Tryz.prog 61 #[.int .u8 (sh : Int), .string (str s), .pointer (some ⟨pb, 0, none⟩), .pointer (some ⟨ab, 0, none⟩)] w (Makes (.tuple #[.int .i64 (4 * (a - at')), .bool true]) w) := by
  have CB : Hid (∀ W, G W → Calls Tryz.prog 62 #[.int .u8 (sh : Int)] W (Makes (.bool true) W)) := hide (fun W _ => by have := branches_any sh W; rw [hsh] at this; exact this.mono fun _ _ h => quiet_makes h)
  have hlt : ltB ab w.heap.size = true := by unfold ltB; simpa using World.block_lt_of_cell? _ _ c1
  have hv : plV ((h s).getD (0, 0)) = .agg #[.int .i64 a, .int .i64 1] := by rw [hsome]; rfl
  have hv2 : (h s).isSome = true := by rw [hsome]; rfl
  have w1 : IntKind.i64.wrap (a - at') = a - at' := by rw [IntKind.wrap_i64]; omega
  have w2 : IntKind.i64.wrap (4 * (a - at')) = 4 * (a - at') := by rw [IntKind.wrap_i64]; omega
  obtain ⟨D, hD⟩ : ∃ D, a - at' = D := ⟨_, rfl⟩
  obtain ⟨E, hE⟩ : ∃ E, 4 * (a - at') = E := ⟨_, rfl⟩
  rw [hE] at w2 ⊢
  rw [hD] at w1 hE
  clear hsome ha hat
  have SS := cell_same
  have LB' := ltB_add
  have LS := ltB_self
  have LA' := alloc_reads
  have LH := alloc_holds
  go_enter Tryz.func61, Tryz.ntmps61
  go_upto_region 3 with (first | (at_lookup; refine wpList_looko_ms rfl _ _ rfl rfl hm (by omega) rfl ?_; rw [hv, hv2]) | (go_at_call 62; (first | ((with_reducible refine (CB.out _ ?_).mono ?_); (focus (refine hG.behind ?_; repeat (first | with_reducible assumption | with_reducible exact Below.refl _ _ | with_reducible refine Below.drew ?_ | with_reducible refine below_drewN ?_ _ | with_reducible refine bw_alloc ?_ _ | (with_reducible refine bw_set ?_ ?_ _; focus (dsimp only; omega)) | (with_reducible apply bw_behind; with_reducible assumption)))))); rintro e w1 ⟨rfl, hb1⟩; have hr1 := below_reads hb1; have hh1 := below_holds hb1; obtain ⟨m1, hs1⟩ := below_grew hb1))

  refine wp_abs (fun W => G W ∧ Below w.heap.size w W ∧ W.cell? ⟨w.heap.size, 0, none⟩ = some (.int .i64 a) ∧ W.cell? ⟨w.heap.size, 1, none⟩ = some (.int .i64 1) ∧ W.cell? ⟨ab, 0, none⟩ = some (.int .i64 at')) ?_ ?_
  · refine ⟨?_, ?_, ?_, ?_, ?_⟩
    all_goals (first | with_reducible assumption | ((repeat (first | with_reducible assumption | with_reducible refine c_dr _ ?_ | with_reducible refine c_d1 ?_ | with_reducible refine c_al _ ?_ | (with_reducible refine c_set ?_ ?_; focus (dsimp only; omega)) | (with_reducible apply c_be; with_reducible assumption))); done) | ((repeat (first | with_reducible assumption | with_reducible refine o_dr _ ?_ | with_reducible refine o_d1 ?_ | with_reducible refine o_set ?_ | (with_reducible refine o_new ?_ ?_; (focus (simp)); (focus (simp))) | with_reducible refine o_al _ ?_ | (with_reducible apply o_be; with_reducible assumption))); done) | ((repeat (first | with_reducible assumption | with_reducible exact Below.refl _ _ | with_reducible refine Below.drew ?_ | with_reducible refine below_drewN ?_ _ | with_reducible refine bw_alloc ?_ _ | (with_reducible refine bw_set ?_ ?_ _; focus (dsimp only; omega)) | (with_reducible apply bw_behind; with_reducible assumption))); done) | (refine hG.behind ?_; (repeat (first | with_reducible assumption | with_reducible exact Below.refl _ _ | with_reducible refine Below.drew ?_ | with_reducible refine below_drewN ?_ _ | with_reducible refine bw_alloc ?_ _ | (with_reducible refine bw_set ?_ ?_ _; focus (dsimp only; omega)) | (with_reducible apply bw_behind; with_reducible assumption))); done) | (simp [go_sem, *]; omega) | (simp (maxDischargeDepth := 4) [go_sem, *]; done))
  rintro w0 ⟨hT0, hB0, c0, c1, c2⟩
  have y0 := behind_cell0 c0
  have y1 := behind_cell0 c1
  have y2 := behind_cell0 c2
  have hsome := Behind.any w0
  clear c0 c1 c2
  refine wp_region_behind w0 (by kernel_rfl) (by kernel_rfl) (Below.refl _ _) ?_
  repeat (go_big_quiet_step (fail))
  refine wpQuiet_nil ?_
  rintro _ ⟨y, rfl⟩
  have hTy := hT0.behind y.below
  have hBy := bw_behind y.below hB0
  have x0 := y0 y
  have x1 := y1 y
  have x2 := y2 y
  clear hsome y0 y1 y2
  obtain ⟨w1, hw1⟩ : ∃ W, W = y.world := ⟨_, rfl⟩
  rw [← hw1] at hTy hBy x0 x1 x2 ⊢
  clear hw1 y hT0 hB0
  go_wp2
  refine bodyPost_ret (v := .tuple #[.int .i64 E, .bool true]) (by simp (maxDischargeDepth := 4) [results, Tryz.results61, go_sem, *]) rfl ?_
  refine ⟨rfl, ?_⟩
  repeat (first | with_reducible assumption | with_reducible exact Below.refl _ _ | with_reducible refine Below.drew ?_ | with_reducible refine below_drewN ?_ _ | with_reducible refine bw_alloc ?_ _ | (with_reducible refine bw_set ?_ ?_ _; focus (dsimp only; omega)) | (with_reducible apply bw_behind; with_reducible assumption))

set_option maxHeartbeats 4000000 in
/-- A number. -/
theorem closure_num (sh : Nat) (n : Int) (hn : rng n) (hn2 : -10000000000 < n ∧ n < 10000000000) (P mb kk pb ab : Nat) (h : List UInt8 → Option (Int × Int)) (s : List UInt8) (w : World) (hG : G w) (hs : s.length ≤ 1000)
    (c0 : w.cell? ⟨pb, 0, none⟩ = some (.pointer (some ⟨P, 0, none⟩))) (c2 : w.cell? ⟨P, 1, none⟩ = some (.map (some mb))) (hm : MapS w mb kk h) (hnone : h s = none) (es : s = itoa n) :
    Calls Tryz.prog 61 #[.int .u8 (sh : Int), .string (str s), .pointer (some ⟨pb, 0, none⟩), .pointer (some ⟨ab, 0, none⟩)] w (Makes (.tuple #[.int .i64 n, .bool true]) w) := by
  have CN : Hid (∀ W, G W → Calls Tryz.prog 23 #[.string (str s)] W (Makes (.tuple #[.int .i64 n, .bool true]) W)) := hide (fun W hG => by rw [es]; exact number_any n hn hn2 W hG)
  have hv : plV ((h s).getD (0, 0)) = .agg #[.int .i64 0, .int .i64 0] := by rw [hnone]; rfl
  have hv2 : (h s).isSome = false := by rw [hnone]; rfl
  clear hnone es hn hn2
  have SS := cell_same
  have LB' := ltB_add
  have LS := ltB_self
  have LA' := alloc_reads
  have LH := alloc_holds
  go_enter Tryz.func61, Tryz.ntmps61
  go_wp2_with (first | (at_lookup; refine wpList_looko_ms rfl _ _ rfl rfl hm (by omega) rfl ?_; rw [hv, hv2]) | (go_at_call 23; (first | ((with_reducible refine (CN.out _ ?_).mono ?_); (focus (refine hG.behind ?_; repeat (first | with_reducible assumption | with_reducible exact Below.refl _ _ | with_reducible refine Below.drew ?_ | with_reducible refine below_drewN ?_ _ | with_reducible refine bw_alloc ?_ _ | (with_reducible refine bw_set ?_ ?_ _; focus (dsimp only; omega)) | (with_reducible apply bw_behind; with_reducible assumption)))))); rintro e w1 ⟨rfl, hb1⟩; have hr1 := below_reads hb1; have hh1 := below_holds hb1; obtain ⟨m1, hs1⟩ := below_grew hb1))
  refine bodyPost_ret (v := .tuple #[.int .i64 n, .bool true]) (by simp (maxDischargeDepth := 4) [results, Tryz.results61, go_sem, *]) rfl ?_
  refine ⟨rfl, ?_⟩
  repeat (first | with_reducible assumption | with_reducible exact Below.refl _ _ | with_reducible refine Below.drew ?_ | with_reducible refine below_drewN ?_ _ | with_reducible refine bw_alloc ?_ _ | (with_reducible refine bw_set ?_ ?_ _; focus (dsimp only; omega)) | (with_reducible apply bw_behind; with_reducible assumption))
end Go.Proofs.YtlommbeokbicjaaGreatDoor

namespace Go.Proofs.YtlommbeokbicjaaGreatDoor
open Go.RowKit InstMath AsmMath
open Go.Lib (itoa)

open Go.Maps
/-- An instruction that has a word, with what its text has in place of the Imm. -/
structure InsOk (k : Nat) (F : Nat → Int) (s : List UInt8) (y : BitVec 64) : Prop where
  lo : 1 ≤ k
  hi : k ≤ 69
  rg : ∀ o, rng (F o)
  reg : ∀ o ∈ opL (shp k), o ≠ 3 → 0 ≤ F o ∧ F o < 32
  last : LastOk s
  enc : encK k (four (msk k F 0) (msk k F 1) (msk k F 2) (msk k F 3)) = some y
def mskV (k : Nat) (F : Nat → Int) : Value := instV k (msk k F 0) (msk k F 1) (msk k F 2) (msk k F 3)
theorem msk_nil {k : Nat} (h : opL (shp k) = []) (F : Nat → Int) (o : Nat) : msk k F o = 0 := msk_no (by rw [h]; simp)
theorem readW_all {k : Nat} {F : Nat → Int} {s : List UInt8} {y : BitVec 64} (h : InsOk k F s y) (v1 v2 : Value) (w : World) (hG : G w)
    (cl : ∀ W, Below w.heap.size w W → G W → Calls Tryz.prog 61 #[.int .u8 (shp k : Int), .string (str s), v1, v2] W (Makes (.tuple #[.int .i64 (F 3), .bool true]) W)) :
    Calls Tryz.prog 21 #[.string (str (wr k F s)), .func (.func 61) #[] #[v1, v2]] w (Makes (.tuple #[mskV k F, .bool true]) w) := by
  by_cases hn : opL (shp k) = []
  · have he := h.enc
    unfold mskV
    rw [msk_nil hn, msk_nil hn, msk_nil hn, msk_nil hn] at he ⊢
    exact read_no k h.lo h.hi hn F s _ y he w hG
  · exact readW_ops k h.lo h.hi hn F h.rg h.reg s h.last y h.enc v1 v2 w hG cl
theorem readP_all {k : Nat} {F : Nat → Int} {s : List UInt8} {y : BitVec 64} (h : InsOk k F s y) (w : World) (hG : G w)
    (cl : ∀ W, G W → Calls Tryz.prog 22 #[.int .u8 (shp k : Int), .string (str s)] W (Makes (.tuple #[.int .i64 (F 3), .bool true]) W)) :
    Calls Tryz.prog 21 #[.string (str (wr k F s)), .func (.func 22) #[] #[]] w (Makes (.tuple #[mskV k F, .bool true]) w) := by
  by_cases hn : opL (shp k) = []
  · have he := h.enc
    unfold mskV
    rw [msk_nil hn, msk_nil hn, msk_nil hn, msk_nil hn] at he ⊢
    exact read_no k h.lo h.hi hn F s _ y he w hG
  · exact readP_ops k h.lo h.hi hn F h.rg h.reg s h.last y h.enc w hG cl

set_option maxHeartbeats 1000000 in
theorem parse_closure (sh : Nat) (n : Int) (hn : rng n) (hn2 : -10000000000 < n ∧ n < 10000000000) (w : World) (hG : G w) : Calls Tryz.prog 22 #[.int .u8 (sh : Int), .string (str (itoa n))] w (Makes (.tuple #[.int .i64 n, .bool true]) w) := by
  have C1 : Hid (∀ W, G W → Calls Tryz.prog 23 #[.string (str (itoa n))] W (Makes (.tuple #[.int .i64 n, .bool true]) W)) := hide (number_any n hn hn2)
  generalize str (itoa n) = S1 at *
  clear hn hn2
  have SS := cell_same
  have LB' := ltB_add
  have LS := ltB_self
  have LA' := alloc_reads
  have LH := alloc_holds
  go_enter Tryz.func22, Tryz.ntmps22
  go_wp2_with (first | (go_at_call 23; (first | ((with_reducible refine (C1.out _ ?_).mono ?_); (focus (refine hG.behind ?_; repeat (first | with_reducible assumption | with_reducible exact Below.refl _ _ | with_reducible refine Below.drew ?_ | with_reducible refine below_drewN ?_ _ | with_reducible refine bw_alloc ?_ _ | (with_reducible refine bw_set ?_ ?_ _; focus (dsimp only; omega)) | (with_reducible apply bw_behind; with_reducible assumption)))))); rintro e w1 ⟨rfl, hb1⟩; have hr1 := below_reads hb1; have hh1 := below_holds hb1; obtain ⟨m1, hs1⟩ := below_grew hb1))
  refine bodyPost_ret (v := .tuple #[.int .i64 n, .bool true]) (by simp (maxDischargeDepth := 4) [results, Tryz.results22, go_sem, *]) rfl ?_
  refine ⟨rfl, ?_⟩
  repeat (first | with_reducible assumption | with_reducible exact Below.refl _ _ | with_reducible refine Below.drew ?_ | with_reducible refine below_drewN ?_ _ | with_reducible refine bw_alloc ?_ _ | (with_reducible refine bw_set ?_ ?_ _; focus (dsimp only; omega)) | (with_reducible apply bw_behind; with_reducible assumption))

set_option maxRecDepth 100000 in
set_option maxHeartbeats 2000000 in
theorem parse_yes (k : Nat) (F : Nat → Int) (y : BitVec 64) (h : InsOk k F (itoa (F 3)) y) (h3 : -10000000000 < F 3 ∧ F 3 < 10000000000) (w : World) (hG : G w) : Calls Tryz.prog 8 #[.string (str (wr k F (itoa (F 3))))] w (Makes (.tuple #[mskV k F, .bool true]) w) := by
  have C1 : Hid (∀ W, G W → Calls Tryz.prog 21 #[.string (str (wr k F (itoa (F 3)))), .func (.func 22) #[] #[]] W (Makes (.tuple #[.agg #[.int .i64 (k : Int), .int .i64 (msk k F 0), .int .i64 (msk k F 1), .int .i64 (msk k F 2), .int .i64 (msk k F 3)], .bool true]) W)) := hide (fun W hG => readP_all h W hG (fun V hV => parse_closure (shp k) (F 3) (h.rg 3) h3 V hV))
  unfold mskV instV
  generalize str (wr k F (itoa (F 3))) = S1 at *
  generalize msk k F 0 = z0 at *
  generalize msk k F 1 = z1 at *
  generalize msk k F 2 = z2 at *
  generalize msk k F 3 = z3 at *
  clear h h3
  have SS := cell_same
  have LB' := ltB_add
  have LS := ltB_self
  have LA' := alloc_reads
  have LH := alloc_holds
  go_enter Tryz.func8, Tryz.ntmps8
  go_wp2_with (first | (go_at_call 21; (first | ((with_reducible refine (C1.out _ ?_).mono ?_); (focus (refine hG.behind ?_; repeat (first | with_reducible assumption | with_reducible exact Below.refl _ _ | with_reducible refine Below.drew ?_ | with_reducible refine below_drewN ?_ _ | with_reducible refine bw_alloc ?_ _ | (with_reducible refine bw_set ?_ ?_ _; focus (dsimp only; omega)) | (with_reducible apply bw_behind; with_reducible assumption)))))); rintro e w1 ⟨rfl, hb1⟩; have hr1 := below_reads hb1; have hh1 := below_holds hb1; obtain ⟨m1, hs1⟩ := below_grew hb1))
  refine bodyPost_ret (v := .tuple #[.agg #[.int .i64 (k : Int), .int .i64 z0, .int .i64 z1, .int .i64 z2, .int .i64 z3], .bool true]) (by simp (maxDischargeDepth := 4) [results, Tryz.results8, go_sem, *]) rfl ?_
  refine ⟨rfl, ?_⟩
  repeat (first | with_reducible assumption | with_reducible exact Below.refl _ _ | with_reducible refine Below.drew ?_ | with_reducible refine below_drewN ?_ _ | with_reducible refine bw_alloc ?_ _ | (with_reducible refine bw_set ?_ ?_ _; focus (dsimp only; omega)) | (with_reducible apply bw_behind; with_reducible assumption))

set_option maxRecDepth 100000 in
set_option maxHeartbeats 2000000 in
theorem parse_empty  (w : World) (hG : G w) : Calls Tryz.prog 8 #[.string ⟨#[]⟩] w (Makes (.tuple #[.agg #[.int .i64 0, .int .i64 0, .int .i64 0, .int .i64 0, .int .i64 0], .bool false]) w) := by
  have C1 : Hid (∀ W, G W → Calls Tryz.prog 21 #[.string ⟨#[]⟩, .func (.func 22) #[] #[]] W (Makes (.tuple #[.agg #[.int .i64 0, .int .i64 0, .int .i64 0, .int .i64 0, .int .i64 0], .bool false]) W)) := hide (fun W hG => read_empty _ W hG)
  have SS := cell_same
  have LB' := ltB_add
  have LS := ltB_self
  have LA' := alloc_reads
  have LH := alloc_holds
  go_enter Tryz.func8, Tryz.ntmps8
  go_wp2_with (first | (go_at_call 21; (first | ((with_reducible refine (C1.out _ ?_).mono ?_); (focus (refine hG.behind ?_; repeat (first | with_reducible assumption | with_reducible exact Below.refl _ _ | with_reducible refine Below.drew ?_ | with_reducible refine below_drewN ?_ _ | with_reducible refine bw_alloc ?_ _ | (with_reducible refine bw_set ?_ ?_ _; focus (dsimp only; omega)) | (with_reducible apply bw_behind; with_reducible assumption)))))); rintro e w1 ⟨rfl, hb1⟩; have hr1 := below_reads hb1; have hh1 := below_holds hb1; obtain ⟨m1, hs1⟩ := below_grew hb1))
  refine bodyPost_ret (v := .tuple #[.agg #[.int .i64 0, .int .i64 0, .int .i64 0, .int .i64 0, .int .i64 0], .bool false]) (by simp (maxDischargeDepth := 4) [results, Tryz.results8, go_sem, *]) rfl ?_
  refine ⟨rfl, ?_⟩
  repeat (first | with_reducible assumption | with_reducible exact Below.refl _ _ | with_reducible refine Below.drew ?_ | with_reducible refine below_drewN ?_ _ | with_reducible refine bw_alloc ?_ _ | (with_reducible refine bw_set ?_ ?_ _; focus (dsimp only; omega)) | (with_reducible apply bw_behind; with_reducible assumption))

set_option maxRecDepth 100000 in
set_option maxHeartbeats 4000000 in
theorem word_any (P mb kk n : Nat) (h : List UInt8 → Option (Int × Int)) (k : Nat) (F : Nat → Int) (s : List UInt8) (y : BitVec 64) (ok : InsOk k F s y)
    (cl : ∀ (pb ab : Nat) (V : World), G V → V.cell? ⟨pb, 0, none⟩ = some (.pointer (some ⟨P, 0, none⟩)) → V.cell? ⟨ab, 0, none⟩ = some (.int .i64 (n : Int)) → V.cell? ⟨P, 1, none⟩ = some (.map (some mb)) → MapS V mb kk h →
      Calls Tryz.prog 61 #[.int .u8 (shp k : Int), .string (str s), .pointer (some ⟨pb, 0, none⟩), .pointer (some ⟨ab, 0, none⟩)] V (Makes (.tuple #[.int .i64 (F 3), .bool true]) V))
    (w : World) (hG : G w) (c1 : w.cell? ⟨P, 1, none⟩ = some (.map (some mb))) (hm : MapS w mb kk h) :
    Calls Tryz.prog 25 #[.pointer (some ⟨P, 0, none⟩), .string (str (wr k F s)), .int .i64 (n : Int)] w (Makes (.tuple #[.int .u32 (y.toNat : Int), .bool true]) w) := by
  have C1 : Hid (∀ (pb ab : Nat) W, G W → W.cell? ⟨pb, 0, none⟩ = some (.pointer (some ⟨P, 0, none⟩)) → W.cell? ⟨ab, 0, none⟩ = some (.int .i64 (n : Int)) → W.cell? ⟨P, 1, none⟩ = some (.map (some mb)) → MapS W mb kk h →
      Calls Tryz.prog 21 #[.string (str (wr k F s)), .func (.func 61) #[] #[.pointer (some ⟨pb, 0, none⟩), .pointer (some ⟨ab, 0, none⟩)]] W (Makes (.tuple #[.agg #[.int .i64 (k : Int), .int .i64 (msk k F 0), .int .i64 (msk k F 1), .int .i64 (msk k F 2), .int .i64 (msk k F 3)], .bool true]) W)) := hide (fun pb ab W hG a b c d => readW_all ok _ _ W hG (fun V hb hV => cl pb ab V hV (c_be hb a) (c_be hb b) (c_be hb c) (ms_be hb d)))
  have C2 : Hid (∀ W, G W → Calls Tryz.prog 6 #[.agg #[.int .i64 (k : Int), .int .i64 (msk k F 0), .int .i64 (msk k F 1), .int .i64 (msk k F 2), .int .i64 (msk k F 3)]] W (Makes (.tuple #[.int .u32 (y.toNat : Int), .bool true]) W)) := hide (fun W hG => by
    have hm : ∀ o, rng (msk k F o) := fun o => by
      by_cases ho : o ∈ opL (shp k)
      · rw [msk_yes ho]; exact ok.rg o
      · rw [msk_no ho]; unfold rng; omega
    have := enc_yes k ok.lo ok.hi _ _ _ _ (hm 0) (hm 1) (hm 2) (hm 3) W hG.words
    rw [ok.enc] at this
    exact this)
  have hlt : ltB P w.heap.size = true := by unfold ltB; simpa using World.block_lt_of_cell? _ _ c1
  generalize str (wr k F s) = S1 at *
  generalize msk k F 0 = z0 at *
  generalize msk k F 1 = z1 at *
  generalize msk k F 2 = z2 at *
  generalize msk k F 3 = z3 at *
  clear cl ok
  have SS := cell_same
  have LB' := ltB_add
  have LS := ltB_self
  have LA' := alloc_reads
  have LH := alloc_holds
  go_enter Tryz.func25, Tryz.ntmps25
  go_wp2_with (first | (go_at_call 21; (with_reducible refine (C1.out _ _ _ ?_ ?_ ?_ ?_ ?_).mono ?_); (focus (refine hG.behind ?_; repeat (first | with_reducible assumption | with_reducible exact Below.refl _ _ | with_reducible refine Below.drew ?_ | with_reducible refine below_drewN ?_ _ | with_reducible refine bw_alloc ?_ _ | (with_reducible refine bw_set ?_ ?_ _; focus (dsimp only; omega)) | (with_reducible apply bw_behind; with_reducible assumption)))); (focus (simp (maxDischargeDepth := 4) [go_sem, *]; done)); (focus (simp (maxDischargeDepth := 4) [go_sem, *]; done)); (focus (simp (maxDischargeDepth := 4) [go_sem, *]; done)); (focus (exact ms_al _ (ms_al _ hm))); rintro e w5 ⟨rfl, hb5⟩; have hr5 := below_reads hb5; have hh5 := below_holds hb5; obtain ⟨m5, hs5⟩ := below_grew hb5) | (go_at_call 6; (first | ((with_reducible refine (C2.out _ ?_).mono ?_); (focus (refine hG.behind ?_; repeat (first | with_reducible assumption | with_reducible exact Below.refl _ _ | with_reducible refine Below.drew ?_ | with_reducible refine below_drewN ?_ _ | with_reducible refine bw_alloc ?_ _ | (with_reducible refine bw_set ?_ ?_ _; focus (dsimp only; omega)) | (with_reducible apply bw_behind; with_reducible assumption)))))); rintro e w6 ⟨rfl, hb6⟩; have hr6 := below_reads hb6; have hh6 := below_holds hb6; obtain ⟨m6, hs6⟩ := below_grew hb6))
  refine bodyPost_ret (v := .tuple #[.int .u32 (y.toNat : Int), .bool true]) (by simp (maxDischargeDepth := 4) [results, Tryz.results25, go_sem, *]) rfl ?_
  refine ⟨rfl, ?_⟩
  repeat (first | with_reducible assumption | with_reducible exact Below.refl _ _ | with_reducible refine Below.drew ?_ | with_reducible refine below_drewN ?_ _ | with_reducible refine bw_alloc ?_ _ | (with_reducible refine bw_set ?_ ?_ _; focus (dsimp only; omega)) | (with_reducible apply bw_behind; with_reducible assumption))
end Go.Proofs.YtlommbeokbicjaaGreatDoor

namespace Go.Proofs.YtlommbeokbicjaaGreatDoor
open Go.RowKit InstMath AsmMath Words FieldMath
open Go.Lib (itoa)

theorem op_part : ∀ {s : Nat}, IsShape s → ∀ o ∈ opL s, ∃ p ∈ partsL s, p.1 = o := fun hs => each_shape (P := fun s => ∀ o ∈ opL s, ∃ p ∈ partsL s, p.1 = o) (by decide) hs
theorem part_op : ∀ {s : Nat}, IsShape s → ∀ p ∈ partsL s, p.1 ∈ opL s := fun hs => each_shape (P := fun s => ∀ p ∈ partsL s, p.1 ∈ opL s) (by decide) hs
theorem encL_congr {s : Nat} {f g : Nat → Int} : ∀ {L : List Prt} {w : BitVec 64}, (∀ p ∈ L, f p.1 = g p.1) → encL s f L w = encL s g L w
  | [], _, _ => rfl
  | p :: r, w, h => by
    unfold encL
    rw [h p (by simp), encL_congr (fun q hq => h q (List.mem_cons_of_mem _ hq))]
theorem enc_ops {k : Nat} (h1 : 1 ≤ k) (h2 : k ≤ 69) {f g : Nat → Int} (h : ∀ o ∈ opL (shp k), f o = g o) : encK k f = encK k g := by
  unfold encK
  exact encL_congr fun p hp => h _ (part_op (shape_of h1 h2) p hp)
theorem enc_fit {k : Nat} (h1 : 1 ≤ k) (h2 : k ≤ 69) {f : Nat → Int} {y : BitVec 64} (h : encK k f = some y) {o : Nat} (ho : o ∈ opL (shp k)) : fitB (shp k) o (f o) = true := by
  obtain ⟨p, hp, rfl⟩ := op_part (shape_of h1 h2) o ho
  exact enc_fits h p hp
theorem enc_reg {k : Nat} (h1 : 1 ≤ k) (h2 : k ≤ 69) {f : Nat → Int} {y : BitVec 64} (h : encK k f = some y) {o : Nat} (ho : o ∈ opL (shp k)) (h3 : o ≠ 3) : 0 ≤ f o ∧ f o < 32 := by
  have := enc_fit h1 h2 h ho
  unfold fitB at this
  rw [if_neg h3, show (5 : Int) = ((5 : Nat) : Int) from rfl, fits_u _ 5 (by omega) (by omega)] at this
  simpa using this
theorem sign_small {v : Int} (hv : rng v) {n : Nat} (h1 : 1 ≤ n) (h2 : n ≤ 32) (h : fitsB v n true = true) : -4294967296 ≤ v ∧ v < 4294967296 := by
  rw [fits_s _ _ h1 h2] at h
  have e : signB (BitVec.ofInt 64 v) n = BitVec.ofInt 64 v := by simpa using h
  have hb : ∀ i, i < 64 → 32 ≤ i → (BitVec.ofInt 64 v).getLsbD i = (BitVec.ofInt 64 v).getLsbD 31 := fun i hi h32 => by
    have a := sign_at (BitVec.ofInt 64 v) n h1 h2 i hi
    have b := sign_at (BitVec.ofInt 64 v) n h1 h2 31 (by omega)
    rw [e] at a b
    rw [a, if_neg (by omega)]
    by_cases hn : 31 < n
    · obtain rfl : n = 32 := by omega
      rfl
    · rw [b, if_neg hn]
  have e2 : BitVec.ofInt 64 v = ((BitVec.ofInt 64 v).setWidth 32).signExtend 64 := by
    apply BitVec.eq_of_getLsbD_eq
    intro i hi
    rw [BitVec.getLsbD_signExtend]
    by_cases h3 : i < 32
    · simp [h3, hi]
    · have : ((BitVec.ofInt 64 v).setWidth 32).msb = (BitVec.ofInt 64 v).getLsbD 31 := by
        rw [BitVec.msb_eq_getLsbD_last]
        simp
      rw [this]
      simp only [hi, decide_true, Bool.true_and, h3, if_false]
      exact hb i hi (by omega)
  have e3 := congrArg BitVec.toInt e2
  rw [BitVec.toInt_signExtend_of_le (by omega)] at e3
  have l1 := BitVec.toInt_lt (x := (BitVec.ofInt 64 v).setWidth 32)
  have l2 := BitVec.le_toInt (x := (BitVec.ofInt 64 v).setWidth 32)
  have e4 : (BitVec.ofInt 64 v).toInt = v := by
    obtain ⟨r1, r2⟩ := hv
    rw [BitVec.toInt_ofInt]
    simp [Int.bmod]
    omega
  rw [e4] at e3
  omega
theorem enc_imm {k : Nat} (h1 : 1 ≤ k) (h2 : k ≤ 69) {f : Nat → Int} {y : BitVec 64} (h : encK k f = some y) (hr : rng (f 3)) (ho : 3 ∈ opL (shp k)) : -4294967296 ≤ f 3 ∧ f 3 < 4294967296 := by
  have hf := enc_fit h1 h2 h ho
  have hn : 1 ≤ nW (shp k) ∧ nW (shp k) ≤ 32 := each_shape (P := fun s => 1 ≤ nW s ∧ nW s ≤ 32) (by decide) (shape_of h1 h2)
  unfold fitB at hf
  rw [if_pos rfl, Bool.and_eq_true] at hf
  cases hs : nS (shp k) with
  | true =>
    rw [hs] at hf
    exact sign_small hr hn.1 hn.2 hf.1
  | false =>
    rw [hs, fits_u _ _ hn.1 hn.2] at hf
    have h3 := hf.1
    simp at h3
    have : (2 : Int) ^ nW (shp k) ≤ 2 ^ 32 := by
      have := Nat.pow_le_pow_right (show 0 < 2 by decide) hn.2
      exact_mod_cast this
    omega
theorem enc_four {k : Nat} (h1 : 1 ≤ k) (h2 : k ≤ 69) (f : Nat → Int) : encK k (four (f 0) (f 1) (f 2) (f 3)) = encK k f := enc_ops h1 h2 fun o ho => by
  have := ops_lt (shape_of h1 h2) o ho
  obtain rfl | rfl | rfl | rfl : o = 0 ∨ o = 1 ∨ o = 2 ∨ o = 3 := by omega
  all_goals rfl
theorem msk_msk (k : Nat) (F : Nat → Int) (o : Nat) : msk k (msk k F) o = msk k F o := by
  by_cases ho : o ∈ opL (shp k)
  · rw [msk_yes ho]
  · rw [msk_no ho, msk_no ho]
theorem enc_msk {k : Nat} (h1 : 1 ≤ k) (h2 : k ≤ 69) (F : Nat → Int) : encK k (msk k F) = encK k F := enc_ops h1 h2 fun _ ho => msk_yes ho
theorem msk_rng {k : Nat} {F : Nat → Int} (hF : ∀ o, rng (F o)) (o : Nat) : rng (msk k F o) := by
  by_cases ho : o ∈ opL (shp k)
  · rw [msk_yes ho]; exact hF o
  · rw [msk_no ho]; unfold rng; omega
theorem wr_msk {k : Nat} (F : Nat → Int) : wr k F (itoa (F 3)) = wr k (msk k F) (itoa (msk k F 3)) := by
  unfold wr txs
  congr 1
  split
  · rfl
  · congr 1
    congr 1
    refine List.map_congr_left fun o ho => ?_
    unfold tx
    by_cases h3 : o = 3
    · subst h3
      rw [if_pos rfl, if_pos rfl, msk_yes ho]
    · rw [if_neg h3, if_neg h3, msk_yes ho]
/-- An instruction that Encode accepts, with 0 for what its shape has not. -/
theorem ins_ok {k : Nat} (h1 : 1 ≤ k) (h2 : k ≤ 69) {F : Nat → Int} (hF : ∀ o, rng (F o)) {y : BitVec 64} (h : encK k F = some y) :
    InsOk k (msk k F) (itoa (msk k F 3)) y ∧ -10000000000 < msk k F 3 ∧ msk k F 3 < 10000000000 := by
  have hb : -4294967296 ≤ msk k F 3 ∧ msk k F 3 < 4294967296 := by
    by_cases ho : 3 ∈ opL (shp k)
    · rw [msk_yes ho]; exact enc_imm h1 h2 h (hF 3) ho
    · rw [msk_no ho]; omega
  refine ⟨⟨h1, h2, msk_rng hF, fun o ho h3 => ?_, last_itoa (msk_rng hF 3), ?_⟩, by omega, by omega⟩
  · rw [msk_yes ho]
    exact enc_reg h1 h2 h ho h3
  · rw [enc_four h1 h2, enc_msk h1 h2, enc_msk h1 h2]
    exact h
end Go.Proofs.YtlommbeokbicjaaGreatDoor
