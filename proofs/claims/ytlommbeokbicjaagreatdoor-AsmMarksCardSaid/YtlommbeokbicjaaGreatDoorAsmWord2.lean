/-
  What asm.Parse and (*program).word answer to the text of an instruction.
-/
import Derived.Test.YtlommbeokbicjaaGreatDoorAsmWord
import Derived.Test.YtlommbeokbicjaaGreatDoorAsmReadP
namespace Go.Proofs.YtlommbeokbicjaaGreatDoor
open Go.RowKit InstMath AsmMath
open Go.Lib (itoa)

open Go.Maps
/-- An instruction that has a word, with what its text has in place of the Imm. -/
structure InsOk (k : Nat) (F : Nat → Int) (s : List UInt8) (y : BitVec 64) : Prop where
  lo : 1 ≤ k
  hi : k ≤ 69
  rg : ∀ o, rng (F o)
  reg : ∀ o ∈ opL (shp k), o ≠ 3 → 0 ≤ F o ∧ F o < 32
  last : LastOk s
  enc : encK k (four (msk k F 0) (msk k F 1) (msk k F 2) (msk k F 3)) = some y
def mskV (k : Nat) (F : Nat → Int) : Value := instV k (msk k F 0) (msk k F 1) (msk k F 2) (msk k F 3)
theorem msk_nil {k : Nat} (h : opL (shp k) = []) (F : Nat → Int) (o : Nat) : msk k F o = 0 := msk_no (by rw [h]; simp)
theorem readW_all {k : Nat} {F : Nat → Int} {s : List UInt8} {y : BitVec 64} (h : InsOk k F s y) (v1 v2 : Value) (w : World) (hG : G w)
    (cl : ∀ W, Below w.heap.size w W → G W → Calls Tryz.prog 61 #[.int .u8 (shp k : Int), .string (str s), v1, v2] W (Makes (.tuple #[.int .i64 (F 3), .bool true]) W)) :
    Calls Tryz.prog 21 #[.string (str (wr k F s)), .func (.func 61) #[] #[v1, v2]] w (Makes (.tuple #[mskV k F, .bool true]) w) := by
  by_cases hn : opL (shp k) = []
  · have he := h.enc
    unfold mskV
    rw [msk_nil hn, msk_nil hn, msk_nil hn, msk_nil hn] at he ⊢
    exact read_no k h.lo h.hi hn F s _ y he w hG
  · exact readW_ops k h.lo h.hi hn F h.rg h.reg s h.last y h.enc v1 v2 w hG cl
theorem readP_all {k : Nat} {F : Nat → Int} {s : List UInt8} {y : BitVec 64} (h : InsOk k F s y) (w : World) (hG : G w)
    (cl : ∀ W, G W → Calls Tryz.prog 22 #[.int .u8 (shp k : Int), .string (str s)] W (Makes (.tuple #[.int .i64 (F 3), .bool true]) W)) :
    Calls Tryz.prog 21 #[.string (str (wr k F s)), .func (.func 22) #[] #[]] w (Makes (.tuple #[mskV k F, .bool true]) w) := by
  by_cases hn : opL (shp k) = []
  · have he := h.enc
    unfold mskV
    rw [msk_nil hn, msk_nil hn, msk_nil hn, msk_nil hn] at he ⊢
    exact read_no k h.lo h.hi hn F s _ y he w hG
  · exact readP_ops k h.lo h.hi hn F h.rg h.reg s h.last y h.enc w hG cl

set_option maxHeartbeats 1000000 in
theorem parse_closure (sh : Nat) (n : Int) (hn : rng n) (hn2 : -10000000000 < n ∧ n < 10000000000) (w : World) (hG : G w) : Calls Tryz.prog 22 #[.int .u8 (sh : Int), .string (str (itoa n))] w (Makes (.tuple #[.int .i64 n, .bool true]) w) := by
  have C1 : Hid (∀ W, G W → Calls Tryz.prog 23 #[.string (str (itoa n))] W (Makes (.tuple #[.int .i64 n, .bool true]) W)) := hide (number_any n hn hn2)
  generalize str (itoa n) = S1 at *
  clear hn hn2
  have SS := cell_same
  have LB' := ltB_add
  have LS := ltB_self
  have LA' := alloc_reads
  have LH := alloc_holds
  go_enter Tryz.func22, Tryz.ntmps22
  go_wp2_with (first | (go_at_call 23; (first | ((with_reducible refine (C1.out _ ?_).mono ?_); (focus (refine hG.behind ?_; repeat (first | with_reducible assumption | with_reducible exact Below.refl _ _ | with_reducible refine Below.drew ?_ | with_reducible refine below_drewN ?_ _ | with_reducible refine bw_alloc ?_ _ | (with_reducible refine bw_set ?_ ?_ _; focus (dsimp only; omega)) | (with_reducible apply bw_behind; with_reducible assumption)))))); rintro e w1 ⟨rfl, hb1⟩; have hr1 := below_reads hb1; have hh1 := below_holds hb1; obtain ⟨m1, hs1⟩ := below_grew hb1))
  refine bodyPost_ret (v := .tuple #[.int .i64 n, .bool true]) (by simp (maxDischargeDepth := 4) [results, Tryz.results22, go_sem, *]) rfl ?_
  refine ⟨rfl, ?_⟩
  repeat (first | with_reducible assumption | with_reducible exact Below.refl _ _ | with_reducible refine Below.drew ?_ | with_reducible refine below_drewN ?_ _ | with_reducible refine bw_alloc ?_ _ | (with_reducible refine bw_set ?_ ?_ _; focus (dsimp only; omega)) | (with_reducible apply bw_behind; with_reducible assumption))

set_option maxRecDepth 100000 in
set_option maxHeartbeats 2000000 in
theorem parse_yes (k : Nat) (F : Nat → Int) (y : BitVec 64) (h : InsOk k F (itoa (F 3)) y) (h3 : -10000000000 < F 3 ∧ F 3 < 10000000000) (w : World) (hG : G w) : Calls Tryz.prog 8 #[.string (str (wr k F (itoa (F 3))))] w (Makes (.tuple #[mskV k F, .bool true]) w) := by
  have C1 : Hid (∀ W, G W → Calls Tryz.prog 21 #[.string (str (wr k F (itoa (F 3)))), .func (.func 22) #[] #[]] W (Makes (.tuple #[.agg #[.int .i64 (k : Int), .int .i64 (msk k F 0), .int .i64 (msk k F 1), .int .i64 (msk k F 2), .int .i64 (msk k F 3)], .bool true]) W)) := hide (fun W hG => readP_all h W hG (fun V hV => parse_closure (shp k) (F 3) (h.rg 3) h3 V hV))
  unfold mskV instV
  generalize str (wr k F (itoa (F 3))) = S1 at *
  generalize msk k F 0 = z0 at *
  generalize msk k F 1 = z1 at *
  generalize msk k F 2 = z2 at *
  generalize msk k F 3 = z3 at *
  clear h h3
  have SS := cell_same
  have LB' := ltB_add
  have LS := ltB_self
  have LA' := alloc_reads
  have LH := alloc_holds
  go_enter Tryz.func8, Tryz.ntmps8
  go_wp2_with (first | (go_at_call 21; (first | ((with_reducible refine (C1.out _ ?_).mono ?_); (focus (refine hG.behind ?_; repeat (first | with_reducible assumption | with_reducible exact Below.refl _ _ | with_reducible refine Below.drew ?_ | with_reducible refine below_drewN ?_ _ | with_reducible refine bw_alloc ?_ _ | (with_reducible refine bw_set ?_ ?_ _; focus (dsimp only; omega)) | (with_reducible apply bw_behind; with_reducible assumption)))))); rintro e w1 ⟨rfl, hb1⟩; have hr1 := below_reads hb1; have hh1 := below_holds hb1; obtain ⟨m1, hs1⟩ := below_grew hb1))
  refine bodyPost_ret (v := .tuple #[.agg #[.int .i64 (k : Int), .int .i64 z0, .int .i64 z1, .int .i64 z2, .int .i64 z3], .bool true]) (by simp (maxDischargeDepth := 4) [results, Tryz.results8, go_sem, *]) rfl ?_
  refine ⟨rfl, ?_⟩
  repeat (first | with_reducible assumption | with_reducible exact Below.refl _ _ | with_reducible refine Below.drew ?_ | with_reducible refine below_drewN ?_ _ | with_reducible refine bw_alloc ?_ _ | (with_reducible refine bw_set ?_ ?_ _; focus (dsimp only; omega)) | (with_reducible apply bw_behind; with_reducible assumption))

set_option maxRecDepth 100000 in
set_option maxHeartbeats 2000000 in
theorem parse_empty  (w : World) (hG : G w) : Calls Tryz.prog 8 #[.string ⟨#[]⟩] w (Makes (.tuple #[.agg #[.int .i64 0, .int .i64 0, .int .i64 0, .int .i64 0, .int .i64 0], .bool false]) w) := by
  have C1 : Hid (∀ W, G W → Calls Tryz.prog 21 #[.string ⟨#[]⟩, .func (.func 22) #[] #[]] W (Makes (.tuple #[.agg #[.int .i64 0, .int .i64 0, .int .i64 0, .int .i64 0, .int .i64 0], .bool false]) W)) := hide (fun W hG => read_empty _ W hG)
  have SS := cell_same
  have LB' := ltB_add
  have LS := ltB_self
  have LA' := alloc_reads
  have LH := alloc_holds
  go_enter Tryz.func8, Tryz.ntmps8
  go_wp2_with (first | (go_at_call 21; (first | ((with_reducible refine (C1.out _ ?_).mono ?_); (focus (refine hG.behind ?_; repeat (first | with_reducible assumption | with_reducible exact Below.refl _ _ | with_reducible refine Below.drew ?_ | with_reducible refine below_drewN ?_ _ | with_reducible refine bw_alloc ?_ _ | (with_reducible refine bw_set ?_ ?_ _; focus (dsimp only; omega)) | (with_reducible apply bw_behind; with_reducible assumption)))))); rintro e w1 ⟨rfl, hb1⟩; have hr1 := below_reads hb1; have hh1 := below_holds hb1; obtain ⟨m1, hs1⟩ := below_grew hb1))
  refine bodyPost_ret (v := .tuple #[.agg #[.int .i64 0, .int .i64 0, .int .i64 0, .int .i64 0, .int .i64 0], .bool false]) (by simp (maxDischargeDepth := 4) [results, Tryz.results8, go_sem, *]) rfl ?_
  refine ⟨rfl, ?_⟩
  repeat (first | with_reducible assumption | with_reducible exact Below.refl _ _ | with_reducible refine Below.drew ?_ | with_reducible refine below_drewN ?_ _ | with_reducible refine bw_alloc ?_ _ | (with_reducible refine bw_set ?_ ?_ _; focus (dsimp only; omega)) | (with_reducible apply bw_behind; with_reducible assumption))

set_option maxRecDepth 100000 in
set_option maxHeartbeats 4000000 in
theorem word_any (P mb kk n : Nat) (h : List UInt8 → Option (Int × Int)) (k : Nat) (F : Nat → Int) (s : List UInt8) (y : BitVec 64) (ok : InsOk k F s y)
    (cl : ∀ (pb ab : Nat) (V : World), G V → V.cell? ⟨pb, 0, none⟩ = some (.pointer (some ⟨P, 0, none⟩)) → V.cell? ⟨ab, 0, none⟩ = some (.int .i64 (n : Int)) → V.cell? ⟨P, 1, none⟩ = some (.map (some mb)) → MapS V mb kk h →
      Calls Tryz.prog 61 #[.int .u8 (shp k : Int), .string (str s), .pointer (some ⟨pb, 0, none⟩), .pointer (some ⟨ab, 0, none⟩)] V (Makes (.tuple #[.int .i64 (F 3), .bool true]) V))
    (w : World) (hG : G w) (c1 : w.cell? ⟨P, 1, none⟩ = some (.map (some mb))) (hm : MapS w mb kk h) :
    Calls Tryz.prog 25 #[.pointer (some ⟨P, 0, none⟩), .string (str (wr k F s)), .int .i64 (n : Int)] w (Makes (.tuple #[.int .u32 (y.toNat : Int), .bool true]) w) := by
  have C1 : Hid (∀ (pb ab : Nat) W, G W → W.cell? ⟨pb, 0, none⟩ = some (.pointer (some ⟨P, 0, none⟩)) → W.cell? ⟨ab, 0, none⟩ = some (.int .i64 (n : Int)) → W.cell? ⟨P, 1, none⟩ = some (.map (some mb)) → MapS W mb kk h →
      Calls Tryz.prog 21 #[.string (str (wr k F s)), .func (.func 61) #[] #[.pointer (some ⟨pb, 0, none⟩), .pointer (some ⟨ab, 0, none⟩)]] W (Makes (.tuple #[.agg #[.int .i64 (k : Int), .int .i64 (msk k F 0), .int .i64 (msk k F 1), .int .i64 (msk k F 2), .int .i64 (msk k F 3)], .bool true]) W)) := hide (fun pb ab W hG a b c d => readW_all ok _ _ W hG (fun V hb hV => cl pb ab V hV (c_be hb a) (c_be hb b) (c_be hb c) (ms_be hb d)))
  have C2 : Hid (∀ W, G W → Calls Tryz.prog 6 #[.agg #[.int .i64 (k : Int), .int .i64 (msk k F 0), .int .i64 (msk k F 1), .int .i64 (msk k F 2), .int .i64 (msk k F 3)]] W (Makes (.tuple #[.int .u32 (y.toNat : Int), .bool true]) W)) := hide (fun W hG => by
    have hm : ∀ o, rng (msk k F o) := fun o => by
      by_cases ho : o ∈ opL (shp k)
      · rw [msk_yes ho]; exact ok.rg o
      · rw [msk_no ho]; unfold rng; omega
    have := enc_yes k ok.lo ok.hi _ _ _ _ (hm 0) (hm 1) (hm 2) (hm 3) W hG.words
    rw [ok.enc] at this
    exact this)
  have hlt : ltB P w.heap.size = true := by unfold ltB; simpa using World.block_lt_of_cell? _ _ c1
  generalize str (wr k F s) = S1 at *
  generalize msk k F 0 = z0 at *
  generalize msk k F 1 = z1 at *
  generalize msk k F 2 = z2 at *
  generalize msk k F 3 = z3 at *
  clear cl ok
  have SS := cell_same
  have LB' := ltB_add
  have LS := ltB_self
  have LA' := alloc_reads
  have LH := alloc_holds
  go_enter Tryz.func25, Tryz.ntmps25
  go_wp2_with (first | (go_at_call 21; (with_reducible refine (C1.out _ _ _ ?_ ?_ ?_ ?_ ?_).mono ?_); (focus (refine hG.behind ?_; repeat (first | with_reducible assumption | with_reducible exact Below.refl _ _ | with_reducible refine Below.drew ?_ | with_reducible refine below_drewN ?_ _ | with_reducible refine bw_alloc ?_ _ | (with_reducible refine bw_set ?_ ?_ _; focus (dsimp only; omega)) | (with_reducible apply bw_behind; with_reducible assumption)))); (focus (simp (maxDischargeDepth := 4) [go_sem, *]; done)); (focus (simp (maxDischargeDepth := 4) [go_sem, *]; done)); (focus (simp (maxDischargeDepth := 4) [go_sem, *]; done)); (focus (exact ms_al _ (ms_al _ hm))); rintro e w5 ⟨rfl, hb5⟩; have hr5 := below_reads hb5; have hh5 := below_holds hb5; obtain ⟨m5, hs5⟩ := below_grew hb5) | (go_at_call 6; (first | ((with_reducible refine (C2.out _ ?_).mono ?_); (focus (refine hG.behind ?_; repeat (first | with_reducible assumption | with_reducible exact Below.refl _ _ | with_reducible refine Below.drew ?_ | with_reducible refine below_drewN ?_ _ | with_reducible refine bw_alloc ?_ _ | (with_reducible refine bw_set ?_ ?_ _; focus (dsimp only; omega)) | (with_reducible apply bw_behind; with_reducible assumption)))))); rintro e w6 ⟨rfl, hb6⟩; have hr6 := below_reads hb6; have hh6 := below_holds hb6; obtain ⟨m6, hs6⟩ := below_grew hb6))
  refine bodyPost_ret (v := .tuple #[.int .u32 (y.toNat : Int), .bool true]) (by simp (maxDischargeDepth := 4) [results, Tryz.results25, go_sem, *]) rfl ?_
  refine ⟨rfl, ?_⟩
  repeat (first | with_reducible assumption | with_reducible exact Below.refl _ _ | with_reducible refine Below.drew ?_ | with_reducible refine below_drewN ?_ _ | with_reducible refine bw_alloc ?_ _ | (with_reducible refine bw_set ?_ ?_ _; focus (dsimp only; omega)) | (with_reducible apply bw_behind; with_reducible assumption))
end Go.Proofs.YtlommbeokbicjaaGreatDoor
