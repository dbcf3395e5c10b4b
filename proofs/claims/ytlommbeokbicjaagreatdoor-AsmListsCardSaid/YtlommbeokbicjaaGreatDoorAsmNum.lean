/-
  What asm.decimal, registerName, number, registerOf, mark and instructions answer.
-/
import Derived.Test.YtlommbeokbicjaaGreatDoorAsmLib
import Derived.Test.YtlommbeokbicjaaGreatDoorGField
namespace Go.Proofs.YtlommbeokbicjaaGreatDoor
open Go.RowKit InstMath AsmMath
open Go.Lib (itoa)

set_option maxHeartbeats 1000000 in
theorem decimal_any (n : Int) (h : rng n) (w : World) (hG : G w) : Calls Tryz.prog 20 #[.int .i64 n] w (Makes (.string (str (itoa n))) w) := by
  have C1 : Hid (∀ W, G W → Calls Tryz.prog 48 #[.int .i64 n, .int .i64 10] W (Makes (.string (str (itoa n))) W)) := hide (format_any n h)
  have SS := cell_same
  have LB' := ltB_add
  have LS := ltB_self
  have LA' := alloc_reads
  have LH := alloc_holds
  go_enter Tryz.func20, Tryz.ntmps20
  go_wp2_with (first | (go_at_call 48; (first | ((with_reducible refine (C1.out _ ?_).mono ?_); (focus (refine hG.behind ?_; repeat (first | with_reducible assumption | with_reducible exact Below.refl _ _ | with_reducible refine Below.drew ?_ | with_reducible refine below_drewN ?_ _ | with_reducible refine bw_alloc ?_ _ | (with_reducible refine bw_set ?_ ?_ _; focus (dsimp only; omega)) | (with_reducible apply bw_behind; with_reducible assumption)))))); rintro e w1 ⟨rfl, hb1⟩; have hr1 := below_reads hb1; have hh1 := below_holds hb1; obtain ⟨m1, hs1⟩ := below_grew hb1))
  refine bodyPost_ret (v := .string (str (itoa n))) (by simp (maxDischargeDepth := 4) [results, Tryz.results20, go_sem, *]) rfl ?_
  refine ⟨rfl, ?_⟩
  repeat (first | with_reducible assumption | with_reducible exact Below.refl _ _ | with_reducible refine Below.drew ?_ | with_reducible refine below_drewN ?_ _ | with_reducible refine bw_alloc ?_ _ | (with_reducible refine bw_set ?_ ?_ _; focus (dsimp only; omega)) | (with_reducible apply bw_behind; with_reducible assumption))

set_option maxHeartbeats 1000000 in
theorem registerName_any (n : Int) (h : rng n) (w : World) (hG : G w) : Calls Tryz.prog 45 #[.int .i64 n] w (Makes (.string (str (99 :: itoa n))) w) := by
  have C1 : Hid (∀ W, G W → Calls Tryz.prog 64 #[.int .i64 n] W (Makes (.string (str (itoa n))) W)) := hide (itoa_any n h)
  have hadd : ∀ W, (Op.stringOp .add ⟨#[99]⟩ (str (itoa n))).run Tryz.prog W = .ok (.string (str (99 :: itoa n))) W := text_add (a := [99]) (b := itoa n) (by have := Lib.itoa_length_le n h.1 (by have := h.2; omega); simp; omega)
  have SS := cell_same
  have LB' := ltB_add
  have LS := ltB_self
  have LA' := alloc_reads
  have LH := alloc_holds
  go_enter Tryz.func45, Tryz.ntmps45
  go_wp2_with (first | (go_at_call 64; (first | ((with_reducible refine (C1.out _ ?_).mono ?_); (focus (refine hG.behind ?_; repeat (first | with_reducible assumption | with_reducible exact Below.refl _ _ | with_reducible refine Below.drew ?_ | with_reducible refine below_drewN ?_ _ | with_reducible refine bw_alloc ?_ _ | (with_reducible refine bw_set ?_ ?_ _; focus (dsimp only; omega)) | (with_reducible apply bw_behind; with_reducible assumption)))))); rintro e w1 ⟨rfl, hb1⟩; have hr1 := below_reads hb1; have hh1 := below_holds hb1; obtain ⟨m1, hs1⟩ := below_grew hb1))
  refine bodyPost_ret (v := .string (str (99 :: itoa n))) (by simp (maxDischargeDepth := 4) [results, Tryz.results45, go_sem, *]) rfl ?_
  refine ⟨rfl, ?_⟩
  repeat (first | with_reducible assumption | with_reducible exact Below.refl _ _ | with_reducible refine Below.drew ?_ | with_reducible refine below_drewN ?_ _ | with_reducible refine bw_alloc ?_ _ | (with_reducible refine bw_set ?_ ?_ _; focus (dsimp only; omega)) | (with_reducible apply bw_behind; with_reducible assumption))

set_option maxHeartbeats 1000000 in
theorem number_any (n : Int) (h : rng n) (h2 : -10000000000 < n ∧ n < 10000000000) (w : World) (hG : G w) : Calls Tryz.prog 23 #[.string (str (itoa n))] w (Makes (.tuple #[.int .i64 n, .bool true]) w) := by
  have C1 : Hid (∀ W, G W → Calls Tryz.prog 54 #[.string (str (itoa n)), .string ⟨#[45]⟩] W (Makes (.string (str (Lib.trimPrefix (itoa n) [45]))) W)) := hide (fun W _ => trimPrefix_any (itoa n) [45] W)
  have C2 : Hid (∀ W, G W → Calls Tryz.prog 55 #[.string (str (itoa n)), .int .i64 10, .int .i64 64] W (Makes (.tuple #[.int .i64 n, .nilIface]) W)) := hide (fun W _ => parse_any n h W)
  have C3 : Hid (∀ W, G W → Calls Tryz.prog 20 #[.int .i64 n] W (Makes (.string (str (itoa n))) W)) := hide (decimal_any n h)
  have hsz := str_size (Lib.trimPrefix (itoa n) [45])
  have hle := trim_itoa h2
  generalize str (Lib.trimPrefix (itoa n) [45]) = S1 at *
  generalize str (itoa n) = S2 at *
  have hn : ¬ 10 < ((Lib.trimPrefix (itoa n) [45]).length : Int) := by omega
  generalize (Lib.trimPrefix (itoa n) [45]).length = L at *
  clear h h2 hle
  have SS := cell_same
  have LB' := ltB_add
  have LS := ltB_self
  have LA' := alloc_reads
  have LH := alloc_holds
  go_enter Tryz.func23, Tryz.ntmps23
  go_wp2_with (first | (go_at_call 54; (first | ((with_reducible refine (C1.out _ ?_).mono ?_); (focus (refine hG.behind ?_; repeat (first | with_reducible assumption | with_reducible exact Below.refl _ _ | with_reducible refine Below.drew ?_ | with_reducible refine below_drewN ?_ _ | with_reducible refine bw_alloc ?_ _ | (with_reducible refine bw_set ?_ ?_ _; focus (dsimp only; omega)) | (with_reducible apply bw_behind; with_reducible assumption)))))); rintro e w1 ⟨rfl, hb1⟩; have hr1 := below_reads hb1; have hh1 := below_holds hb1; obtain ⟨m1, hs1⟩ := below_grew hb1) | (go_at_call 55; (first | ((with_reducible refine (C2.out _ ?_).mono ?_); (focus (refine hG.behind ?_; repeat (first | with_reducible assumption | with_reducible exact Below.refl _ _ | with_reducible refine Below.drew ?_ | with_reducible refine below_drewN ?_ _ | with_reducible refine bw_alloc ?_ _ | (with_reducible refine bw_set ?_ ?_ _; focus (dsimp only; omega)) | (with_reducible apply bw_behind; with_reducible assumption)))))); rintro e w2 ⟨rfl, hb2⟩; have hr2 := below_reads hb2; have hh2 := below_holds hb2; obtain ⟨m2, hs2⟩ := below_grew hb2) | (go_at_call 20; (first | ((with_reducible refine (C3.out _ ?_).mono ?_); (focus (refine hG.behind ?_; repeat (first | with_reducible assumption | with_reducible exact Below.refl _ _ | with_reducible refine Below.drew ?_ | with_reducible refine below_drewN ?_ _ | with_reducible refine bw_alloc ?_ _ | (with_reducible refine bw_set ?_ ?_ _; focus (dsimp only; omega)) | (with_reducible apply bw_behind; with_reducible assumption)))))); rintro e w3 ⟨rfl, hb3⟩; have hr3 := below_reads hb3; have hh3 := below_holds hb3; obtain ⟨m3, hs3⟩ := below_grew hb3))
  refine bodyPost_ret (v := .tuple #[.int .i64 n, .bool true]) (by simp (maxDischargeDepth := 4) [results, Tryz.results23, go_sem, *]) rfl ?_
  refine ⟨rfl, ?_⟩
  repeat (first | with_reducible assumption | with_reducible exact Below.refl _ _ | with_reducible refine Below.drew ?_ | with_reducible refine below_drewN ?_ _ | with_reducible refine bw_alloc ?_ _ | (with_reducible refine bw_set ?_ ?_ _; focus (dsimp only; omega)) | (with_reducible apply bw_behind; with_reducible assumption))

set_option maxHeartbeats 1000000 in
theorem registerOf_any (n : Int) (h : 0 ≤ n ∧ n < 32) (w : World) (hG : G w) : Calls Tryz.prog 53 #[.string (str (99 :: itoa n))] w (Makes (.tuple #[.int .i64 n, .bool true]) w) := by
  have C1 : Hid (∀ W, G W → Calls Tryz.prog 78 #[.string (str (99 :: itoa n)), .string ⟨#[99]⟩] W (Makes (.tuple #[.string (str (itoa n)), .bool true]) W)) := hide (fun W _ => cutPre_yes [99] (itoa n) W)
  have C2 : Hid (∀ W, G W → Calls Tryz.prog 23 #[.string (str (itoa n))] W (Makes (.tuple #[.int .i64 n, .bool true]) W)) := hide (number_any n (by unfold rng; omega) (by omega))
  have C3 : Hid (∀ W, G W → Calls Tryz.prog 40 #[.int .i64 n, .int .i64 5, .bool false] W (Makes (.bool true) W)) := hide (fun W _ => ((fits_any n 5 false W (by omega) (by omega)).mono fun _ _ h => quiet_makes (by have e : FieldMath.fitsB n 5 false = true := (by unfold FieldMath.fitsB; rw [show (FieldMath.maskB 5).toNat = 31 by decide, show FieldMath.numW 5 = true by decide]; simp; try omega); rw [e] at h; exact h)))
  generalize str (99 :: itoa n) = S1 at *
  generalize str (itoa n) = S2 at *
  clear h
  have SS := cell_same
  have LB' := ltB_add
  have LS := ltB_self
  have LA' := alloc_reads
  have LH := alloc_holds
  go_enter Tryz.func53, Tryz.ntmps53
  go_wp2_with (first | (go_at_call 78; (first | ((with_reducible refine (C1.out _ ?_).mono ?_); (focus (refine hG.behind ?_; repeat (first | with_reducible assumption | with_reducible exact Below.refl _ _ | with_reducible refine Below.drew ?_ | with_reducible refine below_drewN ?_ _ | with_reducible refine bw_alloc ?_ _ | (with_reducible refine bw_set ?_ ?_ _; focus (dsimp only; omega)) | (with_reducible apply bw_behind; with_reducible assumption)))))); rintro e w1 ⟨rfl, hb1⟩; have hr1 := below_reads hb1; have hh1 := below_holds hb1; obtain ⟨m1, hs1⟩ := below_grew hb1) | (go_at_call 23; (first | ((with_reducible refine (C2.out _ ?_).mono ?_); (focus (refine hG.behind ?_; repeat (first | with_reducible assumption | with_reducible exact Below.refl _ _ | with_reducible refine Below.drew ?_ | with_reducible refine below_drewN ?_ _ | with_reducible refine bw_alloc ?_ _ | (with_reducible refine bw_set ?_ ?_ _; focus (dsimp only; omega)) | (with_reducible apply bw_behind; with_reducible assumption)))))); rintro e w2 ⟨rfl, hb2⟩; have hr2 := below_reads hb2; have hh2 := below_holds hb2; obtain ⟨m2, hs2⟩ := below_grew hb2) | (go_at_call 40; (first | ((with_reducible refine (C3.out _ ?_).mono ?_); (focus (refine hG.behind ?_; repeat (first | with_reducible assumption | with_reducible exact Below.refl _ _ | with_reducible refine Below.drew ?_ | with_reducible refine below_drewN ?_ _ | with_reducible refine bw_alloc ?_ _ | (with_reducible refine bw_set ?_ ?_ _; focus (dsimp only; omega)) | (with_reducible apply bw_behind; with_reducible assumption)))))); rintro e w3 ⟨rfl, hb3⟩; have hr3 := below_reads hb3; have hh3 := below_holds hb3; obtain ⟨m3, hs3⟩ := below_grew hb3))
  refine bodyPost_ret (v := .tuple #[.int .i64 n, .bool true]) (by simp (maxDischargeDepth := 4) [results, Tryz.results53, go_sem, *]) rfl ?_
  refine ⟨rfl, ?_⟩
  repeat (first | with_reducible assumption | with_reducible exact Below.refl _ _ | with_reducible refine Below.drew ?_ | with_reducible refine below_drewN ?_ _ | with_reducible refine bw_alloc ?_ _ | (with_reducible refine bw_set ?_ ?_ _; focus (dsimp only; omega)) | (with_reducible apply bw_behind; with_reducible assumption))

set_option maxHeartbeats 1000000 in
theorem mark_yes (s : List UInt8) (h : NameOk s) (w : World) (hG : G w) : Calls Tryz.prog 58 #[.string (str (s ++ [58]))] w (Makes (.tuple #[.string (str s), .bool true]) w) := by
  have C1 : Hid (∀ W, G W → Calls Tryz.prog 86 #[.string (str (s ++ [58])), .string ⟨#[58]⟩] W (Makes (.tuple #[.string (str s), .bool true]) W)) := hide (fun W _ => cutSuf_yes s [58] (by have := h.len; simp; omega) W)
  have C2 : Hid (∀ W, G W → Calls Tryz.prog 87 #[.string (str s)] W (Makes (.bool true) W)) := hide (fun W _ => (isName_yes s h W).mono fun _ _ h => quiet_makes h)
  generalize str (s ++ [58]) = S1 at *
  generalize str s = S2 at *
  clear h
  have SS := cell_same
  have LB' := ltB_add
  have LS := ltB_self
  have LA' := alloc_reads
  have LH := alloc_holds
  go_enter Tryz.func58, Tryz.ntmps58
  go_wp2_with (first | (go_at_call 86; (first | ((with_reducible refine (C1.out _ ?_).mono ?_); (focus (refine hG.behind ?_; repeat (first | with_reducible assumption | with_reducible exact Below.refl _ _ | with_reducible refine Below.drew ?_ | with_reducible refine below_drewN ?_ _ | with_reducible refine bw_alloc ?_ _ | (with_reducible refine bw_set ?_ ?_ _; focus (dsimp only; omega)) | (with_reducible apply bw_behind; with_reducible assumption)))))); rintro e w1 ⟨rfl, hb1⟩; have hr1 := below_reads hb1; have hh1 := below_holds hb1; obtain ⟨m1, hs1⟩ := below_grew hb1) | (go_at_call 87; (first | ((with_reducible refine (C2.out _ ?_).mono ?_); (focus (refine hG.behind ?_; repeat (first | with_reducible assumption | with_reducible exact Below.refl _ _ | with_reducible refine Below.drew ?_ | with_reducible refine below_drewN ?_ _ | with_reducible refine bw_alloc ?_ _ | (with_reducible refine bw_set ?_ ?_ _; focus (dsimp only; omega)) | (with_reducible apply bw_behind; with_reducible assumption)))))); rintro e w2 ⟨rfl, hb2⟩; have hr2 := below_reads hb2; have hh2 := below_holds hb2; obtain ⟨m2, hs2⟩ := below_grew hb2))
  refine bodyPost_ret (v := .tuple #[.string S2, .bool true]) (by simp (maxDischargeDepth := 4) [results, Tryz.results58, go_sem, *]) rfl ?_
  refine ⟨rfl, ?_⟩
  repeat (first | with_reducible assumption | with_reducible exact Below.refl _ _ | with_reducible refine Below.drew ?_ | with_reducible refine below_drewN ?_ _ | with_reducible refine bw_alloc ?_ _ | (with_reducible refine bw_set ?_ ?_ _; focus (dsimp only; omega)) | (with_reducible apply bw_behind; with_reducible assumption))

set_option maxHeartbeats 1000000 in
theorem mark_no (s : List UInt8) (h : Lib.hasSuffix s [58] = false) (hs : s.length ≤ 1000000000) (w : World) (hG : G w) : Calls Tryz.prog 58 #[.string (str s)] w (Makes (.tuple #[.string ⟨#[]⟩, .bool false]) w) := by
  have C1 : Hid (∀ W, G W → Calls Tryz.prog 86 #[.string (str s), .string ⟨#[58]⟩] W (Makes (.tuple #[.string (str s), .bool false]) W)) := hide (fun W _ => cutSuf_no s [58] hs h W)
  generalize str s = S1 at *
  clear h
  have SS := cell_same
  have LB' := ltB_add
  have LS := ltB_self
  have LA' := alloc_reads
  have LH := alloc_holds
  go_enter Tryz.func58, Tryz.ntmps58
  go_wp2_with (first | (go_at_call 86; (first | ((with_reducible refine (C1.out _ ?_).mono ?_); (focus (refine hG.behind ?_; repeat (first | with_reducible assumption | with_reducible exact Below.refl _ _ | with_reducible refine Below.drew ?_ | with_reducible refine below_drewN ?_ _ | with_reducible refine bw_alloc ?_ _ | (with_reducible refine bw_set ?_ ?_ _; focus (dsimp only; omega)) | (with_reducible apply bw_behind; with_reducible assumption)))))); rintro e w1 ⟨rfl, hb1⟩; have hr1 := below_reads hb1; have hh1 := below_holds hb1; obtain ⟨m1, hs1⟩ := below_grew hb1))
  refine bodyPost_ret (v := .tuple #[.string ⟨#[]⟩, .bool false]) (by simp (maxDischargeDepth := 4) [results, Tryz.results58, go_sem, *]) rfl ?_
  refine ⟨rfl, ?_⟩
  repeat (first | with_reducible assumption | with_reducible exact Below.refl _ _ | with_reducible refine Below.drew ?_ | with_reducible refine below_drewN ?_ _ | with_reducible refine bw_alloc ?_ _ | (with_reducible refine bw_set ?_ ?_ _; focus (dsimp only; omega)) | (with_reducible apply bw_behind; with_reducible assumption))

/-- A slice of one text in a new block. -/
def OneText (t : List UInt8) (w : World) (e : Ending) (w' : World) : Prop :=
  ∃ N, w.heap.size ≤ N ∧ N < w'.heap.size ∧ e = .returned (.slice (some ⟨N, 0, none⟩) 1 1) ∧ Below w.heap.size w w' ∧ w'.cell? ⟨N, 0, none⟩ = some (.string (str t)) ∧ ∃ c f, w'.heap[N]? = some (.cells c 9 f)

set_option maxHeartbeats 2000000 in
theorem instructions_any (t : List UInt8) (h : Plain t) (w : World) (hG : G w) : Calls Tryz.prog 60 #[.string (str t)] w (OneText t w) := by
  have C1 : Hid (∀ W, G W → Calls Tryz.prog 78 #[.string (str t), .string ⟨#[106, 32]⟩] W (Makes (.tuple #[.string (str t), .bool false]) W)) := hide (fun W _ => cutPre_no t [106, 32] h.j W)
  have C2 : Hid (∀ W, G W → Calls Tryz.prog 78 #[.string (str t), .string ⟨#[109, 118, 32]⟩] W (Makes (.tuple #[.string (str t), .bool false]) W)) := hide (fun W _ => cutPre_no t [109, 118, 32] h.mv W)
  have C3 : Hid (∀ W, G W → Calls Tryz.prog 78 #[.string (str t), .string ⟨#[108, 105, 32]⟩] W (Makes (.tuple #[.string (str t), .bool false]) W)) := hide (fun W _ => cutPre_no t [108, 105, 32] h.li W)
  have e1 : ¬ (str t).toList = [110, 111, 112] := by rw [str_toList]; exact h.nop
  have e2 : ¬ (str t).toList = [114, 101, 116] := by rw [str_toList]; exact h.ret
  have e3 : ((str t).toList == [110, 111, 112]) = false := by simpa using e1
  have e4 : ((str t).toList == [114, 101, 116]) = false := by simpa using e2
  have l1 : (⟨#[110, 111, 112]⟩ : ByteArray).toList = [110, 111, 112] := by rw [ByteArray.toList_eq]
  have l2 : (⟨#[114, 101, 116]⟩ : ByteArray).toList = [114, 101, 116] := by rw [ByteArray.toList_eq]
  generalize hS : str t = S1 at *
  have HS := hide hS
  clear h hS
  have SS := cell_same
  have LB' := ltB_add
  have LS := ltB_self
  have LA' := alloc_reads
  have LH := alloc_holds
  go_enter Tryz.func60, Tryz.ntmps60
  go_wp2_with (first | (go_at_call 78; (first | ((with_reducible refine (C1.out _ ?_).mono ?_); (focus (refine hG.behind ?_; repeat (first | with_reducible assumption | with_reducible exact Below.refl _ _ | with_reducible refine Below.drew ?_ | with_reducible refine below_drewN ?_ _ | with_reducible refine bw_alloc ?_ _ | (with_reducible refine bw_set ?_ ?_ _; focus (dsimp only; omega)) | (with_reducible apply bw_behind; with_reducible assumption))))) | ((with_reducible refine (C2.out _ ?_).mono ?_); (focus (refine hG.behind ?_; repeat (first | with_reducible assumption | with_reducible exact Below.refl _ _ | with_reducible refine Below.drew ?_ | with_reducible refine below_drewN ?_ _ | with_reducible refine bw_alloc ?_ _ | (with_reducible refine bw_set ?_ ?_ _; focus (dsimp only; omega)) | (with_reducible apply bw_behind; with_reducible assumption))))) | ((with_reducible refine (C3.out _ ?_).mono ?_); (focus (refine hG.behind ?_; repeat (first | with_reducible assumption | with_reducible exact Below.refl _ _ | with_reducible refine Below.drew ?_ | with_reducible refine below_drewN ?_ _ | with_reducible refine bw_alloc ?_ _ | (with_reducible refine bw_set ?_ ?_ _; focus (dsimp only; omega)) | (with_reducible apply bw_behind; with_reducible assumption)))))); rintro e wq ⟨rfl, hbq⟩; have hrq := below_reads hbq; have hhq := below_holds hbq; obtain ⟨mq, hsq⟩ := below_grew hbq))
  refine bodyPost_ret (v := .slice (some ⟨_, 0, none⟩) 1 1) (by simp (maxDischargeDepth := 4) [results, Tryz.results60, go_sem, *]; rfl) rfl ?_
  refine ⟨_, ?_, ?_, rfl, ?_, ?_, _, _, heap_new ?_⟩
  · omega
  · simp [*]
  · repeat (first | with_reducible assumption | with_reducible exact Below.refl _ _ | with_reducible refine Below.drew ?_ | with_reducible refine below_drewN ?_ _ | with_reducible refine bw_alloc ?_ _ | (with_reducible refine bw_set ?_ ?_ _; focus (dsimp only; omega)) | (with_reducible apply bw_behind; with_reducible assumption))
  · rw [HS.out]
    simp [go_sem, *]
  · simp [*]
end Go.Proofs.YtlommbeokbicjaaGreatDoor
