/-
  Texts laid one behind the other: MmuNew, MmuOne.
-/
import Derived.Test.YtkajndonefkegaaDoorGTr
import Derived.Laws.Tables
import Derived.Test.YtkajndonefkegaaDoorMmuSetup
set_option maxRecDepth 100000
set_option maxHeartbeats 64000000
namespace Go.Proofs.YtkajndonefkegaaDoor
open Go.RowKit Words FieldMath PteMath

def unitC (P A : Int) (G : Bool) : List Value := flatC (List.replicate 8 zeroL) ++ List.replicate 4 (.int .i64 0) ++ [.int .u64 P, .int .u64 A, .bool G]
theorem unitC_length (P A : Int) (G : Bool) : (unitC P A G).length = 135 := by
  unfold unitC
  rw [List.length_append, List.length_append, flatC_length]
  simp
theorem unitC_one (P A : Int) (G : Bool) : ∀ v ∈ unitC P A G, v.oneCell' = true := by
  intro v hv
  unfold unitC at hv
  simp only [List.mem_append, List.mem_replicate, List.mem_cons, List.not_mem_nil, or_false] at hv
  rcases hv with (hv | ⟨_, rfl⟩) | rfl | rfl | rfl
  · exact flatC_one _ v hv
  all_goals rfl
theorem unit_of_row {N : Nat} {P A : Int} {G : Bool} {W : World} (hr : Row W N (unitC P A G)) (ho : Own W N 135) : UnitAt N (fun _ => []) P A G W := by
  have hl : (flatC (List.replicate 8 zeroL)).length = 128 := by rw [flatC_length, List.length_replicate]
  refine ⟨⟨fun _ => zeroL, ⟨fun k hk j v hv => ?_, fun q hq => ?_, ?_⟩, fun q hq => ⟨Nat.zero_le _, fun j l hl => by simp at hl⟩⟩, ?_, ?_, ?_, fun j hj => (ho j hj).2⟩
  · have hj : j < 16 := (List.getElem?_eq_some_iff.1 hv).1
    refine hr _ _ ?_
    unfold unitC
    rw [List.append_assoc, List.getElem?_append_left (by rw [hl]; omega)]
    rw [flatC_at _ k j zeroL (by rw [List.getElem?_replicate, if_pos hk]) hj]
    exact hv
  · refine hr _ _ ?_
    unfold unitC
    rw [List.append_assoc, List.getElem?_append_right (by rw [hl]; omega), hl, show 128 + q - 128 = q by omega, List.getElem?_append_left (by simp; omega), List.getElem?_replicate, if_pos hq]
    rfl
  · exact fun j hj => by rw [Nat.zero_add]; exact ho j (by omega)
  · exact hr 132 _ rfl
  · exact hr 133 _ rfl
  · exact hr 134 _ rfl
theorem infoUnit : Option.map (fun x => x.size) (Tryd.prog.info? 43) = some 135 := by kernel_rfl
theorem unit_zero : ∃ Z : Array Value, (∀ W, (zeroValue 43).run Tryd.prog W = .ok (.agg Z) W) /\ Z.toList = unitC 0 0 false := by
  have h : ((Tryd.prog.info? 43).bind (·.zero)).map (fun z => z.cells.toList) = some (unitC 0 0 false) := by kernel_rfl
  have h2 : ((Tryd.prog.info? 43).bind (·.zero)).map (fun z => match z with | .agg _ => true | _ => false) = some true := by kernel_rfl
  obtain ⟨z, hz0, hl⟩ := Option.map_eq_some_iff.1 h
  obtain ⟨i, hi, hz⟩ := Option.bind_eq_some_iff.1 hz0
  rw [hz0] at h2
  cases z with
  | agg cs => exact ⟨cs, fun W => by simp [zeroValue, typeInfo, hi, hz], by simpa [Value.cells] using hl⟩
  | _ => simp at h2
theorem unit_set133 {Z : Array Value} (h : Z.toList = unitC 0 0 false) (a : Int) : (Z.setIfInBounds 133 (.int .u64 a)).toList = unitC 0 a false := by
  rw [Array.toList_setIfInBounds, h]
  rfl
theorem row_all {W : World} {Z : Array Value} {t : TypeId} {L : List Value} (h : Z.toList = L) : Row (W.alloc (.cells Z t)) W.heap.size L := by
  subst h
  exact fun i v hv => by
    rw [World.cell?_alloc_at Z t W.heap.size i rfl, ← Array.getElem?_toList]
    exact hv
end Go.Proofs.YtkajndonefkegaaDoor

namespace Go.Proofs.YtkajndonefkegaaDoor
open Go.RowKit Words FieldMath PteMath

theorem one_let (o : Nat) (V : Int) (Ms M0 M1 M2 M3 : Nat -> Nat -> BitVec 64) (L1 L3 : Nat -> List Ln) (cS : ∀ W, Tab W -> Calls Tryd.prog 6 #[] W (fun e W' => ∃ R K sa na ca sb nb cb, e = .returned (.tuple #[.pointer (some ⟨R, 0, none⟩), .agg #[.int .i64 8, .slice sa na ca, .slice sb nb cb, .slice none 0 0]]) /\ MemW W' R K 8 Ms /\ Below W.heap.size W W' /\ W.heap.size ≤ R /\ W.heap.size ≤ K)) (cW : ∀ W, Tab W -> Calls Tryd.prog 12 #[.agg #[.bool true, .bool true, .bool false, .bool false, .bool true, .bool false, .bool false, .bool false, .bool false, .bool false, .bool false, .bool false, .int .u64 5]] W (Makes (.int .u64 V) W)) (cA : ∀ R K W, MemW W R K 8 Ms -> Calls Tryd.prog 11 #[.pointer (some ⟨R, 0, none⟩), .int .u64 8192, .int .i64 8, .int .u64 V] W (fun e w' => e = .returned (.int .i64 0) /\ MemW w' R K 8 M0 /\ Out K o W w')) (cT : ∀ N R K W, Tab W -> MemW W R K 8 M0 -> UnitAt N (fun _ => []) 0 3 false W -> Calls Tryd.prog 7 #[.pointer (some ⟨N, 0, none⟩), .pointer (some ⟨R, 0, none⟩), .int .u64 4, .int .i64 1, .bool false] W (fun e w' => e = .returned (.tuple #[.agg #[.int .u64 20484, .bool false], .int .i64 0]) /\ MemW w' R K 8 M1 /\ UnitAt N L1 0 3 false w' /\ Out2 N K W w')) (cB : ∀ R K W, MemW W R K 8 M1 -> Calls Tryd.prog 11 #[.pointer (some ⟨R, 0, none⟩), .int .u64 8192, .int .i64 8, .int .u64 0] W (fun e w' => e = .returned (.int .i64 0) /\ MemW w' R K 8 M2 /\ Out K o W w')) (cU : ∀ N R K W, Tab W -> MemW W R K 8 M2 -> UnitAt N L1 0 3 false W -> Calls Tryd.prog 7 #[.pointer (some ⟨N, 0, none⟩), .pointer (some ⟨R, 0, none⟩), .int .u64 5, .int .i64 1, .bool false] W (fun e w' => e = .returned (.tuple #[.agg #[.int .u64 20485, .bool false], .int .i64 0]) /\ MemW w' R K 8 M3 /\ UnitAt N L3 0 3 false w' /\ Out2 N K W w')) (cP : ∀ N R K W, Tab W -> MemW W R K 8 M3 -> UnitAt N L3 0 3 false W -> Calls Tryd.prog 9 #[.pointer (some ⟨N, 0, none⟩), .pointer (some ⟨R, 0, none⟩), .int .u64 5, .int .i64 1, .bool false] W (Makes (.tuple #[.agg #[.int .u64 0, .bool false], .int .i64 1]) W)) (w : World) (hT : Tab w) : Calls Tryd.prog 25 #[] w (Makes (.bool true) w) := by
  have CcS := hide cS
  have CcW := hide cW
  have CcA := hide cA
  have CcT := hide cT
  have CcB := hide cB
  have CcU := hide cU
  have CcP := hide cP
  clear cS cW cA cT cB cU cP
  obtain ⟨SS, LB', LS, LA', LH⟩ := rules5
  obtain ⟨Z0, hz0, hl0⟩ := unit_zero
  have hZl := unit_set133 hl0 3
  have hZ0s : Z0.size = 135 := by rw [← Array.length_toList, hl0, unitC_length]
  go_enter Tryd.func25, Tryd.ntmps25
  go_upto_region 3 with (first | (go_at_call 6; (with_reducible refine (CcS.out _ ?_).mono ?_); (focus ((first | with_reducible assumption | (refine Tab.behind (by with_reducible assumption) ?_; repeat (with_reducible first | assumption | exact Below.refl _ _ | refine Below.drew ?_ | refine below_drewN ?_ _ | refine bw_alloc ?_ _ | (refine bw_set ?_ ?_ _; focus (dsimp only; omega)) | (apply bw_behind; assumption)))))); rintro e ws ⟨R, K, sa, na, ca, sb, nb, cb, rfl, hMs, hbs, hRw, hKw⟩; obtain ⟨hrs, hhs, ms, hss⟩ := bl_all hbs) | (go_at_call 12; (with_reducible refine (CcW.out _ ?_).mono ?_); (focus (refine hT.behind ?_; repeat (with_reducible first | assumption | exact Below.refl _ _ | refine Below.drew ?_ | refine below_drewN ?_ _ | refine bw_alloc ?_ _ | (refine bw_set ?_ ?_ _; focus (dsimp only; omega)) | (apply bw_behind; assumption)))); rintro e wv ⟨rfl, hbv⟩; obtain ⟨hrv, hhv, mv, hsv⟩ := bl_all hbv) | (go_at_call 11; (with_reducible refine (CcA.out _ K _ ?_).mono ?_); (focus (repeat (with_reducible first | assumption | refine mw_dr _ ?_ | refine mw_d1 ?_ | refine mw_al _ ?_ | (apply mw_be; assumption)))); rintro e woa ⟨rfl, hMoa, hOoa⟩))
  refine wp_abs (fun W => Tab W /\ MemW W R K 8 M0 /\ Below w.heap.size w W) ?_ ?_
  · have hfv : Below w.heap.size w wv := by
      repeat (with_reducible first | assumption | exact Below.refl _ _ | refine Below.drew ?_ | refine below_drewN ?_ _ | refine bw_alloc ?_ _ | (refine bw_set ?_ ?_ _; focus (dsimp only; omega)) | (apply bw_behind; assumption))
    have hTv := hT.behind hfv
    have hXa : Below w.heap.size w woa := hfv.trans (hOoa.below hKw hfv.size)
    exact ⟨hT.behind hXa, hMoa, hXa⟩
  rintro w1 ⟨hT1, hM1, hB1⟩
  clear hMs hbs hrs hhs hss hbv hrv hhv hsv hMoa hOoa wv ws
  have hN1 := hB1.size
  have hOz : ∀ t, Own (w1.alloc (.cells Z0 t)) w1.heap.size 135 := fun t => o_new rfl (by omega)
  go_upto_region 4 with (first | ((refine wpList_store_row rfl 43 _ _ rfl (w1.heap.size) 135 _ rfl rfl ?_ ?_ infoUnit ?_ ?_); (focus (simp [hZ0s])); (focus (exact hOz _)); (focus (rw [Array.all_eq_true']; intro v hv; refine unitC_one 0 3 false v ?_; rw [← hZl]; first | exact Array.mem_toList_iff.2 hv | exact Array.mem_def.1 hv | simpa using hv)); intro wu hru hbu hou hsu _))
  refine wp_abs (fun W => MemW W R K 8 M0 /\ UnitAt w1.heap.size (fun _ => []) 0 3 false W /\ Below w.heap.size w W) ?_ ?_
  · have hBu : Below w.heap.size w wu := hB1.trans (((below_alloc (Below.refl _ _) (Nat.le_refl _) _).trans hbu).mono hN1)
    have hMu : MemW wu R K 8 M0 := mw_be (W := w1) ((below_alloc (Below.refl _ _) (Nat.le_refl _) _).trans hbu) hM1
    rw [hZl] at hru
    exact ⟨hMu, unit_of_row hru hou, hBu⟩
  rintro w2 ⟨hM2, hU2, hB2⟩
  clear hru hbu hou hsu hM1 hT1 hB1 hOz
  generalize w1.heap.size = N at *
  have hT2 := hT.behind hB2
  have n1 := un_nek hU2 hM2 (by omega)
  have n2 := un_ner hU2 hM2
  have n3 := un_net hU2 hT2
  have n4 := mw_net hM2 (by omega) hT2
  have hN2 := hU2.here
  have hK2 := hM2.herek (by omega)
  have hR2 := hM2.hereR
  go_upto_region 5 with (first | (go_at_call 7; (with_reducible refine (CcT.out _ _ K _ ?_ ?_ ?_).mono ?_); (focus ((first | with_reducible assumption | (refine Tab.behind (by with_reducible assumption) ?_; repeat (with_reducible first | assumption | exact Below.refl _ _ | refine Below.drew ?_ | refine below_drewN ?_ _ | refine bw_alloc ?_ _ | (refine bw_set ?_ ?_ _; focus (dsimp only; omega)) | (apply bw_behind; assumption)))))); (focus (repeat (with_reducible first | assumption | refine mw_dr _ ?_ | refine mw_d1 ?_ | refine mw_al _ ?_ | (apply mw_be; assumption)))); (focus (repeat (with_reducible first | assumption | refine un_dr _ ?_ | refine un_d1 ?_ | refine un_al _ ?_ | (refine un_set ?_ ?_; focus (dsimp only; omega)) | (apply un_be; assumption) | (refine un_sc _ _ ?_ ?_; focus (dsimp only; omega))))); rintro e wt3 ⟨rfl, hMt3, hUt3, hXt3⟩))
  have hBt : Below w.heap.size w wt3 := hB2.trans (hXt3.below (by omega) (by omega) hB2.size)
  have hTt := hT.behind hBt
  have hzt := hXt3.size
  refine wp_abs (fun W => MemW W R K 8 M1 /\ UnitAt N L1 0 3 false W /\ Below w.heap.size w W /\ W.cell? ⟨wt3.heap.size, 0, none⟩ = some (.int .u64 20484) /\ wt3.heap.size < W.heap.size) ?_ ?_
  · refine ⟨?_, ?_, ?_, ?_, ?_⟩
    · repeat (with_reducible first | assumption | refine mw_dr _ ?_ | refine mw_d1 ?_ | refine mw_al _ ?_ | (apply mw_be; assumption))
    · repeat (with_reducible first | assumption | refine un_dr _ ?_ | refine un_d1 ?_ | refine un_al _ ?_ | (refine un_set ?_ ?_; focus (dsimp only; omega)) | (apply un_be; assumption) | (refine un_sc _ _ ?_ ?_; focus (dsimp only; omega)))
    · repeat (with_reducible first | assumption | exact Below.refl _ _ | refine Below.drew ?_ | refine below_drewN ?_ _ | refine bw_alloc ?_ _ | (refine bw_set ?_ ?_ _; focus (dsimp only; omega)) | (apply bw_behind; assumption))
    · simp [go_sem]
    · simp
  rintro w3 ⟨hM3, hU3, hB3, p3, s3⟩
  have hlo3 : N < wt3.heap.size /\ K < wt3.heap.size /\ R < wt3.heap.size := ⟨by omega, by omega, by omega⟩
  have hT3 := hT.behind hB3
  clear hMt3 hUt3 hXt3 hBt hTt hzt hM2 hU2 hB2
  generalize wt3.heap.size = b3 at *

  go_upto_region 6 with (first | (go_at_call 11; (with_reducible refine (CcB.out _ K _ ?_).mono ?_); (focus (repeat (with_reducible first | assumption | refine mw_dr _ ?_ | refine mw_d1 ?_ | refine mw_al _ ?_ | (apply mw_be; assumption)))); rintro e wo4 ⟨rfl, hMo4, hOo4⟩))
  have hBo : Below w.heap.size w wo4 := hB3.trans (hOo4.below (by omega) hB3.size)
  have hUo := un_out hOo4 n1 hU3
  have hpo := hOo4.reads (by dsimp only; omega) p3
  have hzo := hOo4.size
  refine wp_abs (fun W => MemW W R K 8 M2 /\ UnitAt N L1 0 3 false W /\ Below w.heap.size w W /\ W.cell? ⟨b3, 0, none⟩ = some (.int .u64 20484) /\ b3 < W.heap.size) ?_ ?_
  · refine ⟨?_, ?_, ?_, ?_, ?_⟩
    · repeat (with_reducible first | assumption | refine mw_dr _ ?_ | refine mw_d1 ?_ | refine mw_al _ ?_ | (apply mw_be; assumption))
    · repeat (with_reducible first | assumption | refine un_dr _ ?_ | refine un_d1 ?_ | refine un_al _ ?_ | (refine un_set ?_ ?_; focus (dsimp only; omega)) | (apply un_be; assumption) | (refine un_sc _ _ ?_ ?_; focus (dsimp only; omega)))
    · repeat (with_reducible first | assumption | exact Below.refl _ _ | refine Below.drew ?_ | refine below_drewN ?_ _ | refine bw_alloc ?_ _ | (refine bw_set ?_ ?_ _; focus (dsimp only; omega)) | (apply bw_behind; assumption))
    · exact hpo
    · first | omega | (simp; omega)
  rintro w4 ⟨hM4, hU4, hB4, kb3, s4⟩
  have hT4 := hT.behind hB4
  clear hMo4 hOo4 hBo hUo hpo hzo p3 s3 hM3 hU3 hB3 hT3
  go_upto_region 7 with (first | (go_at_call 7; (with_reducible refine (CcU.out _ _ K _ ?_ ?_ ?_).mono ?_); (focus ((first | with_reducible assumption | (refine Tab.behind (by with_reducible assumption) ?_; repeat (with_reducible first | assumption | exact Below.refl _ _ | refine Below.drew ?_ | refine below_drewN ?_ _ | refine bw_alloc ?_ _ | (refine bw_set ?_ ?_ _; focus (dsimp only; omega)) | (apply bw_behind; assumption)))))); (focus (repeat (with_reducible first | assumption | refine mw_dr _ ?_ | refine mw_d1 ?_ | refine mw_al _ ?_ | (apply mw_be; assumption)))); (focus (repeat (with_reducible first | assumption | refine un_dr _ ?_ | refine un_d1 ?_ | refine un_al _ ?_ | (refine un_set ?_ ?_; focus (dsimp only; omega)) | (apply un_be; assumption) | (refine un_sc _ _ ?_ ?_; focus (dsimp only; omega))))); rintro e wt5 ⟨rfl, hMt5, hUt5, hXt5⟩))
  have hBt : Below w.heap.size w wt5 := hB4.trans (hXt5.below (by omega) (by omega) hB4.size)
  have hTt := hT.behind hBt
  have hzt := hXt5.size
  refine wp_abs (fun W => MemW W R K 8 M3 /\ UnitAt N L3 0 3 false W /\ Below w.heap.size w W /\ W.cell? ⟨wt5.heap.size, 0, none⟩ = some (.int .u64 20485) /\ wt5.heap.size < W.heap.size /\ W.cell? ⟨b3, 0, none⟩ = some (.int .u64 20484)) ?_ ?_
  · refine ⟨?_, ?_, ?_, ?_, ?_, ?_⟩
    · repeat (with_reducible first | assumption | refine mw_dr _ ?_ | refine mw_d1 ?_ | refine mw_al _ ?_ | (apply mw_be; assumption))
    · repeat (with_reducible first | assumption | refine un_dr _ ?_ | refine un_d1 ?_ | refine un_al _ ?_ | (refine un_set ?_ ?_; focus (dsimp only; omega)) | (apply un_be; assumption) | (refine un_sc _ _ ?_ ?_; focus (dsimp only; omega)))
    · repeat (with_reducible first | assumption | exact Below.refl _ _ | refine Below.drew ?_ | refine below_drewN ?_ _ | refine bw_alloc ?_ _ | (refine bw_set ?_ ?_ _; focus (dsimp only; omega)) | (apply bw_behind; assumption))
    · simp [go_sem]
    · simp
    · refine c_al _ (hXt5.reads (by dsimp only; omega) (by dsimp only; omega) kb3)
  rintro w5 ⟨hM5, hU5, hB5, p5, s5, rb3⟩
  have hlo5 : N < wt5.heap.size /\ K < wt5.heap.size /\ R < wt5.heap.size := ⟨by omega, by omega, by omega⟩
  have hT5 := hT.behind hB5
  clear hMt5 hUt5 hXt5 hBt hTt hzt kb3 hM4 hU4 hB4
  generalize wt5.heap.size = b5 at *

  have lb3 : ltB b3 w5.heap.size = true := decide_eq_true (World.block_lt_of_cell? w5 _ rb3)
  have lb5 : ltB b5 w5.heap.size = true := decide_eq_true s5
  go_wp2_with (first | (go_at_call 9; (with_reducible refine (CcP.out _ _ K _ ?_ ?_ ?_).mono ?_); (focus ((first | with_reducible assumption | (refine Tab.behind (by with_reducible assumption) ?_; repeat (with_reducible first | assumption | exact Below.refl _ _ | refine Below.drew ?_ | refine below_drewN ?_ _ | refine bw_alloc ?_ _ | (refine bw_set ?_ ?_ _; focus (dsimp only; omega)) | (apply bw_behind; assumption)))))); (focus (repeat (with_reducible first | assumption | refine mw_dr _ ?_ | refine mw_d1 ?_ | refine mw_al _ ?_ | (apply mw_be; assumption)))); (focus (repeat (with_reducible first | assumption | refine un_dr _ ?_ | refine un_d1 ?_ | refine un_al _ ?_ | (refine un_set ?_ ?_; focus (dsimp only; omega)) | (apply un_be; assumption) | (refine un_sc _ _ ?_ ?_; focus (dsimp only; omega))))); rintro e wq ⟨rfl, hbq⟩; obtain ⟨hrq, hhq, mq, hsq⟩ := bl_all hbq))
  go_ret
  refine ⟨rfl, ?_⟩
  repeat (with_reducible first | assumption | exact Below.refl _ _ | refine Below.drew ?_ | refine below_drewN ?_ _ | refine bw_alloc ?_ _ | (refine bw_set ?_ ?_ _; focus (dsimp only; omega)) | (apply bw_behind; assumption))

theorem lput_ways {α : Type} (M : Nat -> List (LnX α)) (q : Nat) (l : LnX α) : lputM M q l = addM (dropM M l.1 l.2.1) q l ∨ ∃ x : LnX α, lputM M q l = addM (dropM (dropM M l.1 l.2.1) x.1 x.2.1) q l := by
  unfold lputM
  split
  · exact .inr ⟨_, rfl⟩
  · exact .inl rfl
theorem lput_mem {α : Type} {M : Nat -> List (LnX α)} {q r : Nat} {l k : LnX α} (h : k ∈ lputM M q l r) : k ∈ M r ∨ k = l := by
  have hd : ∀ {M : Nat -> List (LnX α)} {a n : Int} {k : LnX α}, k ∈ dropM M a n r -> k ∈ M r := fun h => (List.mem_filter.1 h).1
  have ha : ∀ {D : Nat -> List (LnX α)} {k : LnX α}, k ∈ addM D q l r -> k ∈ D r ∨ k = l := fun {D k} h => by
    unfold addM at h
    by_cases e : r = q
    · subst e
      rw [if_pos rfl] at h
      rcases List.mem_append.1 h with h | h
      · exact .inl h
      · exact .inr (by simpa using h)
    · rw [if_neg e] at h
      exact .inl h
  rcases lput_ways M q l with e | ⟨x, e⟩
  · rw [e] at h
    rcases ha h with h | h
    · exact .inl (hd h)
    · exact .inr h
  · rw [e] at h
    rcases ha h with h | h
    · exact .inl (hd (hd h))
    · exact .inr h
def WfL (M : Nat -> List Ln) : Prop := ∀ q, q < 4 -> ∀ l ∈ M q, ∃ F : BitVec 64, l.2.2.f = (F.toNat : Int)
theorem wfl_nil : WfL (fun _ => []) := fun q hq l hl => by simp at hl
theorem wfl_sub {M M' : Nat -> List Ln} (h : WfL M) (hs : ∀ q, ∀ l ∈ M' q, l ∈ M q) : WfL M' := fun q hq l hl => h q hq l (hs q l hl)
theorem wfl_drop {M : Nat -> List Ln} (a n : Int) (h : WfL M) : WfL (dropM M a n) := wfl_sub h (fun _ _ hl => (List.mem_filter.1 hl).1)
theorem wfl_find {Mm : Nat -> Nat -> BitVec 64} {M : Nat -> List Ln} {C P v : Nat} {A k : Int} {t G : Bool} (h : WfL M) : WfL (findR Mm M C P A v k t G).2.2 := by
  unfold findR
  split
  · exact wfl_drop _ _ h
  · rename_i x a _
    dsimp only
    split
    · intro q hq l hl
      rcases lput_mem hl with hl | rfl
      · exact h q hq l hl
      · exact ⟨_, rfl⟩
    · exact h
theorem wfl_trans {Mm : Nat -> Nat -> BitVec 64} {M : Nat -> List Ln} {C P v : Nat} {A k : Int} {t G : Bool} (h : WfL M) : WfL (transR Mm M C P A v k t G).2.2 := by
  unfold transR
  split
  · split
    · exact wfl_find h
    · split
      · exact wfl_find h
      · exact h
  · exact h
def oneM0 : Nat -> Nat -> BitVec 64 := putM (laidM (setupL 2)) 2 0 (wk (bs true true false false true false false false false false false false) 5#64 12)
def oneT1 : ResR := transR oneM0 (fun _ => []) 8 0 3 4 1 false false
def oneM2 : Nat -> Nat -> BitVec 64 := putM oneT1.2.1 2 0 0#64
def oneT2 : ResR := transR oneM2 oneT1.2.2 8 0 3 5 1 false false
theorem oneT1_out : oneT1.1 = (20484, false, 0) := by decide +kernel
theorem oneT2_out : oneT2.1 = (20485, false, 0) := by decide +kernel
theorem oneP_out : plainR oneT2.2.1 8 0 5 1 false false = (0, false, 1) := by decide +kernel
theorem one_any (w : World) (hT : Tab w) : Calls Tryd.prog 25 #[] w (Makes (.bool true) w) := by
  refine one_let (2 * 4100) _ (laidM (setupL 2)) oneM0 oneT1.2.1 oneM2 oneT2.2.1 oneT1.2.2 oneT2.2.2 ?_ (fun W h => word_any true true false false true false false false false false false false 5#64 W h) ?_ ?_ ?_ ?_ ?_ w hT
  · intro W h
    refine (setup_any W h).mono ?_
    rintro e W' ⟨R, K, sa, na, ca, sb, nb, cb, rfl, h1, _, _, h2, h3, h4, _, _⟩
    exact ⟨R, K, sa, na, ca, sb, nb, cb, rfl, h1, h2, h3, h4⟩
  · intro R K W h
    exact store_w (p := 2) (k := 0) (by omega) (by omega) (by omega) (wk (bs true true false false true false false false false false false false) 5#64 12) R K _ W h
  · intro N R K W h1 h2 h3
    have := trans_any N R K 8 (by omega) (by omega) (fun _ => []) wfl_nil oneM0 0#64 4#64 3 1 false false W h1 h2 h3
    unfold Leaves at this
    rw [show transR oneM0 (fun _ => []) 8 (0#64).toNat 3 (4#64).toNat 1 false false = oneT1 from rfl, oneT1_out] at this
    exact this
  · intro R K W h
    exact store_w (p := 2) (k := 0) (by omega) (by omega) (by omega) 0#64 R K _ W h
  · intro N R K W h1 h2 h3
    have := trans_any N R K 8 (by omega) (by omega) oneT1.2.2 (wfl_trans wfl_nil) oneM2 0#64 5#64 3 1 false false W h1 h2 h3
    unfold Leaves at this
    rw [show transR oneM2 oneT1.2.2 8 (0#64).toNat 3 (5#64).toNat 1 false false = oneT2 from rfl, oneT2_out] at this
    exact this
  · intro N R K W h1 h2 h3
    have := plain_any N R K 8 (by omega) oneT2.2.2 oneT2.2.1 0#64 5#64 3 1 false false W h1 h2 h3
    rw [show plainR oneT2.2.1 8 (0#64).toNat (5#64).toNat 1 false false = (0, false, 1) from oneP_out] at this
    exact this
end Go.Proofs.YtkajndonefkegaaDoor
