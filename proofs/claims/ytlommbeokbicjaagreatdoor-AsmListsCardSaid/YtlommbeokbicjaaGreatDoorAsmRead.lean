/-
  The closure of asm.read; an instruction without operands, and the empty text, read.
-/
import Derived.Test.YtlommbeokbicjaaGreatDoorGWrite
namespace Go.Proofs.YtlommbeokbicjaaGreatDoor
open Go.RowKit InstMath AsmMath
open Go.Lib (itoa)

theorem store_same {W : World} {b i : Nat} {v : Value} (h : W.cell? ⟨b, i, none⟩ = some v) : W.setCell ⟨b, i, none⟩ v = W := by
  have e : (W.setCell ⟨b, i, none⟩ v).heap = W.heap := by
    apply Array.ext_getElem?
    intro k
    unfold World.setCell
    dsimp only
    rw [Array.getElem?_modify]
    split
    · rename_i hk
      subst hk
      unfold World.cell? at h
      dsimp only at h
      cases hb : W.heap[b]? with
      | none => rfl
      | some ob =>
        rw [hb] at h
        cases ob with
        | cells c t f =>
          simp at h
          simp only [Option.map_some]
          have : c.setIfInBounds i v = c := by
            apply Array.ext_getElem?
            intro q
            rw [Array.getElem?_setIfInBounds]
            split
            · rename_i hq
              subst hq
              have hlt := (Array.getElem?_eq_some_iff.1 h).1
              rw [if_pos hlt, h]
            · rfl
          simp [this]
        | _ => rfl
    · rfl
  cases W
  unfold World.setCell at e ⊢
  simp_all
theorem c_off {W : World} {b i j : Nat} {u v : Value} (hne : i ≠ j) (h : W.cell? ⟨b, j, none⟩ = some v) : (W.setCell ⟨b, i, none⟩ u).cell? ⟨b, j, none⟩ = some v :=
  (World.cell?_setCell_other _ _ _ _ (fun e => hne (congrArg Addr.off e))).trans h
theorem c_hit {W : World} {b i : Nat} {u : Value} (h : (W.cell? ⟨b, i, none⟩).isSome = true) : (W.setCell ⟨b, i, none⟩ u).cell? ⟨b, i, none⟩ = some u := cell_same _ _ _ h
theorem c_hit2 {W : World} {b i : Nat} {u : Value} (h : W.cell? ⟨b, i, none⟩ = some u) : (W.setCell ⟨b, i, none⟩ u).cell? ⟨b, i, none⟩ = some u := cell_same _ _ _ (by rw [h]; rfl)
def Ops (W : World) (b : Nat) (L : List Nat) : Prop := ∀ (j o : Nat), L[j]? = some o → W.cell? ⟨b, j, none⟩ = some (.int .i64 (o : Int))
theorem ops_be {W W' : World} {b : Nat} {L : List Nat} (hb : Below W.heap.size W W') (h : Ops W b L) : Ops W' b L := fun j o hj => c_be hb (h j o hj)
theorem ops_set {W : World} {b : Nat} {L : List Nat} {p : Addr} {u : Value} (hne : p.block ≠ b) (h : Ops W b L) : Ops (W.setCell p u) b L := fun j o hj => c_set hne (h j o hj)
theorem ops_al {W : World} {b : Nat} {L : List Nat} (ob : Obj) (h : Ops W b L) : Ops (W.alloc ob) b L := fun j o hj => c_al ob (h j o hj)
theorem ops_dr {W : World} {b : Nat} {L : List Nat} (n : Nat) (h : Ops W b L) : Ops (W.drewN n) b L := h
theorem ops_d1 {W : World} {b : Nat} {L : List Nat} (h : Ops W b L) : Ops W.drew b L := h
theorem strs_set {W : World} {b : Nat} {l : List (List UInt8)} {p : Addr} {u : Value} (hne : p.block ≠ b) (h : Strs W b l) : Strs (W.setCell p u) b l := fun j o hj => c_set hne (h j o hj)
theorem strs_al {W : World} {b : Nat} {l : List (List UInt8)} (ob : Obj) (h : Strs W b l) : Strs (W.alloc ob) b l := fun j o hj => c_al ob (h j o hj)
theorem strs_dr {W : World} {b : Nat} {l : List (List UInt8)} (n : Nat) (h : Strs W b l) : Strs (W.drewN n) b l := h
theorem strs_d1 {W : World} {b : Nat} {l : List (List UInt8)} (h : Strs W b l) : Strs W.drew b l := h
/-- What the first j operands have told of operand o. -/
def vl (L : List Nat) (F : Nat → Int) (j o : Nat) : Int := if o ∈ L.take j then F o else 0
theorem vl_hit {L : List Nat} {F : Nat → Int} {j o : Nat} (h : L[j]? = some o) : vl L F (j + 1) o = F o := by
  unfold vl
  rw [if_pos]
  rw [List.take_add_one, h]
  simp
theorem vl_miss {L : List Nat} {F : Nat → Int} {j o p : Nat} (h : L[j]? = some o) (hp : p ≠ o) : vl L F (j + 1) p = vl L F j p := by
  unfold vl
  rw [List.take_add_one, h]
  simp [hp]
theorem vl_zero {L : List Nat} {F : Nat → Int} {o : Nat} : vl L F 0 o = 0 := by unfold vl; simp
/-- The operands of an instruction's shape; 0 for the others. -/
def msk (k : Nat) (F : Nat → Int) (o : Nat) : Int := vl (opL (shp k)) F (opL (shp k)).length o
theorem msk_yes {k : Nat} {F : Nat → Int} {o : Nat} (h : o ∈ opL (shp k)) : msk k F o = F o := by unfold msk vl; rw [List.take_length, if_pos h]
theorem msk_no {k : Nat} {F : Nat → Int} {o : Nat} (h : o ∉ opL (shp k)) : msk k F o = 0 := by unfold msk vl; rw [List.take_length, if_neg h]
theorem opsV_nil {w w' : World} {e : Ending} (h : OpsV [] w e w') : Makes (.slice none 0 0) w e w' := by
  rcases h with h | h
  · exact ⟨h.2.1, h.2.2 ▸ Below.refl _ _⟩
  · exact absurd rfl h.1
theorem find_name (k : Nat) (h : k < 70) (W : World) (hG : G W) : Calls Tryz.prog 50 #[.string (str (nameL k))] W (Makes (.int .i64 (k : Int)) W) := (find_any k h W hG.names).mono fun _ _ h => quiet_makes h

set_option maxHeartbeats 1000000 in
theorem reg_any (n : Int) (h : 0 ≤ n ∧ n < 32) (b : Nat) (w : World) (hG : G w) (hc : w.cell? ⟨b, 0, none⟩ = some (.bool true)) (hf : w.frozen? ⟨b, 0, none⟩ = false) :
    Calls Tryz.prog 52 #[.string (str (99 :: itoa n)), .pointer (some ⟨b, 0, none⟩)] w (Makes (.int .i64 n) w) := by
  have C1 : Hid (∀ W, G W → Calls Tryz.prog 53 #[.string (str (99 :: itoa n))] W (Makes (.tuple #[.int .i64 n, .bool true]) W)) := hide (registerOf_any n h)
  have hlt : ltB b w.heap.size = true := by unfold ltB; simpa using World.block_lt_of_cell? _ _ hc
  generalize str (99 :: itoa n) = S1 at *
  clear h
  have SS := cell_same
  have LB' := ltB_add
  have LS := ltB_self
  have LA' := alloc_reads
  have LH := alloc_holds
  go_enter Tryz.func52, Tryz.ntmps52
  go_wp2_with (first | (go_at_call 53; (first | ((with_reducible refine (C1.out _ ?_).mono ?_); (focus (refine hG.behind ?_; repeat (first | with_reducible assumption | with_reducible exact Below.refl _ _ | with_reducible refine Below.drew ?_ | with_reducible refine below_drewN ?_ _ | with_reducible refine bw_alloc ?_ _ | (with_reducible refine bw_set ?_ ?_ _; focus (dsimp only; omega)) | (with_reducible apply bw_behind; with_reducible assumption)))))); rintro e w1 ⟨rfl, hb1⟩; have hr1 := below_reads hb1; have hh1 := below_holds hb1; obtain ⟨m1, hs1⟩ := below_grew hb1))
  have hsame := store_same (c_be hb1 hc)
  refine bodyPost_ret (v := .int .i64 n) (by simp (maxDischargeDepth := 4) [results, Tryz.results52, go_sem, *]) rfl ?_
  refine ⟨rfl, ?_⟩
  rw [hsame]
  exact hb1

set_option maxRecDepth 100000 in
set_option maxHeartbeats 4000000 in
theorem read_no (k : Nat) (h1 : 1 ≤ k) (h2 : k ≤ 69) (hn : opL (shp k) = []) (F : Nat → Int) (s : List UInt8) (V : Value) (y : BitVec 64) (he : encK k (four 0 0 0 0) = some y) (w : World) (hG : G w) : Calls Tryz.prog 21 #[.string (str (wr k F s)), V] w (Makes (.tuple #[instV k 0 0 0 0, .bool true]) w) := by
  have hw : wr k F s = nameL k := by unfold wr; rw [if_pos hn, List.append_nil]
  have C1 : Hid (∀ W, G W → Calls Tryz.prog 49 #[.string (str (wr k F s)), .string ⟨#[32]⟩] W (Makes (.tuple #[.string (str (nameL k)), .string (str []), .bool false]) W)) := hide (fun W hG => by
    have := cut_any (wr k F s) [32] (by have := name_long k (by omega) h1; rw [hw]; omega) W hG
    rw [wr_cut_no (by omega) hn] at this
    exact this)
  have C2 : Hid (∀ W, G W → Calls Tryz.prog 50 #[.string (str (nameL k))] W (Makes (.int .i64 (k : Int)) W)) := hide (find_name k (by omega))
  have C3 : Hid (∀ W, G W → Calls Tryz.prog 15 #[.int .i64 (k : Int)] W (Makes (.int .u8 (shp k : Int)) W)) := hide (fun W _ => (shape_yes k ⟨h1, h2⟩ W).mono fun _ _ h => quiet_makes h)
  have C4 : Hid (∀ W, G W → Calls Tryz.prog 44 #[.int .u8 (shp k : Int)] W (Makes (.slice none 0 0) W)) := hide (fun W _ => by have := operands_any _ (shape_of h1 h2) W; rw [hn] at this; exact this.mono fun e w h => opsV_nil h)
  have C5 : Hid (∀ W, G W → Calls Tryz.prog 6 #[.agg #[.int .i64 (k : Int), .int .i64 0, .int .i64 0, .int .i64 0, .int .i64 0]] W (Makes (.tuple #[.int .u32 (y.toNat : Int), .bool true]) W)) := hide (fun W hG => by have := enc_yes k h1 h2 0 0 0 0 (by unfold rng; omega) (by unfold rng; omega) (by unfold rng; omega) (by unfold rng; omega) W hG.words; rw [he] at this; exact this)
  generalize str (wr k F s) = S1 at *
  generalize str (nameL k) = S2 at *
  generalize str [] = S3 at *
  unfold instV
  clear h1 h2 hn he hw
  have SS := cell_same
  have LB' := ltB_add
  have LS := ltB_self
  have LA' := alloc_reads
  have LH := alloc_holds
  go_enter Tryz.func21, Tryz.ntmps21
  go_wp2_with (first | (go_at_call 49; (first | ((with_reducible refine (C1.out _ ?_).mono ?_); (focus (refine hG.behind ?_; repeat (first | with_reducible assumption | with_reducible exact Below.refl _ _ | with_reducible refine Below.drew ?_ | with_reducible refine below_drewN ?_ _ | with_reducible refine bw_alloc ?_ _ | (with_reducible refine bw_set ?_ ?_ _; focus (dsimp only; omega)) | (with_reducible apply bw_behind; with_reducible assumption)))))); rintro e w1 ⟨rfl, hb1⟩; have hr1 := below_reads hb1; have hh1 := below_holds hb1; obtain ⟨m1, hs1⟩ := below_grew hb1) | (go_at_call 50; (first | ((with_reducible refine (C2.out _ ?_).mono ?_); (focus (refine hG.behind ?_; repeat (first | with_reducible assumption | with_reducible exact Below.refl _ _ | with_reducible refine Below.drew ?_ | with_reducible refine below_drewN ?_ _ | with_reducible refine bw_alloc ?_ _ | (with_reducible refine bw_set ?_ ?_ _; focus (dsimp only; omega)) | (with_reducible apply bw_behind; with_reducible assumption)))))); rintro e w2 ⟨rfl, hb2⟩; have hr2 := below_reads hb2; have hh2 := below_holds hb2; obtain ⟨m2, hs2⟩ := below_grew hb2) | (go_at_call 15; (first | ((with_reducible refine (C3.out _ ?_).mono ?_); (focus (refine hG.behind ?_; repeat (first | with_reducible assumption | with_reducible exact Below.refl _ _ | with_reducible refine Below.drew ?_ | with_reducible refine below_drewN ?_ _ | with_reducible refine bw_alloc ?_ _ | (with_reducible refine bw_set ?_ ?_ _; focus (dsimp only; omega)) | (with_reducible apply bw_behind; with_reducible assumption)))))); rintro e w3 ⟨rfl, hb3⟩; have hr3 := below_reads hb3; have hh3 := below_holds hb3; obtain ⟨m3, hs3⟩ := below_grew hb3) | (go_at_call 44; (first | ((with_reducible refine (C4.out _ ?_).mono ?_); (focus (refine hG.behind ?_; repeat (first | with_reducible assumption | with_reducible exact Below.refl _ _ | with_reducible refine Below.drew ?_ | with_reducible refine below_drewN ?_ _ | with_reducible refine bw_alloc ?_ _ | (with_reducible refine bw_set ?_ ?_ _; focus (dsimp only; omega)) | (with_reducible apply bw_behind; with_reducible assumption)))))); rintro e w4 ⟨rfl, hb4⟩; have hr4 := below_reads hb4; have hh4 := below_holds hb4; obtain ⟨m4, hs4⟩ := below_grew hb4))
  refine wp_loop_rounds 1 ?_
  rw [rounds_succ]
  go_wp2_with (first | (go_at_call 6; (first | ((with_reducible refine (C5.out _ ?_).mono ?_); (focus (refine hG.behind ?_; repeat (first | with_reducible assumption | with_reducible exact Below.refl _ _ | with_reducible refine Below.drew ?_ | with_reducible refine below_drewN ?_ _ | with_reducible refine bw_alloc ?_ _ | (with_reducible refine bw_set ?_ ?_ _; focus (dsimp only; omega)) | (with_reducible apply bw_behind; with_reducible assumption)))))); rintro e w5 ⟨rfl, hb5⟩; have hr5 := below_reads hb5; have hh5 := below_holds hb5; obtain ⟨m5, hs5⟩ := below_grew hb5))
  refine bodyPost_ret (v := .tuple #[.agg #[.int .i64 (k : Int), .int .i64 0, .int .i64 0, .int .i64 0, .int .i64 0], .bool true]) (by simp (maxDischargeDepth := 4) [results, Tryz.results21, go_sem, *]) rfl ?_
  refine ⟨rfl, ?_⟩
  repeat (first | with_reducible assumption | with_reducible exact Below.refl _ _ | with_reducible refine Below.drew ?_ | with_reducible refine below_drewN ?_ _ | with_reducible refine bw_alloc ?_ _ | (with_reducible refine bw_set ?_ ?_ _; focus (dsimp only; omega)) | (with_reducible apply bw_behind; with_reducible assumption))

set_option maxRecDepth 100000 in
set_option maxHeartbeats 4000000 in
theorem read_empty (V : Value) (w : World) (hG : G w) : Calls Tryz.prog 21 #[.string ⟨#[]⟩, V] w (Makes (.tuple #[instV 0 0 0 0 0, .bool false]) w) := by
  have C1 : Hid (∀ W, G W → Calls Tryz.prog 49 #[.string ⟨#[]⟩, .string ⟨#[32]⟩] W (Makes (.tuple #[.string (str []), .string (str []), .bool false]) W)) := hide (fun W hG => cut_any [] [32] (by simp) W hG)
  have C2 : Hid (∀ W, G W → Calls Tryz.prog 50 #[.string (str [])] W (Makes (.int .i64 0) W)) := hide (find_name 0 (by omega))
  have C3 : Hid (∀ W, G W → Calls Tryz.prog 15 #[.int .i64 0] W (Makes (.int .u8 0) W)) := hide (fun W _ => (shape_no 0 (by omega) W).mono fun _ _ h => quiet_makes h)
  have C4 : Hid (∀ W, G W → Calls Tryz.prog 44 #[.int .u8 0] W (Makes (.slice none 0 0) W)) := hide (fun W _ => (operands_0 W).mono fun e w h => opsV_nil h)
  have C5 : Hid (∀ W, G W → Calls Tryz.prog 6 #[.agg #[.int .i64 0, .int .i64 0, .int .i64 0, .int .i64 0, .int .i64 0]] W (Makes (.tuple #[.int .u32 0, .bool false]) W)) := hide (fun W _ => enc_no 0 0 0 0 0 (by omega) W)
  generalize str [] = S2 at *
  unfold instV
  have SS := cell_same
  have LB' := ltB_add
  have LS := ltB_self
  have LA' := alloc_reads
  have LH := alloc_holds
  go_enter Tryz.func21, Tryz.ntmps21
  go_wp2_with (first | (go_at_call 49; (first | ((with_reducible refine (C1.out _ ?_).mono ?_); (focus (refine hG.behind ?_; repeat (first | with_reducible assumption | with_reducible exact Below.refl _ _ | with_reducible refine Below.drew ?_ | with_reducible refine below_drewN ?_ _ | with_reducible refine bw_alloc ?_ _ | (with_reducible refine bw_set ?_ ?_ _; focus (dsimp only; omega)) | (with_reducible apply bw_behind; with_reducible assumption)))))); rintro e w1 ⟨rfl, hb1⟩; have hr1 := below_reads hb1; have hh1 := below_holds hb1; obtain ⟨m1, hs1⟩ := below_grew hb1) | (go_at_call 50; (first | ((with_reducible refine (C2.out _ ?_).mono ?_); (focus (refine hG.behind ?_; repeat (first | with_reducible assumption | with_reducible exact Below.refl _ _ | with_reducible refine Below.drew ?_ | with_reducible refine below_drewN ?_ _ | with_reducible refine bw_alloc ?_ _ | (with_reducible refine bw_set ?_ ?_ _; focus (dsimp only; omega)) | (with_reducible apply bw_behind; with_reducible assumption)))))); rintro e w2 ⟨rfl, hb2⟩; have hr2 := below_reads hb2; have hh2 := below_holds hb2; obtain ⟨m2, hs2⟩ := below_grew hb2) | (go_at_call 15; (first | ((with_reducible refine (C3.out _ ?_).mono ?_); (focus (refine hG.behind ?_; repeat (first | with_reducible assumption | with_reducible exact Below.refl _ _ | with_reducible refine Below.drew ?_ | with_reducible refine below_drewN ?_ _ | with_reducible refine bw_alloc ?_ _ | (with_reducible refine bw_set ?_ ?_ _; focus (dsimp only; omega)) | (with_reducible apply bw_behind; with_reducible assumption)))))); rintro e w3 ⟨rfl, hb3⟩; have hr3 := below_reads hb3; have hh3 := below_holds hb3; obtain ⟨m3, hs3⟩ := below_grew hb3) | (go_at_call 44; (first | ((with_reducible refine (C4.out _ ?_).mono ?_); (focus (refine hG.behind ?_; repeat (first | with_reducible assumption | with_reducible exact Below.refl _ _ | with_reducible refine Below.drew ?_ | with_reducible refine below_drewN ?_ _ | with_reducible refine bw_alloc ?_ _ | (with_reducible refine bw_set ?_ ?_ _; focus (dsimp only; omega)) | (with_reducible apply bw_behind; with_reducible assumption)))))); rintro e w4 ⟨rfl, hb4⟩; have hr4 := below_reads hb4; have hh4 := below_holds hb4; obtain ⟨m4, hs4⟩ := below_grew hb4))
  refine wp_loop_rounds 1 ?_
  rw [rounds_succ]
  go_wp2_with (first | (go_at_call 6; (first | ((with_reducible refine (C5.out _ ?_).mono ?_); (focus (refine hG.behind ?_; repeat (first | with_reducible assumption | with_reducible exact Below.refl _ _ | with_reducible refine Below.drew ?_ | with_reducible refine below_drewN ?_ _ | with_reducible refine bw_alloc ?_ _ | (with_reducible refine bw_set ?_ ?_ _; focus (dsimp only; omega)) | (with_reducible apply bw_behind; with_reducible assumption)))))); rintro e w5 ⟨rfl, hb5⟩; have hr5 := below_reads hb5; have hh5 := below_holds hb5; obtain ⟨m5, hs5⟩ := below_grew hb5))
  refine bodyPost_ret (v := .tuple #[.agg #[.int .i64 0, .int .i64 0, .int .i64 0, .int .i64 0, .int .i64 0], .bool false]) (by simp (maxDischargeDepth := 4) [results, Tryz.results21, go_sem, *]) rfl ?_
  refine ⟨rfl, ?_⟩
  repeat (first | with_reducible assumption | with_reducible exact Below.refl _ _ | with_reducible refine Below.drew ?_ | with_reducible refine below_drewN ?_ _ | with_reducible refine bw_alloc ?_ _ | (with_reducible refine bw_set ?_ ?_ _; focus (dsimp only; omega)) | (with_reducible apply bw_behind; with_reducible assumption))
end Go.Proofs.YtlommbeokbicjaaGreatDoor
