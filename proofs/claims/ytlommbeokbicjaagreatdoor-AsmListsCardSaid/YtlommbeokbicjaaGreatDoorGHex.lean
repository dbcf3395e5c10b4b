/-
  Texts laid one behind the other: AsmHex, AsmHex2, AsmHex3.
  Hexadecimal digits: strconv's, base 16; asm.hex.
  strconv's digits, base 16.
  asm.hex and what else a listing writes.
-/
import Derived.Test.YtlommbeokbicjaaGreatDoorAsmLib
import Derived.Test.YtlommbeokbicjaaGreatDoorOwn
import Derived.WalkMore
import Derived.BigQuiet
import Derived.Test.YtlommbeokbicjaaGreatDoorAsmNum
import Derived.Test.YtlommbeokbicjaaGreatDoorShelf2
namespace Go.Proofs.YtlommbeokbicjaaGreatDoor
open Go.RowKit InstMath AsmMath
open Go.Lib (itoa)

/-- A hexadecimal digit, and a number in such. -/
def hexC (d : Nat) : UInt8 := UInt8.ofNat (if d < 10 then 48 + d else 87 + d)
def hexN : Nat → Nat → List UInt8
  | 0, _ => []
  | m + 1, u => if u < 16 then [hexC u] else hexN m (u / 16) ++ [hexC (u % 16)]
def hexD (u : Nat) : List UInt8 := hexN 8 u
def hexF : Nat → Nat → List UInt8
  | 0, _ => []
  | m + 1, u => hexF m (u / 16) ++ [hexC (u % 16)]
theorem hexN_pad : ∀ (m u : Nat), u < 16 ^ m → 0 < m → List.replicate (m - (hexN m u).length) 48 ++ hexN m u = hexF m u ∧ 1 ≤ (hexN m u).length ∧ (hexN m u).length ≤ m
  | 0, _, _, h => by omega
  | 1, u, hu, _ => by
    have hu : u < 16 := by simpa using hu
    simp [hexN, hexF, hu, Nat.mod_eq_of_lt hu]
  | m + 2, u, hu, _ => by
    unfold hexN hexF
    have hd : u / 16 < 16 ^ (m + 1) := by
      rw [Nat.div_lt_iff_lt_mul (by omega), ← Nat.pow_succ]
      exact hu
    by_cases h : u < 16
    · rw [if_pos h]
      have h0 : u / 16 = 0 := by omega
      have hz : ∀ k, hexF k 0 = List.replicate k 48 := fun k => by
        induction k with
        | zero => rfl
        | succ k ih =>
          unfold hexF
          rw [show 0 / 16 = 0 from rfl, ih, List.replicate_succ']
          rfl
      rw [h0, hz, Nat.mod_eq_of_lt h]
      simp
    · rw [if_neg h]
      obtain ⟨h1, h2, h3⟩ := hexN_pad (m + 1) (u / 16) hd (by omega)
      rw [← h1]
      simp only [List.length_append, List.length_cons, List.length_nil]
      refine ⟨?_, by omega, by omega⟩
      rw [← List.append_assoc]
      congr 2
      congr 1
      omega
theorem digs_at : ∀ d, (h : d < 16) → ([48, 49, 50, 51, 52, 53, 54, 55, 56, 57, 97, 98, 99, 100, 101, 102, 103, 104, 105, 106, 107, 108, 109, 110, 111, 112, 113, 114, 115, 116, 117, 118, 119, 120, 121, 122] : List UInt8)[d]'(by simp; omega) = hexC d := by decide +kernel
theorem digs_index (d : Nat) (h : d < 16) (W : World) : (Instr.index 9 (.string ⟨#[48, 49, 50, 51, 52, 53, 54, 55, 56, 57, 97, 98, 99, 100, 101, 102, 103, 104, 105, 106, 107, 108, 109, 110, 111, 112, 113, 114, 115, 116, 117, 118, 119, 120, 121, 122]⟩) (.int .i64 (d : Int))).run Tryz.prog W = .ok (.int .u8 ((hexC d).toNat : Int)) W := by
  have := index_text (l := [48, 49, 50, 51, 52, 53, 54, 55, 56, 57, 97, 98, 99, 100, 101, 102, 103, 104, 105, 106, 107, 108, 109, 110, 111, 112, 113, 114, 115, 116, 117, 118, 119, 120, 121, 122]) (i := d) (by simp; omega) W
  rw [digs_at d h] at this
  exact this
/-- The one cell of math/bits' table that 16 wants. -/
def Db (W : World) : Prop := W.cell? ⟨9, 15, none⟩ = some (.int .u8 4)
theorem Db.behind {W W' : World} (h : Db W) (hb : Below W.heap.size W W') : Db W' := c_be hb h
structure G2 (W : World) : Prop where
  g : G W
  d : Db W
theorem G2.behind {W W' : World} (h : G2 W) (hb : Below W.heap.size W W') : G2 W' := ⟨h.g.behind hb, h.d.behind hb⟩

set_option maxRecDepth 100000 in
set_option maxHeartbeats 2000000 in
theorem pow16  (w : World)  : Calls Tryz.prog 130 #[.int .i64 16] w (Makes (.bool true) w) := by
  have b0 : bits .and .i64 16 15 = 0 := by decide +kernel
  have SS := cell_same
  have LB' := ltB_add
  have LS := ltB_self
  have LA' := alloc_reads
  have LH := alloc_holds
  go_enter Tryz.func130, Tryz.ntmps130
  go_wp2
  refine bodyPost_ret (v := .bool true) (by simp (maxDischargeDepth := 4) [results, Tryz.results130, go_sem, *]) rfl ?_
  refine ⟨rfl, ?_⟩
  repeat (first | with_reducible assumption | with_reducible exact Below.refl _ _ | with_reducible refine Below.drew ?_ | with_reducible refine below_drewN ?_ _ | with_reducible refine bw_alloc ?_ _ | (with_reducible refine bw_set ?_ ?_ _; focus (dsimp only; omega)) | (with_reducible apply bw_behind; with_reducible assumption))

set_option maxRecDepth 100000 in
set_option maxHeartbeats 2000000 in
theorem tz64_16  (w : World) (hG : G2 w) : Calls Tryz.prog 148 #[.int .u64 16] w (Makes (.int .i64 4) w) := by
  have hd := hG.d
  unfold Db at hd
  have b0 : bits .and .u64 16 (IntKind.u64.wrap (-16)) = 16 := by decide +kernel
  have b1 : IntKind.u64.wrap (16 * 285870213051353865) = 4573923408821661840 := by decide +kernel
  have SS := cell_same
  have LB' := ltB_add
  have LS := ltB_self
  have LA' := alloc_reads
  have LH := alloc_holds
  go_enter Tryz.func148, Tryz.ntmps148
  go_wp2
  refine bodyPost_ret (v := .int .i64 4) (by simp (maxDischargeDepth := 4) [results, Tryz.results148, go_sem, *]) rfl ?_
  refine ⟨rfl, ?_⟩
  repeat (first | with_reducible assumption | with_reducible exact Below.refl _ _ | with_reducible refine Below.drew ?_ | with_reducible refine below_drewN ?_ _ | with_reducible refine bw_alloc ?_ _ | (with_reducible refine bw_set ?_ ?_ _; focus (dsimp only; omega)) | (with_reducible apply bw_behind; with_reducible assumption))

set_option maxRecDepth 100000 in
set_option maxHeartbeats 2000000 in
theorem tz_16  (w : World) (hG : G2 w) : Calls Tryz.prog 131 #[.int .u64 16] w (Makes (.int .i64 4) w) := by
  have C1 := hide tz64_16
  have SS := cell_same
  have LB' := ltB_add
  have LS := ltB_self
  have LA' := alloc_reads
  have LH := alloc_holds
  go_enter Tryz.func131, Tryz.ntmps131
  go_wp2_with (first | (go_at_call 148; (first | ((with_reducible refine (C1.out _ ?_).mono ?_); (focus (refine hG.behind ?_; repeat (first | with_reducible assumption | with_reducible exact Below.refl _ _ | with_reducible refine Below.drew ?_ | with_reducible refine below_drewN ?_ _ | with_reducible refine bw_alloc ?_ _ | (with_reducible refine bw_set ?_ ?_ _; focus (dsimp only; omega)) | (with_reducible apply bw_behind; with_reducible assumption)))))); rintro e w1 ⟨rfl, hb1⟩; have hr1 := below_reads hb1; have hh1 := below_holds hb1; obtain ⟨m1, hs1⟩ := below_grew hb1))
  refine bodyPost_ret (v := .int .i64 4) (by simp (maxDischargeDepth := 4) [results, Tryz.results131, go_sem, *]) rfl ?_
  refine ⟨rfl, ?_⟩
  repeat (first | with_reducible assumption | with_reducible exact Below.refl _ _ | with_reducible refine Below.drew ?_ | with_reducible refine below_drewN ?_ _ | with_reducible refine bw_alloc ?_ _ | (with_reducible refine bw_set ?_ ?_ _; focus (dsimp only; omega)) | (with_reducible apply bw_behind; with_reducible assumption))
end Go.Proofs.YtlommbeokbicjaaGreatDoor

namespace Go.Proofs.YtlommbeokbicjaaGreatDoor
open Go.RowKit InstMath AsmMath
open Go.Lib (itoa)

theorem index_textk {l : List UInt8} {i : Nat} (h : i < l.length) (W : World) : (Instr.index 9 (.string (str l)) (.int .u64 (i : Int))).run Tryz.prog W = .ok (.int .u8 ((l[i].toNat : Nat) : Int)) W := by
  rw [run_index_string W _ _ _ _ Tryz.underlying9, dif_pos ⟨by omega, by rw [str_size]; omega⟩]
  have e : (str l)[(i : Int).toNat]'(by rw [str_size]; omega) = l[i] := by
    show (str l).data[i]'_ = l[i]
    simp [str]
  rw [e]
theorem digs_idx (d : Nat) (h : d < 16) (W : World) : (Instr.index 9 (.string ⟨#[48, 49, 50, 51, 52, 53, 54, 55, 56, 57, 97, 98, 99, 100, 101, 102, 103, 104, 105, 106, 107, 108, 109, 110, 111, 112, 113, 114, 115, 116, 117, 118, 119, 120, 121, 122]⟩) (.int .u64 (d : Int))).run Tryz.prog W = .ok (.int .u8 ((hexC d).toNat : Int)) W := by
  have := index_textk (l := [48, 49, 50, 51, 52, 53, 54, 55, 56, 57, 97, 98, 99, 100, 101, 102, 103, 104, 105, 106, 107, 108, 109, 110, 111, 112, 113, 114, 115, 116, 117, 118, 119, 120, 121, 122]) (i := d) (by simp; omega) W
  rw [digs_at d h] at this
  exact this

set_option maxRecDepth 100000 in
set_option maxHeartbeats 4000000 in
theorem fb_any (u : Nat) (hu : u < 4294967296) (w : World) (hG : G2 w) : Calls Tryz.prog 102 #[.slice none 0 0, .int .u64 (u : Int), .int .i64 16, .bool false, .bool false] w (Makes (.tuple #[.slice none 0 0, .string (str (hexD u))]) w) := by
  have CP := hide pow16
  have CT := hide tz_16
  have SS := cell_same
  have LB' := ltB_add
  have LS := ltB_self
  have LA' := alloc_reads
  have LH := alloc_holds
  go_enter Tryz.func102, Tryz.ntmps102
  go_wp2_with (first | (go_at_call 130; (with_reducible refine (CP.out _).mono ?_); rintro e w1 ⟨rfl, hb1⟩; have hr1 := below_reads hb1; have hh1 := below_holds hb1; obtain ⟨m1, hs1⟩ := below_grew hb1) | (go_at_call 131; (first | ((with_reducible refine (CT.out _ ?_).mono ?_); (focus (refine hG.behind ?_; repeat (first | with_reducible assumption | with_reducible exact Below.refl _ _ | with_reducible refine Below.drew ?_ | with_reducible refine below_drewN ?_ _ | with_reducible refine bw_alloc ?_ _ | (with_reducible refine bw_set ?_ ?_ _; focus (dsimp only; omega)) | (with_reducible apply bw_behind; with_reducible assumption)))))); rintro e w2 ⟨rfl, hb2⟩; have hr2 := below_reads hb2; have hh2 := below_holds hb2; obtain ⟨m2, hs2⟩ := below_grew hb2))
  go_loopw [1, 13] (fun uv iv wr => ∃ (v : Nat) (l : List UInt8), uv = .int .u64 (v : Int) ∧ iv = .int .i64 ((65 - l.length : Nat) : Int) ∧ l.length ≤ 7 ∧ v < 16 ^ (8 - l.length) ∧ Hid (hexN 8 u = hexN (8 - l.length) v ++ l) ∧ Below w.heap.size w wr ∧ Own wr w.heap.size 65 ∧ Hid (∀ k x, l[k]? = some x → wr.cell? ⟨w.heap.size, 65 - l.length + k, none⟩ = some (.int .u8 (x.toNat : Int))) ∧ w.heap.size < wr.heap.size) (fun uv _ _ => (intOf uv).toNat)
  case atStart =>
    refine ⟨u, [], rfl, rfl, by simp, hu, hide (by rw [List.append_nil]; rfl), ?_, ?_, hide (fun k x h => by simp at h), ?_⟩
    · repeat (first | with_reducible assumption | with_reducible exact Below.refl _ _ | with_reducible refine Below.drew ?_ | with_reducible refine below_drewN ?_ _ | with_reducible refine bw_alloc ?_ _ | (with_reducible refine bw_set ?_ ?_ _; focus (dsimp only; omega)) | (with_reducible apply bw_behind; with_reducible assumption))
    · repeat (first | with_reducible assumption | with_reducible refine o_dr _ ?_ | with_reducible refine o_d1 ?_ | with_reducible refine o_set ?_ | (with_reducible refine o_new ?_ ?_; (focus (simp)); (focus (simp))) | with_reducible refine o_al _ ?_ | (with_reducible apply o_be; with_reducible assumption))
    · have h1 := hb1.size
      have h2 := hb2.size
      simp at h1 h2 ⊢
      omega
  case round =>
    obtain ⟨v, l, rfl, rfl, hl7, hv, HE, hB, hO, HC, hz⟩ := hrel
    have hsz := hB.size
    obtain ⟨i, hi⟩ : ∃ i, 65 - l.length = i := ⟨_, rfl⟩
    have hi1 : 58 ≤ i ∧ i ≤ 65 := by omega
    rw [hi] at HC
    have w1 : IntKind.i64.wrap ((i : Int) - 1) = ((i - 1 : Nat) : Int) := by rw [IntKind.wrap_i64]; omega
    have i1 : ((i - 1 : Nat) : Int) < 65 := by omega
    have i2 : (0 : Int) ≤ ((i - 1 : Nat) : Int) := by omega
    have f1 := hO.free (i - 1) (by omega)
    obtain ⟨vv, hvv⟩ := hO.val (i - 1) (by omega)
    have lN : ltB w.heap.size wr.heap.size = true := by unfold ltB; simpa using hz
    have hv2 : v < 4294967296 := Nat.lt_of_lt_of_le hv (by
      have := Nat.pow_le_pow_right (show 0 < 16 by decide) (show 8 - l.length ≤ 8 by omega)
      exact this)
    by_cases hlt : 16 ≤ v
    · have hl6 : l.length ≤ 6 := by
        by_cases h : l.length = 7
        · rw [h] at hv; simp at hv; omega
        · omega
      have hm : v % 16 < 16 := by omega
      have a1 : bits .and .u64 (v : Int) 15 = ((v % 16 : Nat) : Int) := by
        have h := bits_and_u64_nat v 15 (by omega) (by omega)
        rw [show (15 : Nat) = 2 ^ 4 - 1 from rfl, Nat.and_two_pow_sub_one_eq_mod] at h
        exact h
      have a2 := digs_idx (v % 16) hm
      have a3 : (v : Int) / 16 = ((v / 16 : Nat) : Int) := by omega
      have b1 : (16 : Int) ≤ (v : Int) := by omega
      have HN : Hid (hexN 8 u = hexN (8 - (l.length + 1)) (v / 16) ++ (hexC (v % 16) :: l)) := hide (by
        rw [HE.out]
        rw [show 8 - l.length = (8 - (l.length + 1)) + 1 by omega]
        conv => lhs; unfold hexN
        rw [if_neg (by omega)]
        simp)
      have hv3 : v / 16 < 16 ^ (8 - (l.length + 1)) := by
        rw [Nat.div_lt_iff_lt_mul (by omega), ← Nat.pow_succ, show Nat.succ (8 - (l.length + 1)) = 8 - l.length by omega]
        exact hv
      have HX : Hid (v / 16 < v) := hide (by omega)
      generalize hd : v % 16 = d at *
      generalize hq : v / 16 = q at *
      generalize hc : hexC d = c at *
      clear hd hq hc hv hm
      go_wp2
      go_roundw
      case rel =>
        refine ⟨q, c :: l, rfl, ?_, by simp; omega, by simpa using hv3, hide (by simpa using HN.out), bw_set (Nat.le_refl _) hB _, o_set hO, hide (fun k x hk => ?_), ?_⟩
        · rw [List.length_cons, show 65 - (l.length + 1) = i - 1 by omega]
        · rw [List.length_cons, show 65 - (l.length + 1) = i - 1 by omega]
          match k, hk with
          | 0, hk =>
            obtain rfl : c = x := by simpa using hk
            exact cell_same _ _ _ (hO.some _ (by omega))
          | k + 1, hk =>
            rw [World.cell?_setCell_other _ _ _ _ (fun e => by have := congrArg Addr.off e; dsimp only at this; omega)]
            have := HC.out k x (by simpa using hk)
            rw [show i - 1 + (k + 1) = i + k by omega]
            exact this
        · have := (bw_set (p := ⟨w.heap.size, i - 1, none⟩) (Nat.le_refl _) hB (.int .u8 (c.toNat : Int))).size
          first | (simp [World.setCell] ; omega) | omega
      case measure =>
        have := HX.out
        simp [intOf]; omega
    · have hlt2 : ¬ ((16 : Int) ≤ (v : Int)) := by omega
      have a2 := digs_idx v (by omega)
      have HN : Hid (hexN 8 u = hexC v :: l) := hide (by
        rw [HE.out, show 8 - l.length = (7 - l.length) + 1 by omega]
        conv => lhs; unfold hexN
        rw [if_pos (by omega)]
        rfl)
      clear hv
      have i3 : ((i - 1 : Nat) : Int) ≤ 65 := by omega
      go_upto_region 30 with (first | fail)
      refine wp_abs (fun W => Below w.heap.size w W ∧ Hid (∀ k x, (hexC v :: l)[k]? = some x → W.cell? ⟨w.heap.size, i - 1 + k, none⟩ = some (.int .u8 (x.toNat : Int)))) ?_ ?_
      · refine ⟨bw_set (Nat.le_refl _) hB _, hide (fun k x hk => ?_)⟩
        match k, hk with
        | 0, hk =>
          obtain rfl : hexC v = x := by simpa using hk
          exact cell_same _ _ _ (hO.some _ (by omega))
        | k + 1, hk =>
          rw [World.cell?_setCell_other _ _ _ _ (fun e => by have := congrArg Addr.off e; dsimp only at this; omega)]
          have := HC.out k x (by simpa using hk)
          rw [show i - 1 + (k + 1) = i + k by omega]
          exact this
      rintro w5 ⟨hB5, HC5⟩
      have hln : (hexC v :: l).length = 65 - (i - 1) := by simp; omega
      have hcv := run_convert_bytes_back (P := Tryz.prog) w5 72 9 5 ⟨w.heap.size, i - 1, none⟩ (65 - (i - 1)) (hexC v :: l) Tryz.underlying72 Tryz.underlying5 Tryz.underlying9 (fun k hk => by
        have := HC5.out k _ (List.getElem?_eq_getElem hk)
        have ea : (⟨w.heap.size, i - 1, none⟩ : Addr).add k = ⟨w.heap.size, i - 1 + k, none⟩ := by unfold Addr.add; split <;> simp_all
        rw [ea]
        exact this)
      rw [hln] at hcv
      have hfin : (⟨(hexC v :: l).toArray⟩ : ByteArray) = str (hexD u) := by
        unfold hexD
        rw [HN.out]
        rfl
      rw [hfin] at hcv
      generalize str (hexD u) = RES at *
      clear hln hfin a2 HN HC HE hlt hlt2 hv2 f1 hvv hO
      go_wp2
      refine bodyPost_ret (v := .tuple #[.slice none 0 0, .string RES]) (by simp (maxDischargeDepth := 4) [results, Tryz.results102, go_sem, *]) rfl ?_
      refine ⟨rfl, ?_⟩
      repeat (first | with_reducible assumption | with_reducible exact Below.refl _ _ | with_reducible refine Below.drew ?_ | with_reducible refine below_drewN ?_ _ | with_reducible refine bw_alloc ?_ _ | (with_reducible refine bw_set ?_ ?_ _; focus (dsimp only; omega)) | (with_reducible apply bw_behind; with_reducible assumption))

end Go.Proofs.YtlommbeokbicjaaGreatDoor

namespace Go.Proofs.YtlommbeokbicjaaGreatDoor
open Go.RowKit InstMath AsmMath
open Go.Lib (itoa)

theorem rep_48 : ∀ n, Lib.repeatL [48] n = List.replicate n 48
  | 0 => rfl
  | n + 1 => by
    rw [List.replicate_succ, ← rep_48 n]
    rfl
theorem repeat_any (n : Nat) (h : n ≤ 8) (W : World) : Calls Tryz.prog 92 #[.string ⟨#[48]⟩, .int .i64 (n : Int)] W (Makes (.string (str (List.replicate n 48))) W) := by
  refine (Tryz.strings_Repeat ⟨#[48]⟩ n W (by omega) (by show 1 * n ≤ _; omega)).mono fun e w' h => ⟨h.1.trans ?_, h.2⟩
  show Ending.returned (Value.string ⟨(Lib.repeatL [48] n).toArray⟩) = _
  rw [rep_48]
  rfl

set_option maxRecDepth 100000 in
set_option maxHeartbeats 2000000 in
theorem fu1_any (u : Nat) (hu : u < 4294967296) (w : World) (hG : G2 w) : Calls Tryz.prog 120 #[.int .u64 (u : Int), .int .i64 16] w (Makes (.string (str (hexD u))) w) := by
  have C1 := hide (fb_any u hu)
  generalize str (hexD u) = S1 at *
  have SS := cell_same
  have LB' := ltB_add
  have LS := ltB_self
  have LA' := alloc_reads
  have LH := alloc_holds
  go_enter Tryz.func120, Tryz.ntmps120
  go_wp2_with (first | (go_at_call 102; (first | ((with_reducible refine (C1.out _ ?_).mono ?_); (focus (refine hG.behind ?_; repeat (first | with_reducible assumption | with_reducible exact Below.refl _ _ | with_reducible refine Below.drew ?_ | with_reducible refine below_drewN ?_ _ | with_reducible refine bw_alloc ?_ _ | (with_reducible refine bw_set ?_ ?_ _; focus (dsimp only; omega)) | (with_reducible apply bw_behind; with_reducible assumption)))))); rintro e w1 ⟨rfl, hb1⟩; have hr1 := below_reads hb1; have hh1 := below_holds hb1; obtain ⟨m1, hs1⟩ := below_grew hb1))
  refine bodyPost_ret (v := .string S1) (by simp (maxDischargeDepth := 4) [results, Tryz.results120, go_sem, *]) rfl ?_
  refine ⟨rfl, ?_⟩
  repeat (first | with_reducible assumption | with_reducible exact Below.refl _ _ | with_reducible refine Below.drew ?_ | with_reducible refine below_drewN ?_ _ | with_reducible refine bw_alloc ?_ _ | (with_reducible refine bw_set ?_ ?_ _; focus (dsimp only; omega)) | (with_reducible apply bw_behind; with_reducible assumption))

set_option maxRecDepth 100000 in
set_option maxHeartbeats 2000000 in
theorem fu_any (u : Nat) (hu : u < 4294967296) (w : World) (hG : G2 w) : Calls Tryz.prog 91 #[.int .u64 (u : Int), .int .i64 16] w (Makes (.string (str (hexD u))) w) := by
  have C1 := hide (fu1_any u hu)
  generalize str (hexD u) = S1 at *
  have SS := cell_same
  have LB' := ltB_add
  have LS := ltB_self
  have LA' := alloc_reads
  have LH := alloc_holds
  go_enter Tryz.func91, Tryz.ntmps91
  go_wp2_with (first | (go_at_call 120; (first | ((with_reducible refine (C1.out _ ?_).mono ?_); (focus (refine hG.behind ?_; repeat (first | with_reducible assumption | with_reducible exact Below.refl _ _ | with_reducible refine Below.drew ?_ | with_reducible refine below_drewN ?_ _ | with_reducible refine bw_alloc ?_ _ | (with_reducible refine bw_set ?_ ?_ _; focus (dsimp only; omega)) | (with_reducible apply bw_behind; with_reducible assumption)))))); rintro e w1 ⟨rfl, hb1⟩; have hr1 := below_reads hb1; have hh1 := below_holds hb1; obtain ⟨m1, hs1⟩ := below_grew hb1))
  refine bodyPost_ret (v := .string S1) (by simp (maxDischargeDepth := 4) [results, Tryz.results91, go_sem, *]) rfl ?_
  refine ⟨rfl, ?_⟩
  repeat (first | with_reducible assumption | with_reducible exact Below.refl _ _ | with_reducible refine Below.drew ?_ | with_reducible refine below_drewN ?_ _ | with_reducible refine bw_alloc ?_ _ | (with_reducible refine bw_set ?_ ?_ _; focus (dsimp only; omega)) | (with_reducible apply bw_behind; with_reducible assumption))

set_option maxRecDepth 100000 in
set_option maxHeartbeats 2000000 in
theorem hex_any (u : Nat) (hu : u < 4294967296) (w : World) (hG : G2 w) : Calls Tryz.prog 65 #[.int .u32 (u : Int)] w (Makes (.string (str (hexF 8 u))) w) := by
  have C1 := hide (fu_any u hu)
  obtain ⟨hp, h1, h2⟩ := hexN_pad 8 u hu (by omega)
  have hp : List.replicate (8 - (hexD u).length) 48 ++ hexD u = hexF 8 u := hp
  have h1 : 1 ≤ (hexD u).length := h1
  have h2 : (hexD u).length ≤ 8 := h2
  have C2 : Hid (∀ W, Calls Tryz.prog 92 #[.string ⟨#[48]⟩, .int .i64 ((8 - (hexD u).length : Nat) : Int)] W (Makes (.string (str (List.replicate (8 - (hexD u).length) 48))) W)) := hide (repeat_any _ (by omega))
  have d1 : ∀ W, (Op.stringOp .add (str (List.replicate (8 - (hexD u).length) 48)) (str (hexD u))).run Tryz.prog W = .ok (.string (str (hexF 8 u))) W := by
    rw [← hp]
    exact text_add (by simp; omega)
  have hz := str_size (hexD u)
  obtain ⟨n, hn⟩ : ∃ n, (hexD u).length = n := ⟨_, rfl⟩
  rw [hn] at C2 d1 hz h1 h2
  have hw : IntKind.i64.wrap (8 - (n : Int)) = ((8 - n : Nat) : Int) := by rw [IntKind.wrap_i64]; omega
  have hw2 : (8 : Int) - (n : Int) = ((8 - n : Nat) : Int) := by omega
  generalize str (hexF 8 u) = S3 at *
  generalize str (List.replicate (8 - n) 48) = S2 at *
  generalize str (hexD u) = S1 at *
  clear hp hn
  have SS := cell_same
  have LB' := ltB_add
  have LS := ltB_self
  have LA' := alloc_reads
  have LH := alloc_holds
  go_enter Tryz.func65, Tryz.ntmps65
  go_wp2_with (first | (go_at_call 91; (first | ((with_reducible refine (C1.out _ ?_).mono ?_); (focus (refine hG.behind ?_; repeat (first | with_reducible assumption | with_reducible exact Below.refl _ _ | with_reducible refine Below.drew ?_ | with_reducible refine below_drewN ?_ _ | with_reducible refine bw_alloc ?_ _ | (with_reducible refine bw_set ?_ ?_ _; focus (dsimp only; omega)) | (with_reducible apply bw_behind; with_reducible assumption)))))); rintro e w1 ⟨rfl, hb1⟩; have hr1 := below_reads hb1; have hh1 := below_holds hb1; obtain ⟨m1, hs1⟩ := below_grew hb1) | (go_at_call 92; (with_reducible refine (C2.out _).mono ?_); rintro e w2 ⟨rfl, hb2⟩; have hr2 := below_reads hb2; have hh2 := below_holds hb2; obtain ⟨m2, hs2⟩ := below_grew hb2))
  refine bodyPost_ret (v := .string S3) (by simp (maxDischargeDepth := 4) [results, Tryz.results65, go_sem, *]) rfl ?_
  refine ⟨rfl, ?_⟩
  repeat (first | with_reducible assumption | with_reducible exact Below.refl _ _ | with_reducible refine Below.drew ?_ | with_reducible refine below_drewN ?_ _ | with_reducible refine bw_alloc ?_ _ | (with_reducible refine bw_set ?_ ?_ _; focus (dsimp only; omega)) | (with_reducible apply bw_behind; with_reducible assumption))

set_option maxRecDepth 100000 in
set_option maxHeartbeats 2000000 in
theorem mark_any (n : Nat) (hn : n ≤ 10000) (w : World) (hG : G w) : Calls Tryz.prog 28 #[.int .i64 (n : Int)] w (Makes (.string (str (109 :: itoa (n : Int)))) w) := by
  have C1 : Hid (∀ W, G W → Calls Tryz.prog 64 #[.int .i64 (n : Int)] W (Makes (.string (str (itoa (n : Int)))) W)) := hide (itoa_any _ (by unfold rng; omega))
  have hadd : ∀ W, (Op.stringOp .add ⟨#[109]⟩ (str (itoa (n : Int)))).run Tryz.prog W = .ok (.string (str (109 :: itoa (n : Int)))) W := text_add (a := [109]) (b := itoa (n : Int)) (by have := itoa_len (n := (n : Int)) (by omega); simp; omega)
  generalize str (itoa (n : Int)) = S1 at *
  generalize str (109 :: itoa (n : Int)) = S2 at *
  have SS := cell_same
  have LB' := ltB_add
  have LS := ltB_self
  have LA' := alloc_reads
  have LH := alloc_holds
  go_enter Tryz.func28, Tryz.ntmps28
  go_wp2_with (first | (go_at_call 64; (first | ((with_reducible refine (C1.out _ ?_).mono ?_); (focus (refine hG.behind ?_; repeat (first | with_reducible assumption | with_reducible exact Below.refl _ _ | with_reducible refine Below.drew ?_ | with_reducible refine below_drewN ?_ _ | with_reducible refine bw_alloc ?_ _ | (with_reducible refine bw_set ?_ ?_ _; focus (dsimp only; omega)) | (with_reducible apply bw_behind; with_reducible assumption)))))); rintro e w1 ⟨rfl, hb1⟩; have hr1 := below_reads hb1; have hh1 := below_holds hb1; obtain ⟨m1, hs1⟩ := below_grew hb1))
  refine bodyPost_ret (v := .string S2) (by simp (maxDischargeDepth := 4) [results, Tryz.results28, go_sem, *]) rfl ?_
  refine ⟨rfl, ?_⟩
  repeat (first | with_reducible assumption | with_reducible exact Below.refl _ _ | with_reducible refine Below.drew ?_ | with_reducible refine below_drewN ?_ _ | with_reducible refine bw_alloc ?_ _ | (with_reducible refine bw_set ?_ ?_ _; focus (dsimp only; omega)) | (with_reducible apply bw_behind; with_reducible assumption))

end Go.Proofs.YtlommbeokbicjaaGreatDoor
