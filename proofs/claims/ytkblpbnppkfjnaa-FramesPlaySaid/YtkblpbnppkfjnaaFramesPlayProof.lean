/-
  The statement FramesPlay: under any steps a pool has the document's numbers, and tells its errors.
-/
import Derived.Test.YtkblpbnppkfjnaaFrm5
import Derived.Test.YtkblpbnppkfjnaaFrmMath2
import Derived.Test.YtkblpbnppkfjnaaFrmRef
import Derived.Test.YtkblpbnppkfjnaaFrmArg
namespace Go.Proofs.Ytkblpbnppkfjnaa.FramesPlay
open Go.RowKit Words ScaleMath FrmMath

theorem row_out {N b : Nat} {W W' : World} {l : List Value} (ho : OutB N W W') (hne : b ≠ N) (h : Row W b l) : Row W' b l := fun i v hv => ob_cell ho hne (h i v hv)
theorem all_zero : allW ((0 : Nat) : Int) = 0#64 := by decide
theorem behind_at {f : FuncId} {args : Array Value} {v : Value} {w0 : World} (c : ∀ y : Behind w0.heap.size w0, Calls Try.prog f args y.world (Makes v y.world)) (y : Behind w0.heap.size w0) :
    Calls Try.prog f args y.world fun e w'' => e = .returned v ∧ ∃ z : Behind w0.heap.size w0, w'' = z.world :=
  (c y).mono fun _ _ ⟨he, hb⟩ => ⟨he, ⟨_, y.below.trans (hb.mono y.below.size)⟩, rfl⟩
/-- A slice's cells hold these numbers. -/
def Has (W : World) (s : Option Addr) (L : List Int) : Prop := ∀ j (y : Int), L[j]? = some y → ∃ g, s = some ⟨g, 0, none⟩ ∧ W.cell? ⟨g, j, none⟩ = some (.int .i64 y)
theorem has_be {W W' : World} {s : Option Addr} {L : List Int} (hb : Below W.heap.size W W') (h : Has W s L) : Has W' s L := fun j y hj => by
  obtain ⟨g, h1, h2⟩ := h j y hj
  exact ⟨g, h1, c_be hb h2⟩
/-- The numbers below n of a pool that has no others. -/
theorem ones_cut (n : Nat) (hn : n ≤ 64) (T : BitVec 64) (hs : T &&& allW (n : Int) = T) : onesL T = onesTo T n := by
  have h0 : ∀ i : Nat, n ≤ i → i < 64 → T.getLsbD i = false := fun i h1 h2 => by
    cases h : T.getLsbD i with
    | false => rfl
    | true =>
      have := (sub_iff _ _).1 hs i h2 h
      rw [all_bitN n hn] at this
      simp at this
      omega
  have key : ∀ d : Nat, n + d ≤ 64 → onesTo T (n + d) = onesTo T n := by
    intro d
    induction d with
    | zero => intro _; rfl
    | succ d ih =>
      intro hd
      rw [← Nat.add_assoc, onesTo_miss T (n + d) (h0 _ (by omega) (by omega)), ih (by omega)]
  have := key (64 - n) (by omega)
  rw [show n + (64 - n) = 64 by omega] at this
  exact this

set_option maxRecDepth 100000 in
set_option maxHeartbeats 4000000 in
theorem walk_bad (n : Int) (h : n < 1 ∨ 64 < n) (v : Value) (w : World) : Calls Try.prog 3 #[.int .i64 n, v] w fun e W' => e = .returned (.bool true) ∧ Below w.heap.size w W' := by
  have hA2 := all_ne 2 (by omega) (by omega)
  have C1 := hide (fun W => new_bad n h W)
  have C2 := hide (fun W => rnew_bad n h W)
  have hc3 := fun W => new_at 2 (by omega) (by omega) W
  obtain ⟨⟨l0, hl0⟩, hs0, hn0⟩ := all_step 2 0 (by omega) (by omega)
  obtain ⟨⟨l1, hl1⟩, hs1, hn1⟩ := all_step 2 1 (by omega) (by omega)
  have hct0 := fun b W hp => take_room b (allW ((2 : Nat) : Int)) (allW ((0 : Nat) : Int)) hA2 hn0 0 l0 hl0 W hp
  have hct1 := fun b W hp => take_room b (allW ((2 : Nat) : Int)) (allW ((1 : Nat) : Int)) hA2 hn1 1 l1 hl1 W hp
  rw [hs0] at hct0
  rw [show (2 : Int) = ((2 : Nat) : Int) from rfl, ← all_zero] at hc3
  simp only [Nat.zero_add] at hct0
  have C3 := hide hc3
  have C4 := hide hct0
  have C5 := hide hct1
  clear hc3 hct0 hct1 hl0 hs0 hn0 hl1 hs1 hn1 h hA2
  go_enter Try.func3, Try.ntmps3
  go_upto_region 4 with (first | (go_at_call 6; refine (C1.out _).mono ?_; rintro e w1 ⟨rfl, hb1⟩) | (go_at_call 7; refine (C2.out _).mono ?_; rintro e w2 ⟨rfl, hb2⟩))
  go_upto_region 8 with (first | (go_at_call 6; refine (C3.out _).mono ?_; rintro e w3 ⟨b, rfl, hb3, hp3, hB3⟩) | (go_at_call 8; refine (C4.out b _ hp3).mono ?_; rintro e w4 ⟨rfl, hp4, ho4⟩))
  go_wp2_with (first | (go_at_call 8; refine (C5.out b _ hp4).mono ?_; rintro e w5 ⟨rfl, hp5, ho5⟩))
  go_ret
  have hB2 : Below w.heap.size w w2 := hb1.trans (hb2.mono hb1.size)
  have hB3' : Below w.heap.size w w3 := hB2.trans (hB3.mono hB2.size)
  exact ⟨rfl, ho5.below (ho4.below hB3' (by have := hB2.size; omega) hB3'.size) (by have := hB2.size; omega) (Nat.le_trans hB3'.size ho4.size)⟩

set_option maxRecDepth 100000 in
set_option maxHeartbeats 16000000 in
theorem walk_n (N : Nat) (hN1 : 1 ≤ N) (hN2 : N ≤ 64) (l : List Int) (sa : Option Addr) (cap : Nat) (w : World)
    (hl : ∀ k x, l[k]? = some x → ∃ b off, sa = some ⟨b, off, none⟩ ∧ w.cell? ⟨b, off + k, none⟩ = some (.int .i64 x)) :
    Calls Try.prog 3 #[.int .i64 (N : Int), .slice sa l.length cap] w fun e W' => e = .returned (.bool true) ∧ Below w.heap.size w W' := by
  have CN := hide (fun W => new_at (N : Int) (by omega) (by omega) W)
  have CR := hide (fun W => rnew_at N hN1 hN2 W)
  have hA := all_ne (N : Int) (by omega) (by omega)
  have SB := hide (fun i (hi : i < 64) => all_bitN N hN2 i)
  have OC := hide (fun T hs => ones_cut N hN2 T hs)
  have HH := hide (fun x => has_all (N : Int) (by omega) (by omega) x)
  have HCA := hide (count_all (N : Int) (by omega) (by omega))
  have HL := hide hl
  have HA := hide hA
  clear hl hA
  generalize allW (N : Int) = A at *
  go_enter Try.func3, Try.ntmps3
  go_wp2_with (first | (go_at_call 6; refine (CN.out _).mono ?_; rintro e w1 ⟨b, rfl, hbl, hp0, hB0⟩) | (go_at_call 7; refine (CR.out _).mono ?_; rintro e w2 ⟨v2, rfl, hd2, hB2⟩; obtain ⟨g2, c2, rfl, hg2, hgl2, hr2⟩ := hd2; have HR2 := hide hr2; clear hr2))
  have hp2 := pool_be hB2 hp0
  have hB02 : Below w.heap.size w w2 := hB0.trans (hB2.mono hB0.size)
  have hbg : b < w1.heap.size := hp0.lt
  go_loopw [7, 15] (fun rv i wr => ∃ (j : Nat) (T : BitVec 64) (g c : Nat), j ≤ 200 ∧ j ≤ l.length ∧ rv = .slice (some ⟨g, 0, none⟩) N c ∧ i = .int .i64 j ∧ PoolAt wr b A T ∧ b < g ∧ g < wr.heap.size ∧ Row wr g (BL N T) ∧ T &&& A = T ∧ Below w.heap.size w wr) (fun _ i _ => 200 - (intOf i).toNat)
  case atStart => exact ⟨0, 0#64, g2, c2, by omega, by omega, rfl, rfl, hp2, by omega, hgl2, HR2.out, by simp, hB02⟩
  case round =>
    obtain ⟨j, T, g, c, hj1, hj2, rfl, rfl, hp, hbg2, hgl, hr, hsub, hbel⟩ := hrel
    have hj0 : (0 : Int) ≤ (j : Int) := by omega
    have hblt := hp.lt
    by_cases h3 : j < l.length ∧ j < 200
    · obtain ⟨h4, h5⟩ := h3
      obtain ⟨x, hx⟩ : ∃ x, l[j]? = some x := ⟨l[j], by simp [h4]⟩
      obtain ⟨b0, off, rfl, hc⟩ := HL.out j x hx
      have hb0l := World.block_lt_of_cell? _ _ hc
      have hcl := (hbel.cell (p := ⟨b0, off + j, none⟩) hb0l).trans hc
      have HC := hide hc
      have h4' : (j : Int) < (l.length : Int) := by omega
      have h5' : (j : Int) < 200 := by omega
      have HR := hide hr
      have HP := hide hp
      have HS := hide hsub
      clear hx hc hr hp hsub
      by_cases hx0 : x < 0
      · have hx1 : ¬ (0 : Int) ≤ x := by omega
        have hhx : hasB A x = false := by rw [HH.out x, decide_eq_false hx1]; rfl
        by_cases hf : T = A
        · have CT := hide (take_full b A HA.out wr (by have := HP.out; rwa [hf] at this))
          have CRT : Hid (∀ W, Row W g (BL N T) → Calls Try.prog 9 #[.slice (some ⟨g, 0, none⟩) N c] W (Makes (.tuple #[.slice (some ⟨g, 0, none⟩) N c, .int .i64 0, .int .i64 15]) W)) := hide (fun W h => rtake_full g c N T hN2 (fun i hi => by rw [hf, SB.out i (by omega)]; simpa using hi) W h)
          clear hf
          go_upto_region 22 with (first | (go_at_call 8; refine CT.out.mono ?_; rintro e w3 ⟨rfl, hb3⟩) | (go_at_call 9; refine (CRT.out _ (k_be hb3 HR.out)).mono ?_; rintro e w4 ⟨rfl, hb4⟩))
          have hpX := pool_be hb4 (pool_be hb3 HP.out)
          have hrX := k_be hb4 (k_be hb3 HR.out)
          have hBX : Below w.heap.size w w4 := (hbel.trans (hb3.mono hbel.size)).trans (hb4.mono (Nat.le_trans hbel.size hb3.size))
          have hglX : g < w4.heap.size := Nat.lt_of_lt_of_le hgl (Nat.le_trans hb3.size hb4.size)
          have hbgX := hbg2
          have hsX := HS.out
          have htx : takenB A T x = false := by unfold takenB; rw [hhx]; rfl
          have hd1 : decide (0 ≤ x) = false := decide_eq_false (by omega)
          have CA := hide (fun W h => all_at b A (T) HA.out hsX W h)
          have CRA := hide (fun W h => rall_at g c N (T) hN2 (OC.out _ hsX) W h)
          obtain ⟨X, hX⟩ : ∃ X, T = X := ⟨_, rfl⟩
          rw [hX] at CA CRA hpX hrX hsX htx
          have HSX := hide hsX
          clear hX hsX
          go_upto_region 23 with (first | (go_at_call 12; refine (CA.out _ hpX).mono ?_; rintro e w5 ⟨v5, rfl, hi5, hb5⟩; obtain ⟨s5, c5, rfl, hc5, hx5⟩ := hi5.form) | (go_at_call 13; refine (CRA.out _ (k_be hb5 hrX)).mono ?_; rintro e w6 ⟨v6, rfl, hi6, hb6⟩; obtain ⟨s6, c6, rfl, hc6, hx6⟩ := hi6.form))
          have h5 : Has w6 s5 (onesL X) := has_be hb6 (fun j y hj => by obtain ⟨g, h1, _, _, h4⟩ := hx5 j y hj; exact ⟨g, h1, h4⟩)
          have h6 : Has w6 s6 (onesL X) := fun j y hj => by obtain ⟨g, h1, _, _, h4⟩ := hx6 j y hj; exact ⟨g, h1, h4⟩
          have hp6 := pool_be hb6 (pool_be hb5 hpX)
          have hr6 := k_be hb6 (k_be hb5 hrX)
          have hB6 : Below w.heap.size w w6 := (hBX.trans (hb5.mono hBX.size)).trans (hb6.mono (Nat.le_trans hBX.size hb5.size))
          have hgl6 : g < w6.heap.size := Nat.lt_of_lt_of_le hglX (Nat.le_trans hb5.size hb6.size)
          have hcl6 := (hB6.cell (p := ⟨b0, off + j, none⟩) hb0l).trans HC.out
          have CFB : Hid (∀ y : Behind w6.heap.size w6, Calls Try.prog 14 #[.pointer (some ⟨b, 0, none⟩)] y.world (Makes (.int .i64 ((onesL (freeW A X)).length : Int)) y.world)) := hide (fun y => free_at b A X HA.out y.world (pool_be y.below hp6))
          have CTB : Hid (∀ y : Behind w6.heap.size w6, Calls Try.prog 15 #[.pointer (some ⟨b, 0, none⟩), .int .i64 x] y.world (Makes (.bool false) y.world)) := hide (fun y => by
            have := taken_at b A X HA.out x y.world (pool_be y.below hp6)
            rw [htx] at this
            exact this.mono fun _ _ h => quiet_makes h)
          have hcf := count_free A X HSX.out
          have hca := HCA.out
          have hwr : IntKind.i64.wrap ((N : Int) - ((onesL X).length : Int)) = ((onesL (freeW A X)).length : Int) := by rw [IntKind.wrap_i64]; omega
          have HP6 := hide hp6
          have HR6 := hide hr6
          have H5 := hide h5
          have H6 := hide h6
          have yl := behind_cell0 hcl6
          have hsome := Behind.any w6
          have hK64 : (onesL X).length ≤ 64 := onesTo_length X 64
          generalize hK : (onesL X).length = K at *
          have HK := hide hK
          generalize ((onesL (freeW A X)).length : Int) = F at *
          clear hp6 hr6 h5 h6 hcf hca hx5 hx6 hcl6 htx hpX hrX hK hc5 hc6
          refine wp_region_behind w6 (by kernel_rfl) (by kernel_rfl) (Below.refl _ _) ?_
          repeat (go_big_quiet_step (first | (go_at_call 14; with_reducible exact behind_at CFB.out _) | (go_at_call 15; with_reducible exact behind_at CTB.out _)))
          refine wpQuiet_nil ?_
          rintro _ ⟨y, rfl⟩
          have hp7 := pool_be y.below HP6.out
          have hr7 := k_be y.below HR6.out
          have h57 := has_be y.below H5.out
          have h67 := has_be y.below H6.out
          have hB7 : Below w.heap.size w y.world := hB6.trans (y.below.mono hB6.size)
          have hgl7 := Nat.lt_of_lt_of_le hgl6 y.below.size
          obtain ⟨w7, hw7⟩ : ∃ W, W = y.world := ⟨_, rfl⟩
          rw [← hw7] at hp7 hr7 h57 h67 hB7 hgl7 ⊢
          have HP7 := hide hp7
          have HR7 := hide hr7
          have H57 := hide h57
          have H67 := hide h67
          clear hw7 y yl hsome hp7 hr7 h57 h67 CFB CTB HP6 HR6 H5 H6
          go_wp2
          go_loopw [25] (fun i wz => ∃ m : Nat, m ≤ K ∧ i = .int .i64 m ∧ Below w7.heap.size w7 wz) (fun i _ => K - (intOf i).toNat)
          case atStart => exact ⟨0, by omega, rfl, Below.refl _ _⟩
          case round wz _ =>
            obtain ⟨m, hm, rfl, hb8⟩ := hrel
            have hm0 : (0 : Int) ≤ (m : Int) := by omega
            by_cases hmK : m < K
            · obtain ⟨ym, hym⟩ : ∃ ym, (onesL X)[m]? = some ym := ⟨(onesL X)[m]'(by rw [HK.out]; exact hmK), by simp [HK.out, hmK]⟩
              obtain ⟨g5, rfl, hc5⟩ := H57.out m ym hym
              obtain ⟨g6, rfl, hc6⟩ := H67.out m ym hym
              have hc5 := c_be hb8 hc5
              have hc6 := c_be hb8 hc6
              have hmk' : (m : Int) < (K : Int) := by omega
              clear hym
              go_wp2
              go_quiet (fail)
              go_wp2
              go_roundw
              case rel => exact ⟨m + 1, by omega, by go_num, by repeat (first | with_reducible assumption | with_reducible exact Below.refl _ _ | with_reducible refine Below.drew ?_ | with_reducible refine below_drewN ?_ _ | with_reducible refine bw_alloc ?_ _ | (with_reducible refine bw_set ?_ ?_ _; focus (dsimp only; omega)) | (with_reducible apply bw_behind; with_reducible assumption))⟩
              case measure => simp [intOf]; omega
            · obtain rfl : m = K := by omega
              go_wp2
              go_roundw
              case rel => exact ⟨j + 1, X, g, c, by omega, by omega, rfl, by go_num, pool_be hb8 HP7.out, hbgX, Nat.lt_of_lt_of_le hgl7 hb8.size, k_be hb8 HR7.out, HSX.out, hB7.trans (hb8.mono hB7.size)⟩
              case measure => simp [intOf]; omega
        · obtain ⟨k, hk64, hak, htk, hlowk, l', hl'⟩ := room_low A T HS.out hf
          have hkN : k < N := by
            have := SB.out k hk64
            rw [hak] at this
            simpa using this.symm
          have CT := hide (take_room b A T HA.out hf k l' hl' wr HP.out)
          have CRT := hide (fun W hg h => rtake_room g c N T hN1 hN2 k hkN htk (fun i hi => hlowk i hi (by rw [SB.out i (by omega)]; simp; omega)) W hg h)
          have hsX := sub_set A T HS.out k hak
          have hhs := hide hf
          clear hl' hlowk hak htk hf
          go_upto_region 22 with (first | (go_at_call 8; refine CT.out.mono ?_; rintro e w3 ⟨rfl, hp3, ho3⟩) | (go_at_call 9; refine (CRT.out _ (Nat.lt_of_lt_of_le hgl ho3.size) (row_out ho3 (by omega) HR.out)).mono ?_; rintro e w4 ⟨v4, rfl, hd4, hb4⟩; obtain ⟨g4, c4, rfl, hg4, hgl4, hr4⟩ := hd4; have HR4 := hide hr4; clear hr4))
          have hpX := pool_be hb4 hp3
          have hrX := HR4.out
          have hB3 : Below w.heap.size w w3 := ho3.below hbel hbl hbel.size
          have hBX : Below w.heap.size w w4 := hB3.trans (hb4.mono hB3.size)
          have hglX := hgl4
          have hbgX : b < g4 := by have := ho3.size; omega
          have htx : takenB A (setW T (k : Int)) x = false := by unfold takenB; rw [hhx]; rfl
          have hd1 : decide (0 ≤ x) = false := decide_eq_false (by omega)
          have CA := hide (fun W h => all_at b A (setW T (k : Int)) HA.out hsX W h)
          have CRA := hide (fun W h => rall_at g4 c4 N (setW T (k : Int)) hN2 (OC.out _ hsX) W h)
          obtain ⟨X, hX⟩ : ∃ X, setW T (k : Int) = X := ⟨_, rfl⟩
          rw [hX] at CA CRA hpX hrX hsX htx
          have HSX := hide hsX
          clear hX hsX
          go_upto_region 23 with (first | (go_at_call 12; refine (CA.out _ hpX).mono ?_; rintro e w5 ⟨v5, rfl, hi5, hb5⟩; obtain ⟨s5, c5, rfl, hc5, hx5⟩ := hi5.form) | (go_at_call 13; refine (CRA.out _ (k_be hb5 hrX)).mono ?_; rintro e w6 ⟨v6, rfl, hi6, hb6⟩; obtain ⟨s6, c6, rfl, hc6, hx6⟩ := hi6.form))
          have h5 : Has w6 s5 (onesL X) := has_be hb6 (fun j y hj => by obtain ⟨g, h1, _, _, h4⟩ := hx5 j y hj; exact ⟨g, h1, h4⟩)
          have h6 : Has w6 s6 (onesL X) := fun j y hj => by obtain ⟨g, h1, _, _, h4⟩ := hx6 j y hj; exact ⟨g, h1, h4⟩
          have hp6 := pool_be hb6 (pool_be hb5 hpX)
          have hr6 := k_be hb6 (k_be hb5 hrX)
          have hB6 : Below w.heap.size w w6 := (hBX.trans (hb5.mono hBX.size)).trans (hb6.mono (Nat.le_trans hBX.size hb5.size))
          have hgl6 : g4 < w6.heap.size := Nat.lt_of_lt_of_le hglX (Nat.le_trans hb5.size hb6.size)
          have hcl6 := (hB6.cell (p := ⟨b0, off + j, none⟩) hb0l).trans HC.out
          have CFB : Hid (∀ y : Behind w6.heap.size w6, Calls Try.prog 14 #[.pointer (some ⟨b, 0, none⟩)] y.world (Makes (.int .i64 ((onesL (freeW A X)).length : Int)) y.world)) := hide (fun y => free_at b A X HA.out y.world (pool_be y.below hp6))
          have CTB : Hid (∀ y : Behind w6.heap.size w6, Calls Try.prog 15 #[.pointer (some ⟨b, 0, none⟩), .int .i64 x] y.world (Makes (.bool false) y.world)) := hide (fun y => by
            have := taken_at b A X HA.out x y.world (pool_be y.below hp6)
            rw [htx] at this
            exact this.mono fun _ _ h => quiet_makes h)
          have hcf := count_free A X HSX.out
          have hca := HCA.out
          have hwr : IntKind.i64.wrap ((N : Int) - ((onesL X).length : Int)) = ((onesL (freeW A X)).length : Int) := by rw [IntKind.wrap_i64]; omega
          have HP6 := hide hp6
          have HR6 := hide hr6
          have H5 := hide h5
          have H6 := hide h6
          have yl := behind_cell0 hcl6
          have hsome := Behind.any w6
          have hK64 : (onesL X).length ≤ 64 := onesTo_length X 64
          generalize hK : (onesL X).length = K at *
          have HK := hide hK
          generalize ((onesL (freeW A X)).length : Int) = F at *
          clear hp6 hr6 h5 h6 hcf hca hx5 hx6 hcl6 htx hpX hrX hK hc5 hc6
          refine wp_region_behind w6 (by kernel_rfl) (by kernel_rfl) (Below.refl _ _) ?_
          repeat (go_big_quiet_step (first | (go_at_call 14; with_reducible exact behind_at CFB.out _) | (go_at_call 15; with_reducible exact behind_at CTB.out _)))
          refine wpQuiet_nil ?_
          rintro _ ⟨y, rfl⟩
          have hp7 := pool_be y.below HP6.out
          have hr7 := k_be y.below HR6.out
          have h57 := has_be y.below H5.out
          have h67 := has_be y.below H6.out
          have hB7 : Below w.heap.size w y.world := hB6.trans (y.below.mono hB6.size)
          have hgl7 := Nat.lt_of_lt_of_le hgl6 y.below.size
          obtain ⟨w7, hw7⟩ : ∃ W, W = y.world := ⟨_, rfl⟩
          rw [← hw7] at hp7 hr7 h57 h67 hB7 hgl7 ⊢
          have HP7 := hide hp7
          have HR7 := hide hr7
          have H57 := hide h57
          have H67 := hide h67
          clear hw7 y yl hsome hp7 hr7 h57 h67 CFB CTB HP6 HR6 H5 H6
          go_wp2
          go_loopw [25] (fun i wz => ∃ m : Nat, m ≤ K ∧ i = .int .i64 m ∧ Below w7.heap.size w7 wz) (fun i _ => K - (intOf i).toNat)
          case atStart => exact ⟨0, by omega, rfl, Below.refl _ _⟩
          case round wz _ =>
            obtain ⟨m, hm, rfl, hb8⟩ := hrel
            have hm0 : (0 : Int) ≤ (m : Int) := by omega
            by_cases hmK : m < K
            · obtain ⟨ym, hym⟩ : ∃ ym, (onesL X)[m]? = some ym := ⟨(onesL X)[m]'(by rw [HK.out]; exact hmK), by simp [HK.out, hmK]⟩
              obtain ⟨g5, rfl, hc5⟩ := H57.out m ym hym
              obtain ⟨g6, rfl, hc6⟩ := H67.out m ym hym
              have hc5 := c_be hb8 hc5
              have hc6 := c_be hb8 hc6
              have hmk' : (m : Int) < (K : Int) := by omega
              clear hym
              go_wp2
              go_quiet (fail)
              go_wp2
              go_roundw
              case rel => exact ⟨m + 1, by omega, by go_num, by repeat (first | with_reducible assumption | with_reducible exact Below.refl _ _ | with_reducible refine Below.drew ?_ | with_reducible refine below_drewN ?_ _ | with_reducible refine bw_alloc ?_ _ | (with_reducible refine bw_set ?_ ?_ _; focus (dsimp only; omega)) | (with_reducible apply bw_behind; with_reducible assumption))⟩
              case measure => simp [intOf]; omega
            · obtain rfl : m = K := by omega
              go_wp2
              go_roundw
              case rel => exact ⟨j + 1, X, g4, c4, by omega, by omega, rfl, by go_num, pool_be hb8 HP7.out, hbgX, Nat.lt_of_lt_of_le hgl7 hb8.size, k_be hb8 HR7.out, HSX.out, hB7.trans (hb8.mono hB7.size)⟩
              case measure => simp [intOf]; omega
      · have hx1 : (0 : Int) ≤ x := by omega
        by_cases hxN : (N : Int) ≤ x
        · have hxN' : ¬ x < (N : Int) := by omega
          have hhx : hasB A x = false := by rw [HH.out x, decide_eq_false hxN']; simp
          have CT := hide (give_hasnt b A T HA.out x hhx wr HP.out)
          have CRT := hide (fun W => rgive_hasnt g c N x (.inr hxN) W)
          have hsX := HS.out
          go_upto_region 22 with (first | (go_at_call 10; refine CT.out.mono ?_; rintro e w3 ⟨rfl, hb3⟩; have hcl3 := c_be hb3 hcl) | (go_at_call 11; refine (CRT.out _).mono ?_; rintro e w4 ⟨rfl, hb4⟩))
          have hpX := pool_be hb4 (pool_be hb3 HP.out)
          have hrX := k_be hb4 (k_be hb3 HR.out)
          have hBX : Below w.heap.size w w4 := (hbel.trans (hb3.mono hbel.size)).trans (hb4.mono (Nat.le_trans hbel.size hb3.size))
          have hglX : g < w4.heap.size := Nat.lt_of_lt_of_le hgl (Nat.le_trans hb3.size hb4.size)
          have hbgX := hbg2
          have htx : takenB A T x = false := by unfold takenB; rw [hhx]; rfl
          have hd1 : decide (0 ≤ x) = true := decide_eq_true (by omega)
          have hd2 : decide (x < (N : Int)) = false := decide_eq_false (by omega)
          have CA := hide (fun W h => all_at b A (T) HA.out hsX W h)
          have CRA := hide (fun W h => rall_at g c N (T) hN2 (OC.out _ hsX) W h)
          obtain ⟨X, hX⟩ : ∃ X, T = X := ⟨_, rfl⟩
          rw [hX] at CA CRA hpX hrX hsX htx
          have HSX := hide hsX
          clear hX hsX
          go_upto_region 23 with (first | (go_at_call 12; refine (CA.out _ hpX).mono ?_; rintro e w5 ⟨v5, rfl, hi5, hb5⟩; obtain ⟨s5, c5, rfl, hc5, hx5⟩ := hi5.form) | (go_at_call 13; refine (CRA.out _ (k_be hb5 hrX)).mono ?_; rintro e w6 ⟨v6, rfl, hi6, hb6⟩; obtain ⟨s6, c6, rfl, hc6, hx6⟩ := hi6.form))
          have h5 : Has w6 s5 (onesL X) := has_be hb6 (fun j y hj => by obtain ⟨g, h1, _, _, h4⟩ := hx5 j y hj; exact ⟨g, h1, h4⟩)
          have h6 : Has w6 s6 (onesL X) := fun j y hj => by obtain ⟨g, h1, _, _, h4⟩ := hx6 j y hj; exact ⟨g, h1, h4⟩
          have hp6 := pool_be hb6 (pool_be hb5 hpX)
          have hr6 := k_be hb6 (k_be hb5 hrX)
          have hB6 : Below w.heap.size w w6 := (hBX.trans (hb5.mono hBX.size)).trans (hb6.mono (Nat.le_trans hBX.size hb5.size))
          have hgl6 : g < w6.heap.size := Nat.lt_of_lt_of_le hglX (Nat.le_trans hb5.size hb6.size)
          have hcl6 := (hB6.cell (p := ⟨b0, off + j, none⟩) hb0l).trans HC.out
          have CFB : Hid (∀ y : Behind w6.heap.size w6, Calls Try.prog 14 #[.pointer (some ⟨b, 0, none⟩)] y.world (Makes (.int .i64 ((onesL (freeW A X)).length : Int)) y.world)) := hide (fun y => free_at b A X HA.out y.world (pool_be y.below hp6))
          have CTB : Hid (∀ y : Behind w6.heap.size w6, Calls Try.prog 15 #[.pointer (some ⟨b, 0, none⟩), .int .i64 x] y.world (Makes (.bool false) y.world)) := hide (fun y => by
            have := taken_at b A X HA.out x y.world (pool_be y.below hp6)
            rw [htx] at this
            exact this.mono fun _ _ h => quiet_makes h)
          have hcf := count_free A X HSX.out
          have hca := HCA.out
          have hwr : IntKind.i64.wrap ((N : Int) - ((onesL X).length : Int)) = ((onesL (freeW A X)).length : Int) := by rw [IntKind.wrap_i64]; omega
          have HP6 := hide hp6
          have HR6 := hide hr6
          have H5 := hide h5
          have H6 := hide h6
          have yl := behind_cell0 hcl6
          have hsome := Behind.any w6
          have hK64 : (onesL X).length ≤ 64 := onesTo_length X 64
          generalize hK : (onesL X).length = K at *
          have HK := hide hK
          generalize ((onesL (freeW A X)).length : Int) = F at *
          clear hp6 hr6 h5 h6 hcf hca hx5 hx6 hcl6 htx hpX hrX hK hc5 hc6
          refine wp_region_behind w6 (by kernel_rfl) (by kernel_rfl) (Below.refl _ _) ?_
          repeat (go_big_quiet_step (first | (go_at_call 14; with_reducible exact behind_at CFB.out _) | (go_at_call 15; with_reducible exact behind_at CTB.out _)))
          refine wpQuiet_nil ?_
          rintro _ ⟨y, rfl⟩
          have hp7 := pool_be y.below HP6.out
          have hr7 := k_be y.below HR6.out
          have h57 := has_be y.below H5.out
          have h67 := has_be y.below H6.out
          have hB7 : Below w.heap.size w y.world := hB6.trans (y.below.mono hB6.size)
          have hgl7 := Nat.lt_of_lt_of_le hgl6 y.below.size
          obtain ⟨w7, hw7⟩ : ∃ W, W = y.world := ⟨_, rfl⟩
          rw [← hw7] at hp7 hr7 h57 h67 hB7 hgl7 ⊢
          have HP7 := hide hp7
          have HR7 := hide hr7
          have H57 := hide h57
          have H67 := hide h67
          clear hw7 y yl hsome hp7 hr7 h57 h67 CFB CTB HP6 HR6 H5 H6
          go_wp2
          go_loopw [25] (fun i wz => ∃ m : Nat, m ≤ K ∧ i = .int .i64 m ∧ Below w7.heap.size w7 wz) (fun i _ => K - (intOf i).toNat)
          case atStart => exact ⟨0, by omega, rfl, Below.refl _ _⟩
          case round wz _ =>
            obtain ⟨m, hm, rfl, hb8⟩ := hrel
            have hm0 : (0 : Int) ≤ (m : Int) := by omega
            by_cases hmK : m < K
            · obtain ⟨ym, hym⟩ : ∃ ym, (onesL X)[m]? = some ym := ⟨(onesL X)[m]'(by rw [HK.out]; exact hmK), by simp [HK.out, hmK]⟩
              obtain ⟨g5, rfl, hc5⟩ := H57.out m ym hym
              obtain ⟨g6, rfl, hc6⟩ := H67.out m ym hym
              have hc5 := c_be hb8 hc5
              have hc6 := c_be hb8 hc6
              have hmk' : (m : Int) < (K : Int) := by omega
              clear hym
              go_wp2
              go_quiet (fail)
              go_wp2
              go_roundw
              case rel => exact ⟨m + 1, by omega, by go_num, by repeat (first | with_reducible assumption | with_reducible exact Below.refl _ _ | with_reducible refine Below.drew ?_ | with_reducible refine below_drewN ?_ _ | with_reducible refine bw_alloc ?_ _ | (with_reducible refine bw_set ?_ ?_ _; focus (dsimp only; omega)) | (with_reducible apply bw_behind; with_reducible assumption))⟩
              case measure => simp [intOf]; omega
            · obtain rfl : m = K := by omega
              go_wp2
              go_roundw
              case rel => exact ⟨j + 1, X, g, c, by omega, by omega, rfl, by go_num, pool_be hb8 HP7.out, hbgX, Nat.lt_of_lt_of_le hgl7 hb8.size, k_be hb8 HR7.out, HSX.out, hB7.trans (hb8.mono hB7.size)⟩
              case measure => simp [intOf]; omega
        · obtain ⟨xn, rfl⟩ : ∃ xn : Nat, x = (xn : Int) := ⟨x.toNat, by omega⟩
          have hxn : xn < N := by omega
          have hhx : hasB A (xn : Int) = true := by rw [HH.out, decide_eq_true hx1, decide_eq_true (show (xn : Int) < (N : Int) by omega)]; rfl
          cases hb : T.getLsbD xn with
          | false =>
            have htk : takenB A T (xn : Int) = false := by unfold takenB; rw [Int.toNat_natCast, hb, Bool.and_false]
            have CT := hide (give_free b A T HA.out (xn : Int) hhx htk wr HP.out)
            have CRT := hide (fun W h => rgive_free g c N T xn hxn hb W h)
            have hsX := HS.out
            have hxf := hb
            have htx := htk
            clear hhx htk hb
            go_upto_region 22 with (first | (go_at_call 10; refine CT.out.mono ?_; rintro e w3 ⟨rfl, hb3⟩; have hcl3 := c_be hb3 hcl) | (go_at_call 11; refine (CRT.out _ (k_be hb3 HR.out)).mono ?_; rintro e w4 ⟨rfl, hb4⟩))
            have hpX := pool_be hb4 (pool_be hb3 HP.out)
            have hrX := k_be hb4 (k_be hb3 HR.out)
            have hBX : Below w.heap.size w w4 := (hbel.trans (hb3.mono hbel.size)).trans (hb4.mono (Nat.le_trans hbel.size hb3.size))
            have hglX : g < w4.heap.size := Nat.lt_of_lt_of_le hgl (Nat.le_trans hb3.size hb4.size)
            have hbgX := hbg2
            have hd1 : decide (0 ≤ (xn : Int)) = true := decide_eq_true (by omega)
            have hd2 : decide ((xn : Int) < (N : Int)) = true := decide_eq_true (by omega)
            have CA := hide (fun W h => all_at b A (T) HA.out hsX W h)
            have CRA := hide (fun W h => rall_at g c N (T) hN2 (OC.out _ hsX) W h)
            obtain ⟨X, hX⟩ : ∃ X, T = X := ⟨_, rfl⟩
            rw [hX] at CA CRA hpX hrX hsX htx
            rw [hX] at hxf
            have HSX := hide hsX
            clear hX hsX
            go_upto_region 23 with (first | (go_at_call 12; refine (CA.out _ hpX).mono ?_; rintro e w5 ⟨v5, rfl, hi5, hb5⟩; obtain ⟨s5, c5, rfl, hc5, hx5⟩ := hi5.form) | (go_at_call 13; refine (CRA.out _ (k_be hb5 hrX)).mono ?_; rintro e w6 ⟨v6, rfl, hi6, hb6⟩; obtain ⟨s6, c6, rfl, hc6, hx6⟩ := hi6.form))
            have h5 : Has w6 s5 (onesL X) := has_be hb6 (fun j y hj => by obtain ⟨g, h1, _, _, h4⟩ := hx5 j y hj; exact ⟨g, h1, h4⟩)
            have h6 : Has w6 s6 (onesL X) := fun j y hj => by obtain ⟨g, h1, _, _, h4⟩ := hx6 j y hj; exact ⟨g, h1, h4⟩
            have hp6 := pool_be hb6 (pool_be hb5 hpX)
            have hr6 := k_be hb6 (k_be hb5 hrX)
            have hB6 : Below w.heap.size w w6 := (hBX.trans (hb5.mono hBX.size)).trans (hb6.mono (Nat.le_trans hBX.size hb5.size))
            have hgl6 : g < w6.heap.size := Nat.lt_of_lt_of_le hglX (Nat.le_trans hb5.size hb6.size)
            have hcl6 := (hB6.cell (p := ⟨b0, off + j, none⟩) hb0l).trans HC.out
            have CFB : Hid (∀ y : Behind w6.heap.size w6, Calls Try.prog 14 #[.pointer (some ⟨b, 0, none⟩)] y.world (Makes (.int .i64 ((onesL (freeW A X)).length : Int)) y.world)) := hide (fun y => free_at b A X HA.out y.world (pool_be y.below hp6))
            have CTB : Hid (∀ y : Behind w6.heap.size w6, Calls Try.prog 15 #[.pointer (some ⟨b, 0, none⟩), .int .i64 (xn : Int)] y.world (Makes (.bool false) y.world)) := hide (fun y => by
              have := taken_at b A X HA.out (xn : Int) y.world (pool_be y.below hp6)
              rw [htx] at this
              exact this.mono fun _ _ h => quiet_makes h)
            have hcf := count_free A X HSX.out
            have hca := HCA.out
            have hwr : IntKind.i64.wrap ((N : Int) - ((onesL X).length : Int)) = ((onesL (freeW A X)).length : Int) := by rw [IntKind.wrap_i64]; omega
            have hrc := hr6 xn _ (BL_get N X xn hxn)
            rw [hxf] at hrc
            have yr := behind_cell0 hrc
            have hxn' : (xn : Int) < (N : Int) := by omega
            have hxn0 : (0 : Int) ≤ (xn : Int) := by omega
            clear hrc hxf
            have HP6 := hide hp6
            have HR6 := hide hr6
            have H5 := hide h5
            have H6 := hide h6
            have yl := behind_cell0 hcl6
            have hsome := Behind.any w6
            have hK64 : (onesL X).length ≤ 64 := onesTo_length X 64
            generalize hK : (onesL X).length = K at *
            have HK := hide hK
            generalize ((onesL (freeW A X)).length : Int) = F at *
            clear hp6 hr6 h5 h6 hcf hca hx5 hx6 hcl6 htx hpX hrX hK hc5 hc6
            refine wp_region_behind w6 (by kernel_rfl) (by kernel_rfl) (Below.refl _ _) ?_
            repeat (go_big_quiet_step (first | (go_at_call 14; with_reducible exact behind_at CFB.out _) | (go_at_call 15; with_reducible exact behind_at CTB.out _)))
            refine wpQuiet_nil ?_
            rintro _ ⟨y, rfl⟩
            have hp7 := pool_be y.below HP6.out
            have hr7 := k_be y.below HR6.out
            have h57 := has_be y.below H5.out
            have h67 := has_be y.below H6.out
            have hB7 : Below w.heap.size w y.world := hB6.trans (y.below.mono hB6.size)
            have hgl7 := Nat.lt_of_lt_of_le hgl6 y.below.size
            obtain ⟨w7, hw7⟩ : ∃ W, W = y.world := ⟨_, rfl⟩
            rw [← hw7] at hp7 hr7 h57 h67 hB7 hgl7 ⊢
            have HP7 := hide hp7
            have HR7 := hide hr7
            have H57 := hide h57
            have H67 := hide h67
            clear hw7 y yl hsome hp7 hr7 h57 h67 CFB CTB HP6 HR6 H5 H6 yr
            go_wp2
            go_loopw [25] (fun i wz => ∃ m : Nat, m ≤ K ∧ i = .int .i64 m ∧ Below w7.heap.size w7 wz) (fun i _ => K - (intOf i).toNat)
            case atStart => exact ⟨0, by omega, rfl, Below.refl _ _⟩
            case round wz _ =>
              obtain ⟨m, hm, rfl, hb8⟩ := hrel
              have hm0 : (0 : Int) ≤ (m : Int) := by omega
              by_cases hmK : m < K
              · obtain ⟨ym, hym⟩ : ∃ ym, (onesL X)[m]? = some ym := ⟨(onesL X)[m]'(by rw [HK.out]; exact hmK), by simp [HK.out, hmK]⟩
                obtain ⟨g5, rfl, hc5⟩ := H57.out m ym hym
                obtain ⟨g6, rfl, hc6⟩ := H67.out m ym hym
                have hc5 := c_be hb8 hc5
                have hc6 := c_be hb8 hc6
                have hmk' : (m : Int) < (K : Int) := by omega
                clear hym
                go_wp2
                go_quiet (fail)
                go_wp2
                go_roundw
                case rel => exact ⟨m + 1, by omega, by go_num, by repeat (first | with_reducible assumption | with_reducible exact Below.refl _ _ | with_reducible refine Below.drew ?_ | with_reducible refine below_drewN ?_ _ | with_reducible refine bw_alloc ?_ _ | (with_reducible refine bw_set ?_ ?_ _; focus (dsimp only; omega)) | (with_reducible apply bw_behind; with_reducible assumption))⟩
                case measure => simp [intOf]; omega
              · obtain rfl : m = K := by omega
                go_wp2
                go_roundw
                case rel => exact ⟨j + 1, X, g, c, by omega, by omega, rfl, by go_num, pool_be hb8 HP7.out, hbgX, Nat.lt_of_lt_of_le hgl7 hb8.size, k_be hb8 HR7.out, HSX.out, hB7.trans (hb8.mono hB7.size)⟩
                case measure => simp [intOf]; omega
          | true =>
            have htk : takenB A T (xn : Int) = true := by unfold takenB; rw [Int.toNat_natCast, hb, hhx]; rfl
            have CT := hide (give_yes b A T HA.out (xn : Int) hhx htk wr HP.out)
            have CRT := hide (fun W hg h => rgive_yes g c N T hN1 hN2 xn hxn hb W hg h)
            have hsX := sub_clr A T HS.out (xn : Int)
            have hxf : (clrW T (xn : Int)).getLsbD xn = false := by rw [clr_bit _ _ _ (by omega), Int.toNat_natCast]; simp
            have htx : takenB A (clrW T (xn : Int)) (xn : Int) = false := by unfold takenB; rw [Int.toNat_natCast, hxf, Bool.and_false]
            clear hhx htk hb
            go_upto_region 22 with (first | (go_at_call 10; refine CT.out.mono ?_; rintro e w3 ⟨rfl, hp3, ho3⟩; have hcl3 := ob_cell ho3 (show b0 ≠ b by omega) hcl) | (go_at_call 11; refine (CRT.out _ (Nat.lt_of_lt_of_le hgl ho3.size) (row_out ho3 (by omega) HR.out)).mono ?_; rintro e w4 ⟨v4, rfl, hd4, hb4⟩; obtain ⟨g4, c4, rfl, hg4, hgl4, hr4⟩ := hd4; have HR4 := hide hr4; clear hr4))
            have hpX := pool_be hb4 hp3
            have hrX := HR4.out
            have hB3 : Below w.heap.size w w3 := ho3.below hbel hbl hbel.size
            have hBX : Below w.heap.size w w4 := hB3.trans (hb4.mono hB3.size)
            have hglX := hgl4
            have hbgX : b < g4 := by have := ho3.size; omega
            have hd1 : decide (0 ≤ (xn : Int)) = true := decide_eq_true (by omega)
            have hd2 : decide ((xn : Int) < (N : Int)) = true := decide_eq_true (by omega)
            have CA := hide (fun W h => all_at b A (clrW T (xn : Int)) HA.out hsX W h)
            have CRA := hide (fun W h => rall_at g4 c4 N (clrW T (xn : Int)) hN2 (OC.out _ hsX) W h)
            obtain ⟨X, hX⟩ : ∃ X, clrW T (xn : Int) = X := ⟨_, rfl⟩
            rw [hX] at CA CRA hpX hrX hsX htx
            rw [hX] at hxf
            have HSX := hide hsX
            clear hX hsX
            go_upto_region 23 with (first | (go_at_call 12; refine (CA.out _ hpX).mono ?_; rintro e w5 ⟨v5, rfl, hi5, hb5⟩; obtain ⟨s5, c5, rfl, hc5, hx5⟩ := hi5.form) | (go_at_call 13; refine (CRA.out _ (k_be hb5 hrX)).mono ?_; rintro e w6 ⟨v6, rfl, hi6, hb6⟩; obtain ⟨s6, c6, rfl, hc6, hx6⟩ := hi6.form))
            have h5 : Has w6 s5 (onesL X) := has_be hb6 (fun j y hj => by obtain ⟨g, h1, _, _, h4⟩ := hx5 j y hj; exact ⟨g, h1, h4⟩)
            have h6 : Has w6 s6 (onesL X) := fun j y hj => by obtain ⟨g, h1, _, _, h4⟩ := hx6 j y hj; exact ⟨g, h1, h4⟩
            have hp6 := pool_be hb6 (pool_be hb5 hpX)
            have hr6 := k_be hb6 (k_be hb5 hrX)
            have hB6 : Below w.heap.size w w6 := (hBX.trans (hb5.mono hBX.size)).trans (hb6.mono (Nat.le_trans hBX.size hb5.size))
            have hgl6 : g4 < w6.heap.size := Nat.lt_of_lt_of_le hglX (Nat.le_trans hb5.size hb6.size)
            have hcl6 := (hB6.cell (p := ⟨b0, off + j, none⟩) hb0l).trans HC.out
            have CFB : Hid (∀ y : Behind w6.heap.size w6, Calls Try.prog 14 #[.pointer (some ⟨b, 0, none⟩)] y.world (Makes (.int .i64 ((onesL (freeW A X)).length : Int)) y.world)) := hide (fun y => free_at b A X HA.out y.world (pool_be y.below hp6))
            have CTB : Hid (∀ y : Behind w6.heap.size w6, Calls Try.prog 15 #[.pointer (some ⟨b, 0, none⟩), .int .i64 (xn : Int)] y.world (Makes (.bool false) y.world)) := hide (fun y => by
              have := taken_at b A X HA.out (xn : Int) y.world (pool_be y.below hp6)
              rw [htx] at this
              exact this.mono fun _ _ h => quiet_makes h)
            have hcf := count_free A X HSX.out
            have hca := HCA.out
            have hwr : IntKind.i64.wrap ((N : Int) - ((onesL X).length : Int)) = ((onesL (freeW A X)).length : Int) := by rw [IntKind.wrap_i64]; omega
            have hrc := hr6 xn _ (BL_get N X xn hxn)
            rw [hxf] at hrc
            have yr := behind_cell0 hrc
            have hxn' : (xn : Int) < (N : Int) := by omega
            have hxn0 : (0 : Int) ≤ (xn : Int) := by omega
            clear hrc hxf
            have HP6 := hide hp6
            have HR6 := hide hr6
            have H5 := hide h5
            have H6 := hide h6
            have yl := behind_cell0 hcl6
            have hsome := Behind.any w6
            have hK64 : (onesL X).length ≤ 64 := onesTo_length X 64
            generalize hK : (onesL X).length = K at *
            have HK := hide hK
            generalize ((onesL (freeW A X)).length : Int) = F at *
            clear hp6 hr6 h5 h6 hcf hca hx5 hx6 hcl6 htx hpX hrX hK hc5 hc6
            refine wp_region_behind w6 (by kernel_rfl) (by kernel_rfl) (Below.refl _ _) ?_
            repeat (go_big_quiet_step (first | (go_at_call 14; with_reducible exact behind_at CFB.out _) | (go_at_call 15; with_reducible exact behind_at CTB.out _)))
            refine wpQuiet_nil ?_
            rintro _ ⟨y, rfl⟩
            have hp7 := pool_be y.below HP6.out
            have hr7 := k_be y.below HR6.out
            have h57 := has_be y.below H5.out
            have h67 := has_be y.below H6.out
            have hB7 : Below w.heap.size w y.world := hB6.trans (y.below.mono hB6.size)
            have hgl7 := Nat.lt_of_lt_of_le hgl6 y.below.size
            obtain ⟨w7, hw7⟩ : ∃ W, W = y.world := ⟨_, rfl⟩
            rw [← hw7] at hp7 hr7 h57 h67 hB7 hgl7 ⊢
            have HP7 := hide hp7
            have HR7 := hide hr7
            have H57 := hide h57
            have H67 := hide h67
            clear hw7 y yl hsome hp7 hr7 h57 h67 CFB CTB HP6 HR6 H5 H6 yr
            go_wp2
            go_loopw [25] (fun i wz => ∃ m : Nat, m ≤ K ∧ i = .int .i64 m ∧ Below w7.heap.size w7 wz) (fun i _ => K - (intOf i).toNat)
            case atStart => exact ⟨0, by omega, rfl, Below.refl _ _⟩
            case round wz _ =>
              obtain ⟨m, hm, rfl, hb8⟩ := hrel
              have hm0 : (0 : Int) ≤ (m : Int) := by omega
              by_cases hmK : m < K
              · obtain ⟨ym, hym⟩ : ∃ ym, (onesL X)[m]? = some ym := ⟨(onesL X)[m]'(by rw [HK.out]; exact hmK), by simp [HK.out, hmK]⟩
                obtain ⟨g5, rfl, hc5⟩ := H57.out m ym hym
                obtain ⟨g6, rfl, hc6⟩ := H67.out m ym hym
                have hc5 := c_be hb8 hc5
                have hc6 := c_be hb8 hc6
                have hmk' : (m : Int) < (K : Int) := by omega
                clear hym
                go_wp2
                go_quiet (fail)
                go_wp2
                go_roundw
                case rel => exact ⟨m + 1, by omega, by go_num, by repeat (first | with_reducible assumption | with_reducible exact Below.refl _ _ | with_reducible refine Below.drew ?_ | with_reducible refine below_drewN ?_ _ | with_reducible refine bw_alloc ?_ _ | (with_reducible refine bw_set ?_ ?_ _; focus (dsimp only; omega)) | (with_reducible apply bw_behind; with_reducible assumption))⟩
                case measure => simp [intOf]; omega
              · obtain rfl : m = K := by omega
                go_wp2
                go_roundw
                case rel => exact ⟨j + 1, X, g4, c4, by omega, by omega, rfl, by go_num, pool_be hb8 HP7.out, hbgX, Nat.lt_of_lt_of_le hgl7 hb8.size, k_be hb8 HR7.out, HSX.out, hB7.trans (hb8.mono hB7.size)⟩
                case measure => simp [intOf]; omega
    · have hend : (¬ (j : Int) < (l.length : Int)) ∨ ((j : Int) < (l.length : Int) ∧ ¬ (j : Int) < 200) := by omega
      have CF := hide (free_at b A T HA.out wr hp)
      have CA := hide (fun W h => all_at b A T HA.out hsub W h)
      have HP := hide hp
      have hcf := count_free A T hsub
      have hca := HCA.out
      have hwr : IntKind.i64.wrap (((onesL (freeW A T)).length : Int) + ((onesL T).length : Int)) = (N : Int) := by rw [IntKind.wrap_i64]; omega
      clear hp h3 hcf hca hr hsub
      generalize ((onesL (freeW A T)).length : Int) = F at *
      rcases hend with hend | ⟨hend1, hend⟩
      all_goals
        go_wp2_with (first | (go_at_call 14; refine CF.out.mono ?_; rintro e w5 ⟨rfl, hb5⟩) | (go_at_call 12; refine (CA.out _ (pool_be hb5 HP.out)).mono ?_; rintro e w6 ⟨v6, rfl, hi6, hb6⟩; obtain ⟨s6, c6, rfl, -, -⟩ := hi6.form))
        go_ret
        exact ⟨rfl, (hbel.trans (hb5.mono hbel.size)).trans (hb6.mono (Nat.le_trans hbel.size hb5.size))⟩

theorem walk (n : Int) (v : Value) (l : List Int) (w : World) (h : IsInts w l v) : Calls Try.prog 3 #[.int .i64 n, v] w fun e W' => e = .returned (.bool true) ∧ Below w.heap.size w W' := by
  by_cases hn : n < 1 ∨ 64 < n
  · exact walk_bad n hn v w
  · obtain ⟨_, sa, cap, rfl, hl⟩ := h
    obtain ⟨N, rfl⟩ : ∃ N : Nat, n = (N : Int) := ⟨n.toNat, by omega⟩
    exact walk_n N (by omega) (by omega) l sa cap w hl
open Go.ChangeShapes Go.WideShapes Go.ChangeAt
theorem walks : Frame.Walks 3 Try.f3 := by
  intro H enc W base args ds ps hval hA
  rw [Try.params3] at hA hval
  obtain ⟨v0, v1, d0, d1, p0, p1, hargs, rfl, rfl, h0, h1⟩ := trodAll_two hA
  obtain rfl : args = #[v0, v1] := by cases args; simp_all
  obtain ⟨x0, rfl, rfl, rfl, w0⟩ := open_int Try.underlying3 (hval 0 3 v0 rfl rfl) h0
  obtain ⟨l1, e1⟩ := open_list (hval 1 22 v1 rfl rfl) h1
  exact walk x0 v1 l1 W e1
set_option maxRecDepth 100000 in
theorem proved : Rows.FramesPlaySaid :=
  OpenClaim.holds_of_wide 3 Try.f3 rfl rfl rfl rfl rfl rfl rfl ⟨rfl, rfl, rfl, rfl, rfl⟩ rfl rfl rfl rfl rfl (by kernel_rfl) Try.func3 (by kernel_rfl)
    (of_decide_eq_true (by kernel_rfl)) (by unfold Func.isWrapper; first | (rw [if_pos (by decide +kernel)]; kernel_rfl) | (rw [if_neg (by decide +kernel)]; exact ⟨rfl, rfl⟩))
    (fun os started H enc _ => Frame.lift os started H enc _ _ Rows.framesPlaySpec 4 (by kernel_rfl) Try.func3 Try.underlying4 (by kernel_rfl) rfl (by kernel_rfl)
      (fun ds h => by match ds, h with | [_, _], _ => exact ⟨rfl, rfl, rfl⟩)
      (ChangeSpec.witness6 (enc := enc) (C := Try.checked) false ⟨#[], #[.int .i64 0, .slice none 0 0], []⟩ 8 (by kernel_rfl) (by kernel_rfl) (by kernel_rfl) (by kernel_rfl)) walks)
end Go.Proofs.Ytkblpbnppkfjnaa.FramesPlay
