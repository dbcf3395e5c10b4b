/-
  FieldLays holds: for every list of parts the law returns true and turns nothing that was there.
-/
import Derived.Test.YtpllegpdiplokaaRef01Walks
import Derived.Test.YtpllegpdiplokaaLayWalks
import Derived.Test.YtpllegpdiplokaaLawFrame
import Derived.Deep.Slices
namespace Go.Proofs.Ytpllegpdiplokaa.FieldLays
open Go.RowKit Words FieldMath

/-- The cells of a slice of parts. -/
def PartsAt (w : World) (ad : Addr) (l : List Part3) : Prop :=
  ∀ k (h : k < l.length), w.cell? (ad.add (k * 3)) = some (.int .i64 l[k].1) ∧ w.cell? (ad.add (k * 3 + 1)) = some (.int .i64 l[k].2.1) ∧ w.cell? (ad.add (k * 3 + 2)) = some (.int .u64 (l[k].2.2.toNat : Int))
theorem lay_len (ad : Addr) (l : List Part3) (n cap : Nat) (w : World) (hl : l.length ≤ 9223372036854775807) (hn : l.length = n) (h : PartsAt w ad l) :
    Calls Try.prog 18 #[.slice (some ad) n cap] w fun e w' => e = .returned (.int .u64 ((layB l).toNat : Int)) ∧ Below w.heap.size w w' := by
  subst hn
  exact lay_any ad l cap w hl h

theorem lay_lit (Bk : Nat) (w : World) (h : w.heap[Bk]? = some (.cells #[.int .i64 4, .int .i64 4, .int .u64 10] 32 (0, 0))) :
    Calls Try.prog 18 #[.slice (some ⟨Bk, 0, none⟩) 1 1] w fun e w' => e = .returned (.int .u64 160) ∧ Below w.heap.size w w' := by
  have := lay_one 4 4 (BitVec.ofNat 64 10) Bk w h
  have c160 : putB 0 4 4 (BitVec.ofNat 64 10) = BitVec.ofNat 64 160 := by decide
  rw [c160] at this
  exact this

set_option maxHeartbeats 800000 in
theorem walkAt (ad : Addr) (l : List Part3) (len cap n : Nat) (w : World) (hn : (len ≤ 40 ∧ len = n) ∨ (40 < len ∧ n = 40)) (hl : l.length = n) (hcap : len ≤ cap) (hmax : cap ≤ 9223372036854775807)
    (hc : PartsAt w ad l) :
    Calls Try.prog 4 #[.slice (some ad) len cap] w fun e w' => e = .returned (.bool true) ∧ Below w.heap.size w w' := by
  have hd : ∀ n, PartsAt (w.drewN n) ad l := fun n => hc
  have HD := hide hd
  have HC := hide hc
  clear hc hd
  rcases hn with ⟨h40, rfl⟩ | ⟨h40, rfl⟩
  · have h40b : decide ((40 : Int) < (len : Int)) = false := by simp; omega
    go_enter Try.func4, Try.ntmps4
    go_wp2
    go_loopw [3, 4] (fun m i wr => ∃ k : Nat, k ≤ len ∧ i = .int .i64 k ∧ m = .int .u64 ((layB (l.take k)).toNat : Int) ∧ ∃ n, wr = w.drewN n) (fun _ i _ => len - (intOf i).toNat)
    case atStart => exact ⟨0, by omega, rfl, rfl, 0, rfl⟩
    case round =>
      obtain ⟨k, hk, rfl, rfl, nn, rfl⟩ := hrel
      by_cases hlt : k < len
      · have hkl : k < l.length := by omega
        obtain ⟨h0, h1, h2⟩ := HC.out k hkl
        have hspot : ad.spot = none := by
          have := World.cell?_spot (HC.out 0 (by omega)).1
          simpa [Addr.add] using this
        obtain ⟨b, off, spot⟩ := ad
        simp only at hspot
        subst hspot
        have e : ∀ j, (⟨b, off, none⟩ : Addr).add j = ⟨b, off + j, none⟩ := fun j => by unfold Addr.add; split <;> simp_all
        rw [e] at h0 h1 h2
        rw [← Nat.add_assoc] at h1 h2
        have ht := layB_take l k hkl
        have HT := hide ht
        generalize l[k].1 = p1 at *
        generalize l[k].2.1 = p2 at *
        generalize l[k].2.2 = p3 at *
        generalize hM : layB (l.take k) = M0 at *
        have hx : (k : Int) < (len : Int) := by omega
        have hx0 : (0 : Int) ≤ (k : Int) := by omega
        clear ht e hM
        go_wp2
        go_quiet ((first | (go_at_call 13; first | exact Quiet.region (fun W => rput_any M0 p1 p2 p3 W) | exact Quiet.regionAdd (fun W => rput_any M0 p1 p2 p3 W))))
        go_wp2
        go_roundw
        case rel => exact ⟨k + 1, by omega, by go_num, by rw [HT.out], _, rfl⟩
        case measure => simp [intOf]; omega
      · obtain rfl : len = k := by omega
        have hfull : l.take len = l := by rw [← hl, List.take_length]
        rw [hfull]
        have CL := hide (fun W (h : PartsAt W ad l) => lay_len ad l len cap W (by omega) hl h)
        have C2 := hide lay_lit
        clear hfull
        go_wp2_with (first | (go_at_call 18; ((with_reducible refine (CL.out _ (HD.out _)).mono ?_); rintro e w1 ⟨rfl, hbel⟩)) | (go_at_call 18; ((with_reducible refine (C2.out _ _ (heap_alloc_new _ _)).mono ?_); rintro e w2 ⟨rfl, hbel2⟩)))
        go_ret
        have hb1 : Below w.heap.size w w1 := (below_drewN (Below.refl _ w) nn).trans hbel
        exact ⟨rfl, (hb1.alloc hb1.size _).trans (hbel2.mono (Nat.le_trans hb1.size (by simp)))⟩
  · have h40b : decide ((40 : Int) < (len : Int)) = true := by simp; omega
    go_enter Try.func4, Try.ntmps4
    go_wp2
    go_loopw [3, 4] (fun m i wr => ∃ k : Nat, k ≤ 40 ∧ i = .int .i64 k ∧ m = .int .u64 ((layB (l.take k)).toNat : Int) ∧ ∃ n, wr = w.drewN n) (fun _ i _ => 40 - (intOf i).toNat)
    case atStart => exact ⟨0, by omega, rfl, rfl, 0, rfl⟩
    case round =>
      obtain ⟨k, hk, rfl, rfl, nn, rfl⟩ := hrel
      by_cases hlt : k < 40
      · have hkl : k < l.length := by omega
        obtain ⟨h0, h1, h2⟩ := HC.out k hkl
        have hspot : ad.spot = none := by
          have := World.cell?_spot (HC.out 0 (by omega)).1
          simpa [Addr.add] using this
        obtain ⟨b, off, spot⟩ := ad
        simp only at hspot
        subst hspot
        have e : ∀ j, (⟨b, off, none⟩ : Addr).add j = ⟨b, off + j, none⟩ := fun j => by unfold Addr.add; split <;> simp_all
        rw [e] at h0 h1 h2
        rw [← Nat.add_assoc] at h1 h2
        have ht := layB_take l k hkl
        have HT := hide ht
        generalize l[k].1 = p1 at *
        generalize l[k].2.1 = p2 at *
        generalize l[k].2.2 = p3 at *
        generalize hM : layB (l.take k) = M0 at *
        have hx : (k : Int) < (40 : Int) := by omega
        have hx0 : (0 : Int) ≤ (k : Int) := by omega
        clear ht e hM
        go_wp2
        go_quiet ((first | (go_at_call 13; first | exact Quiet.region (fun W => rput_any M0 p1 p2 p3 W) | exact Quiet.regionAdd (fun W => rput_any M0 p1 p2 p3 W))))
        go_wp2
        go_roundw
        case rel => exact ⟨k + 1, by omega, by go_num, by rw [HT.out], _, rfl⟩
        case measure => simp [intOf]; omega
      · obtain rfl : 40 = k := by omega
        have hfull : l.take 40 = l := by rw [← hl, List.take_length]
        rw [hfull]
        have CL := hide (fun W (h : PartsAt W ad l) => lay_len ad l 40 cap W (by omega) hl h)
        have C2 := hide lay_lit
        clear hfull
        go_wp2_with (first | (go_at_call 18; ((with_reducible refine (CL.out _ (HD.out _)).mono ?_); rintro e w1 ⟨rfl, hbel⟩)) | (go_at_call 18; ((with_reducible refine (C2.out _ _ (heap_alloc_new _ _)).mono ?_); rintro e w2 ⟨rfl, hbel2⟩)))
        go_ret
        have hb1 : Below w.heap.size w w1 := (below_drewN (Below.refl _ w) nn).trans hbel
        exact ⟨rfl, (hb1.alloc hb1.size _).trans (hbel2.mono (Nat.le_trans hb1.size (by simp)))⟩

set_option maxHeartbeats 800000 in
theorem walkNil (w : World) : Calls Try.prog 4 #[.slice none 0 0] w fun e w' => e = .returned (.bool true) ∧ Below w.heap.size w w' := by
  have C1 := hide lay_nil
  have C2 := hide lay_lit
  go_enter Try.func4, Try.ntmps4
  go_wp2
  refine wp_loop_rounds 1 ?_
  rw [rounds_succ]
  go_wp2_with (first | (go_at_call 18; ((with_reducible refine (C1.out _).mono ?_); rintro e w1 ⟨rfl, hbel⟩)) | (go_at_call 18; ((with_reducible refine (C2.out _ _ (heap_alloc_new _ _)).mono ?_); rintro e w2 ⟨rfl, hbel2⟩)))
  go_ret
  exact ⟨rfl, (hbel.alloc hbel.size _).trans (hbel2.mono (Nat.le_trans hbel.size (by simp)))⟩

theorem walk (ad : Addr) (l : List Part3) (cap : Nat) (w : World) (hcap : l.length ≤ cap) (hmax : cap ≤ 9223372036854775807) (hc : PartsAt w ad l) :
    Calls Try.prog 4 #[.slice (some ad) l.length cap] w fun e w' => e = .returned (.bool true) ∧ Below w.heap.size w w' := by
  by_cases h : l.length ≤ 40
  · exact walkAt ad l l.length cap l.length w (.inl ⟨h, rfl⟩) rfl hcap hmax hc
  · refine walkAt ad (l.take 40) l.length cap 40 w (.inr ⟨by omega, rfl⟩) (by simp; omega) hcap hmax ?_
    intro k hk
    have hk' : k < l.length := by simp at hk; omega
    have := hc k hk'
    simpa using this

open Go.ChangeShapes Go.WideShapes Go.ChangeAt
theorem walks : Frame.Walks 4 Try.f4 := by
  intro H enc W base args ds ps hval hA
  rw [Try.params4] at hA hval
  obtain ⟨v0, d0, hargs, rfl, h0⟩ := trodAll_one hA
  obtain rfl : args = #[v0] := by cases args; simp_all
  obtain ⟨a, len, cap, rfl⟩ := okWide_slice Try.underlying30 (hval 0 30 v0 rfl rfl)
  obtain ⟨fuel, hf⟩ := h0
  rcases Deep.open_slice Try.underlying30 hf with ⟨hcs, _⟩ | ⟨ad, len', cap', m, n, D, Pl, hcs, _, hl, hm, hmm, _, hi⟩
  · simp [Value.cells] at hcs
    obtain ⟨rfl, rfl, rfl⟩ := hcs
    exact walkNil W
  · simp [Value.cells] at hcs
    obtain ⟨rfl, rfl, rfl⟩ := hcs
    have hmc : m = cap := by simpa using hmm
    obtain ⟨l, hll, hp⟩ := Frame.list_choose len (fun k (p : Part3) => W.cell? (ad.add (k * 3)) = some (.int .i64 p.1) ∧ W.cell? (ad.add (k * 3 + 1)) = some (.int .i64 p.2.1) ∧ W.cell? (ad.add (k * 3 + 2)) = some (.int .u64 (p.2.2.toNat : Int))) (fun k hk => by
      obtain ⟨cs', hc, ht⟩ := hi k (by omega)
      have hfit := Frame.fits_of 3 32 [.inl .i64, .inl .i64, .inl .u64] _ _ _ (by kernel_rfl) ht
      have h3 : Try.prog.cellsOf 32 = 3 := by kernel_rfl
      rw [h3] at hc
      obtain ⟨_, hcl, hat⟩ := World.cells?_some hc
      match cs', hcl, hfit with
      | [x0, x1, x2], _, ⟨⟨z0, e0, _⟩, ⟨z1, e1, _⟩, ⟨z2, e2, w2⟩, _⟩ =>
        obtain ⟨Z, rfl⟩ := Frame.wf_u64 w2
        subst e0 e1 e2
        refine ⟨(z0, z1, Z), ?_, ?_, ?_⟩
        · simpa [Addr.add] using hat 0 (by omega)
        · have := hat 1 (by omega); rw [Deep.add_add] at this; exact this
        · have := hat 2 (by omega); rw [Deep.add_add] at this; exact this)
    subst hll
    exact walk ad l cap W hl (by unfold maxLen at hm; omega) hp
set_option maxRecDepth 100000 in
theorem proved : Rows.FieldLaysSaid :=
  OpenClaim.holds_of_wide 4 Try.f4 rfl rfl rfl rfl rfl rfl rfl ⟨rfl, rfl, rfl, rfl, rfl⟩ rfl rfl rfl rfl rfl (by kernel_rfl) Try.func4 (by kernel_rfl)
    (of_decide_eq_true (by kernel_rfl)) (by unfold Func.isWrapper; first | (rw [if_pos (by decide +kernel)]; kernel_rfl) | (rw [if_neg (by decide +kernel)]; exact ⟨rfl, rfl⟩))
    (fun os started H enc _ => Frame.lift os started H enc _ _ Rows.fieldLaysSpec 4 (by kernel_rfl) Try.func4 Try.underlying4 (by kernel_rfl) rfl (by kernel_rfl)
      (fun ds h => by match ds, h with | [_], _ => exact ⟨rfl, rfl, rfl⟩)
      (ChangeSpec.witness6 (enc := enc) (C := Try.checked) false ⟨#[], #[.slice none 0 0], []⟩ 8 (by kernel_rfl) (by kernel_rfl) (by kernel_rfl) (by kernel_rfl)) walks)
end Go.Proofs.Ytpllegpdiplokaa.FieldLays
