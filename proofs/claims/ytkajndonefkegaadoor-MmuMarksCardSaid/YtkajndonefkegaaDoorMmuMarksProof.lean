/-
  MmuMarks holds: for every e, l and tagged the law returns true and turns nothing that was there, where the table of places holds what the program's text lays.
-/
import Derived.Test.YtkajndonefkegaaDoorMmuMarksWalks
import Derived.Test.YtkajndonefkegaaDoorGOne
import Derived.Test.YtkajndonefkegaaDoorPteLaid
import Derived.Test.YtkajndonefkegaaDoorGSet
namespace Go.Proofs.YtkajndonefkegaaDoor.MmuMarks
open Go.RowKit Words FieldMath PteMath

/-- The memory of the law: the entry with its marks. -/
def mw (b0 b1 b2 b3 b4 b5 _b6 _b7 b8 b9 _b10 b11 : Bool) (f : BitVec 64) (c6 c7 c10 : Bool) : Nat → Nat → BitVec 64 := putM (laidM (setupL 2)) 2 3 (wk (bs b0 b1 b2 b3 b4 b5 c6 c7 b8 b9 c10 b11) f 12)
theorem walk_m (b0 b1 b2 b3 b4 b5 b6 b7 b8 b9 b10 b11 : Bool) (f : BitVec 64) (hf : f.toNat < 8) (c6 c7 c10 : Bool) : walkM (mw b0 b1 b2 b3 b4 b5 b6 b7 b8 b9 b10 b11 f c6 c7 c10) 8 0 12304 = if (b0 && rightQ b0 b1 b2 b3 b4 b5 c6 c7 b8 b9 c10 b11 (f.toNat : Int) && ((b0 && (b1 || b2 || b3)) == true)) = true then some ((wk (bs b0 b1 b2 b3 b4 b5 c6 c7 b8 b9 c10 b11) f 12), 8216) else none := by
  have h0 : mw b0 b1 b2 b3 b4 b5 b6 b7 b8 b9 b10 b11 f c6 c7 c10 0 0 = tabW 1#64 := putM_else _ _ _ _ _ _ (by omega)
  have h1 : mw b0 b1 b2 b3 b4 b5 b6 b7 b8 b9 b10 b11 f c6 c7 c10 1 0 = tabW 2#64 := putM_else _ _ _ _ _ _ (by omega)
  have h2 : mw b0 b1 b2 b3 b4 b5 b6 b7 b8 b9 b10 b11 f c6 c7 c10 2 3 = (wk (bs b0 b1 b2 b3 b4 b5 c6 c7 b8 b9 c10 b11) f 12) := putM_same _ _ _ _
  rw [walk_three _ 8 12304 (by omega) (by omega), show idx 12304 2 = 0 from rfl, show idx 12304 1 = 0 from rfl, show idx 12304 0 = 3 from rfl, h0, good_1, if_pos rfl, frame_1, h1, good_2, if_pos rfl, frame_2, h2, good_word b0 b1 b2 b3 b4 b5 c6 c7 b8 b9 c10 b11 true f 8 hf (by omega)]
/-- What is kept of the page. -/
def Pl (b0 b1 b2 b3 b4 b5 b6 b7 b8 b9 b10 b11 : Bool) (f : BitVec 64) (c6 c7 c10 : Bool) (L : Nat → List Ln) : Prop := WfL L ∧ (L 3 = [] ∨ (L 3 = [((0 : Int), (3 : Int), (Fd.mk b0 b1 b2 b3 b4 b5 c6 c7 b8 b9 c10 b11 (f.toNat : Int) 8216))] ∧ walkM (mw b0 b1 b2 b3 b4 b5 b6 b7 b8 b9 b10 b11 f c6 c7 c10) 8 0 12304 = some ((wk (bs b0 b1 b2 b3 b4 b5 c6 c7 b8 b9 c10 b11) f 12), 8216)))
theorem fdw_word (b0 b1 b2 b3 b4 b5 _b6 _b7 b8 b9 _b10 b11 c6 c7 c10 : Bool) (f : BitVec 64) (hf : f.toNat < 8) (k : Int) (t : Bool) : fdW (wk (bs b0 b1 b2 b3 b4 b5 c6 c7 b8 b9 c10 b11) f 12) k t 8216 = Fd.mk b0 b1 b2 b3 b4 b5 true (markD c7 k) b8 b9 (markC c10 k t) b11 (f.toNat : Int) 8216 ∧ mkW (wk (bs b0 b1 b2 b3 b4 b5 c6 c7 b8 b9 c10 b11) f 12) k t = (wk (bs b0 b1 b2 b3 b4 b5 true (markD c7 k) b8 b9 (markC c10 k t) b11) f 12) ∧ sameW (wk (bs b0 b1 b2 b3 b4 b5 c6 c7 b8 b9 c10 b11) f 12) k t = sameQ c6 c7 c10 k t ∧ ∀ G, ckW (wk (bs b0 b1 b2 b3 b4 b5 c6 c7 b8 b9 c10 b11) f 12) k t G = checkQ (b0 && (b1 || b2 || b3)) b4 (allowQ k b1 b2 b3) b8 b9 b11 k t G := by
  obtain ⟨h0, h1, h2, h3, h4, h5, h6, h7, h8, h9, h10, h11⟩ := word_bits b0 b1 b2 b3 b4 b5 c6 c7 b8 b9 c10 b11 f
  have hg : getB (wk (bs b0 b1 b2 b3 b4 b5 c6 c7 b8 b9 c10 b11) f 12) 10 44 = f := by
    rw [word_frame]
    refine BitVec.eq_of_toNat_eq ?_
    rw [frame_nat]
    omega
  refine ⟨?_, ?_, ?_, fun G => ?_⟩
  · unfold fdW
    rw [h0, h1, h2, h3, h4, h5, h7, h8, h9, h10, h11, hg]
  · unfold mkW markW
    rw [h0, h1, h2, h3, h4, h5, h7, h8, h9, h10, h11, hg]
  · unfold sameW
    rw [h6, h7, h10]
  · unfold ckW
    rw [h0, h1, h2, h3, h4, h8, h9, h11]
theorem same_marks {c6 c7 c10 t : Bool} {k : Int} (h : sameQ c6 c7 c10 k t = true) : c6 = true ∧ markD c7 k = c7 ∧ markC c10 k t = c10 := by
  unfold sameQ at h
  simp only [Bool.and_eq_true, beq_iff_eq] at h
  exact ⟨h.1.1, h.1.2, h.2⟩
/-- One translation. -/
theorem round_any (b0 b1 b2 b3 b4 b5 b6 b7 b8 b9 b10 b11 : Bool) (f : BitVec 64) (hf : f.toNat < 8) (c6 c7 c10 t : Bool) (L : Nat → List Ln) (hP : Pl b0 b1 b2 b3 b4 b5 b6 b7 b8 b9 b10 b11 f c6 c7 c10 L) (k : Int) : ∃ z s Q d6 d7 d10 L', transR (mw b0 b1 b2 b3 b4 b5 b6 b7 b8 b9 b10 b11 f c6 c7 c10) L 8 0 0 12304 k t b11 = ((z, s, Q), mw b0 b1 b2 b3 b4 b5 b6 b7 b8 b9 b10 b11 f d6 d7 d10, L') ∧ Pl b0 b1 b2 b3 b4 b5 b6 b7 b8 b9 b10 b11 f d6 d7 d10 L' ∧ ((Q ≠ 0 ∧ d6 = c6 ∧ d7 = c7 ∧ d10 = c10) ∨ (Q = 0 ∧ d6 = true ∧ d7 = markD c7 k ∧ d10 = markC c10 k t)) := by
  obtain ⟨hW, hL⟩ := hP
  obtain ⟨e1, e2, e3, e4⟩ := fdw_word b0 b1 b2 b3 b4 b5 b6 b7 b8 b9 b10 b11 c6 c7 c10 f hf k t
  have hWt := wfl_trans (Mm := mw b0 b1 b2 b3 b4 b5 b6 b7 b8 b9 b10 b11 f c6 c7 c10) (C := 8) (P := 0) (v := 12304) (A := 0) (k := k) (t := t) (G := b11) hW
  have hgd : ∀ d6 d7 d10 : Bool, walkM (mw b0 b1 b2 b3 b4 b5 b6 b7 b8 b9 b10 b11 f c6 c7 c10) 8 0 12304 = some ((wk (bs b0 b1 b2 b3 b4 b5 c6 c7 b8 b9 c10 b11) f 12), 8216) → walkM (mw b0 b1 b2 b3 b4 b5 b6 b7 b8 b9 b10 b11 f d6 d7 d10) 8 0 12304 = some ((wk (bs b0 b1 b2 b3 b4 b5 d6 d7 b8 b9 d10 b11) f 12), 8216) := fun d6 d7 d10 h => by
    rw [walk_m _ _ _ _ _ _ _ _ _ _ _ _ f hf] at h ⊢
    split at h
    · rename_i hc
      rw [if_pos]
      rw [Bool.and_eq_true, Bool.and_eq_true] at hc
      obtain ⟨⟨g0, gr⟩, gl⟩ := hc
      have gl2 : (b0 && (b1 || b2 || b3)) = true := by simpa using gl
      rw [right_marks b0 b1 b2 b3 b4 b5 c6 c7 b8 b9 c10 b11 d6 d7 d10 _ gl2, gr, gl2, g0]
      rfl
    · cases h
  -- a walk that finds, and may
  have hfind : walkM (mw b0 b1 b2 b3 b4 b5 b6 b7 b8 b9 b10 b11 f c6 c7 c10) 8 0 12304 = some ((wk (bs b0 b1 b2 b3 b4 b5 c6 c7 b8 b9 c10 b11) f 12), 8216) → ckW (wk (bs b0 b1 b2 b3 b4 b5 c6 c7 b8 b9 c10 b11) f 12) k t b11 = 0 → (∀ l ∈ L 3, l.1 = 0 ∧ l.2.1 = 3) → (L 3).length ≤ 1 → transR (mw b0 b1 b2 b3 b4 b5 b6 b7 b8 b9 b10 b11 f c6 c7 c10) L 8 0 0 12304 k t b11 = findR (mw b0 b1 b2 b3 b4 b5 b6 b7 b8 b9 b10 b11 f c6 c7 c10) L 8 0 0 12304 k t b11 → ∃ z s Q d6 d7 d10 L', transR (mw b0 b1 b2 b3 b4 b5 b6 b7 b8 b9 b10 b11 f c6 c7 c10) L 8 0 0 12304 k t b11 = ((z, s, Q), mw b0 b1 b2 b3 b4 b5 b6 b7 b8 b9 b10 b11 f d6 d7 d10, L') ∧ Pl b0 b1 b2 b3 b4 b5 b6 b7 b8 b9 b10 b11 f d6 d7 d10 L' ∧ ((Q ≠ 0 ∧ d6 = c6 ∧ d7 = c7 ∧ d10 = c10) ∨ (Q = 0 ∧ d6 = true ∧ d7 = markD c7 k ∧ d10 = markC c10 k t)) := fun hw hq hall hlen htr => by
    have hfa := find_at (M := L) (A := 0) hw hq
    rw [htr] at hWt ⊢
    rw [hfa] at hWt
    have hpw : putW (mw b0 b1 b2 b3 b4 b5 b6 b7 b8 b9 b10 b11 f c6 c7 c10) 8216 (wk (bs b0 b1 b2 b3 b4 b5 c6 c7 b8 b9 c10 b11) f 12) k t = mw b0 b1 b2 b3 b4 b5 b6 b7 b8 b9 b10 b11 f true (markD c7 k) (markC c10 k t) := by
      unfold putW
      rw [e3]
      cases hs : sameQ c6 c7 c10 k t with
      | true =>
        obtain ⟨s1, s2, s3⟩ := same_marks hs
        rw [if_pos rfl, s2, s3, s1]
      | false =>
        rw [if_neg (by simp), e2]
        show putM (putM _ 2 3 _) 2 3 _ = _
        rw [putM_twice]
        rfl
    refine ⟨_, _, 0, true, markD c7 k, markC c10 k t, _, by rw [hfa, hpw], ⟨hWt, .inr ⟨?_, hgd _ _ _ hw⟩⟩, .inr ⟨rfl, rfl, rfl, rfl⟩⟩
    show lputM L 3 ((0 : Int), (3 : Int), fdW (wk (bs b0 b1 b2 b3 b4 b5 c6 c7 b8 b9 c10 b11) f 12) k t 8216) 3 = _
    rw [lput_at, e1]
    match L 3, hall, hlen with
    | [], _, _ => rfl
    | [x], hall, _ =>
      obtain ⟨x1, x2⟩ := hall x (by simp)
      simp [lputL, List.filter, x1, x2]
    | _ :: _ :: _, _, hlen => simp at hlen
  rcases hL with hL | ⟨hL, hw⟩
  · have htr : transR (mw b0 b1 b2 b3 b4 b5 b6 b7 b8 b9 b10 b11 f c6 c7 c10) L 8 0 0 12304 k t b11 = findR (mw b0 b1 b2 b3 b4 b5 b6 b7 b8 b9 b10 b11 f c6 c7 c10) L 8 0 0 12304 k t b11 := trans_miss (by omega) (by rw [show 12304 / 4096 % 4 = 3 from rfl, hL]; rfl)
    have hw := walk_m b0 b1 b2 b3 b4 b5 b6 b7 b8 b9 b10 b11 f hf c6 c7 c10
    by_cases hc : (b0 && rightQ b0 b1 b2 b3 b4 b5 c6 c7 b8 b9 c10 b11 (f.toNat : Int) && ((b0 && (b1 || b2 || b3)) == true)) = true
    · rw [if_pos hc] at hw
      by_cases hq : ckW (wk (bs b0 b1 b2 b3 b4 b5 c6 c7 b8 b9 c10 b11) f 12) k t b11 = 0
      · exact hfind hw hq (by rw [hL]; simp) (by rw [hL]; simp) htr
      · rw [htr, find_bad_at hw hq]
        exact ⟨_, _, _, c6, c7, c10, L, rfl, ⟨hW, .inl hL⟩, .inl ⟨hq, rfl, rfl, rfl⟩⟩
    · rw [if_neg hc] at hw
      have hn : findR (mw b0 b1 b2 b3 b4 b5 b6 b7 b8 b9 b10 b11 f c6 c7 c10) L 8 0 0 12304 k t b11 = ((0, false, 1), mw b0 b1 b2 b3 b4 b5 b6 b7 b8 b9 b10 b11 f c6 c7 c10, dropM L 0 ((12304 / 4096 : Nat) : Int)) := by
        unfold findR
        rw [hw]
      rw [htr, hn]
      exact ⟨0, false, 1, c6, c7, c10, _, rfl, ⟨wfl_drop _ _ hW, .inl (by show List.filter _ (L 3) = []; rw [hL]; rfl)⟩, .inl ⟨by omega, rfl, rfl, rfl⟩⟩
  · have hfd : (L (12304 / 4096 % 4)).find? (pageQ 0 ((12304 / 4096 : Nat) : Int)) = some ((0 : Int), (3 : Int), (Fd.mk b0 b1 b2 b3 b4 b5 c6 c7 b8 b9 c10 b11 (f.toNat : Int) 8216)) := by
      rw [show 12304 / 4096 % 4 = 3 from rfl, hL]
      rfl
    have hlq : lineQ (Fd.mk b0 b1 b2 b3 b4 b5 c6 c7 b8 b9 c10 b11 (f.toNat : Int) 8216) k t b11 = ckW (wk (bs b0 b1 b2 b3 b4 b5 c6 c7 b8 b9 c10 b11) f 12) k t b11 := (e4 b11).symm
    by_cases hq : ckW (wk (bs b0 b1 b2 b3 b4 b5 c6 c7 b8 b9 c10 b11) f 12) k t b11 = 0
    · cases hs : sameQ c6 c7 c10 k t with
      | true =>
        obtain ⟨s1, s2, s3⟩ := same_marks hs
        have := trans_hit (Mm := mw b0 b1 b2 b3 b4 b5 b6 b7 b8 b9 b10 b11 f c6 c7 c10) (C := 8) (P := 0) (k := k) (t := t) (G := b11) (by omega) hfd (by dsimp only; rw [hlq]; exact hq) hs
        rw [this]
        exact ⟨_, _, 0, c6, c7, c10, L, rfl, ⟨hW, .inr ⟨hL, hw⟩⟩, .inr ⟨rfl, s1, s2.symm, s3.symm⟩⟩
      | false =>
        have htr := trans_more (Mm := mw b0 b1 b2 b3 b4 b5 b6 b7 b8 b9 b10 b11 f c6 c7 c10) (C := 8) (P := 0) (k := k) (t := t) (G := b11) (by omega) hfd (by dsimp only; rw [hlq]; exact hq) hs
        exact hfind hw hq (by rw [hL]; simp) (by rw [hL]; simp) htr
    · have := trans_bad (Mm := mw b0 b1 b2 b3 b4 b5 b6 b7 b8 b9 b10 b11 f c6 c7 c10) (C := 8) (P := 0) (k := k) (t := t) (G := b11) (by omega) hfd (by dsimp only; rw [hlq]; exact hq)
      rw [this]
      exact ⟨_, _, _, c6, c7, c10, L, rfl, ⟨hW, .inr ⟨hL, hw⟩⟩, .inl ⟨by dsimp only; rw [hlq]; exact hq, rfl, rfl, rfl⟩⟩
theorem setup_mem (W : World) (hT : Tab W) : Calls Tryd.prog 6 #[] W (fun e W' => ∃ R K sa na ca sb nb cb, e = .returned (.tuple #[.pointer (some ⟨R, 0, none⟩), .agg #[.int .i64 8, .slice sa na ca, .slice sb nb cb, .slice none 0 0]]) ∧ MemW W' R K 8 (laidM (setupL 2)) ∧ Below W.heap.size W W' ∧ W.heap.size ≤ R ∧ W.heap.size ≤ K) := by
  refine (setup_any W hT).mono ?_
  rintro e W' ⟨R, K, sa, na, ca, sb, nb, cb, rfl, h1, _, _, h2, h3, h4, _, _⟩
  exact ⟨R, K, sa, na, ca, sb, nb, cb, rfl, h1, h2, h3, h4⟩
theorem of_word (b0 b1 b2 b3 b4 b5 b6 b7 b8 b9 b10 b11 : Bool) (f : BitVec 64) (hf : f.toNat < 8) (W : World) (hT : Tab W) : Calls Tryd.prog 26 #[.int .u64 ((wk (bs b0 b1 b2 b3 b4 b5 b6 b7 b8 b9 b10 b11) f 12).toNat : Int)] W (Makes (.agg #[.bool b0, .bool b1, .bool b2, .bool b3, .bool b4, .bool b5, .bool b6, .bool b7, .bool b8, .bool b9, .bool b10, .bool b11, .int .u64 (f.toNat : Int)]) W) := by
  have := of_any (wk (bs b0 b1 b2 b3 b4 b5 b6 b7 b8 b9 b10 b11) f 12) W hT
  obtain ⟨h0, h1, h2, h3, h4, h5, h6, h7, h8, h9, h10, h11⟩ := word_bits b0 b1 b2 b3 b4 b5 b6 b7 b8 b9 b10 b11 f
  have hg : getB (wk (bs b0 b1 b2 b3 b4 b5 b6 b7 b8 b9 b10 b11) f 12) 10 44 = f := by
    rw [word_frame]
    refine BitVec.eq_of_toNat_eq ?_
    rw [frame_nat]
    omega
  rw [h0, h1, h2, h3, h4, h5, h6, h7, h8, h9, h10, h11, hg] at this
  exact this
set_option maxRecDepth 100000 in
set_option maxHeartbeats 4000000 in
theorem walk (b0 b1 b2 b3 b4 b5 b6 b7 b8 b9 b10 b11 : Bool) (F : BitVec 64) (k0 k1 : Int) (t : Bool) (w : World) (hT : Tab w) : Calls Tryd.prog 4 #[.agg #[.bool b0, .bool b1, .bool b2, .bool b3, .bool b4, .bool b5, .bool b6, .bool b7, .bool b8, .bool b9, .bool b10, .bool b11, .int .u64 (F.toNat : Int)], .agg #[.int .i64 k0, .int .i64 k1], .bool t] w (Makes (.bool true) w) := by
  obtain ⟨f, hfe⟩ : ∃ f : BitVec 64, f = BitVec.ofNat 64 (3 + F.toNat % 4) := ⟨_, rfl⟩
  have hfn : f.toNat = 3 + F.toNat % 4 := by rw [hfe, BitVec.toNat_ofNat]; omega
  have hf : f.toNat < 8 := by omega
  clear hfe
  have g1 : bits .and .u64 (F.toNat : Int) 3 = ((F.toNat % 4 : Nat) : Int) := by
    have := and_bv F 3#64
    rw [show ((3#64).toNat : Int) = 3 from rfl, BitVec.toNat_and, show (3#64).toNat = 2 ^ 2 - 1 from rfl, Nat.and_two_pow_sub_one_eq_mod] at this
    exact this
  have g2 : IntKind.u64.wrap (3 + ((F.toNat % 4 : Nat) : Int)) = (f.toNat : Int) := by rw [IntKind.wrap_u64, hfn]; omega
  refine walk_let (2 * 4100) b0 b1 b2 b3 b4 b5 b6 b7 b8 b9 b10 b11 t (F.toNat : Int) ((F.toNat % 4 : Nat) : Int) (f.toNat : Int) ((wk (bs b0 b1 b2 b3 b4 b5 b6 b7 b8 b9 b10 b11) f 12).toNat : Int) k0 k1 (laidM (setupL 2)) (fun c6 c7 c10 => mw b0 b1 b2 b3 b4 b5 b6 b7 b8 b9 b10 b11 f c6 c7 c10) (fun c6 c7 c10 => ((wk (bs b0 b1 b2 b3 b4 b5 c6 c7 b8 b9 c10 b11) f 12).toNat : Int)) (fun c6 c7 c10 L => Pl b0 b1 b2 b3 b4 b5 b6 b7 b8 b9 b10 b11 f c6 c7 c10 L) setup_mem (fun W h => word_any b0 b1 b2 b3 b4 b5 b6 b7 b8 b9 b10 b11 f W h) (fun W h => of_word b0 b1 b2 b3 b4 b5 b6 b7 b8 b9 b10 b11 f hf W h) (fun R K W h => store_w (p := 2) (k := 3) (by omega) (by omega) (by omega : 8 ≤ 64) (wk (bs b0 b1 b2 b3 b4 b5 b6 b7 b8 b9 b10 b11) f 12) R K _ W h) ?_ ?_ (fun c6 c7 c10 W h => of_word b0 b1 b2 b3 b4 b5 c6 c7 b8 b9 c10 b11 f hf W h) (fun W h => one_any W h) ⟨wfl_nil, .inl rfl⟩ g1 g2 w hT
  · intro c6 c7 c10 L hP k _
    obtain ⟨z, s, Q, d6, d7, d10, L', h1, h2, h3⟩ := round_any b0 b1 b2 b3 b4 b5 b6 b7 b8 b9 b10 b11 f hf c6 c7 c10 t L hP k
    refine ⟨z, s, Q, d6, d7, d10, L', h2, h3, fun N R K W hT hM hU => ?_⟩
    have := trans_any N R K 8 (by omega) (by omega) L hP.1 (mw b0 b1 b2 b3 b4 b5 b6 b7 b8 b9 b10 b11 f c6 c7 c10) 0#64 12304#64 0 k t b11 W hT hM hU
    rw [show (0#64).toNat = 0 from rfl, show (12304#64).toNat = 12304 from rfl, h1] at this
    exact this
  · intro c6 c7 c10 R K W h
    have := load_w (p := 2) (k := 3) (by omega) (by omega) (by omega : 8 ≤ 64) R K _ W h
    rw [show mw b0 b1 b2 b3 b4 b5 b6 b7 b8 b9 b10 b11 f c6 c7 c10 2 3 = (wk (bs b0 b1 b2 b3 b4 b5 c6 c7 b8 b9 c10 b11) f 12) from putM_same _ _ _ _] at this
    exact this

open Go.ChangeShapes Go.WideShapes Go.ChangeAt
set_option maxRecDepth 100000 in
theorem walks : Frame.WalksLaid [("mintmark/pte.places", Rows.laid_mintmark_pte_places)] 4 Tryd.f4 := by
  intro H enc W base args ds ps hL hval hA
  rw [Tryd.params4] at hA hval
  obtain ⟨v0, v1, v2, d0, d1, d2, p0, p1, p2, hargs, rfl, rfl, h0, h1, h2⟩ := trodAll_three hA
  obtain rfl : args = #[v0, v1, v2] := by cases args; simp_all
  obtain ⟨cs0, rfl, hf0⟩ := Frame.open_struct (F := 4) (ks := [.inr false, .inr false, .inr false, .inr false, .inr false, .inr false, .inr false, .inr false, .inr false, .inr false, .inr false, .inr false, .inl .u64]) Tryd.underlying32 (by kernel_rfl) (hval 0 32 v0 rfl rfl) h0
  obtain ⟨z0_0, z0_1, z0_2, z0_3, z0_4, z0_5, z0_6, z0_7, z0_8, z0_9, z0_10, z0_11, Z0_12, rfl⟩ := open_ent hf0
  obtain ⟨zs1, rfl, hl1, hz1⟩ := Frame.open_arr Tryd.underlying81 Tryd.underlying3 (by kernel_rfl) (by kernel_rfl) (hval 1 81 v1 rfl rfl) h1
  obtain ⟨z1_0, z1_1, rfl⟩ := Frame.arr2 hl1
  obtain ⟨x2, rfl, rfl, rfl⟩ := open_bool Tryd.underlying4 (hval 2 4 v2 rfl rfl) h2
  exact walk z0_0 z0_1 z0_2 z0_3 z0_4 z0_5 z0_6 z0_7 z0_8 z0_9 z0_10 z0_11 Z0_12 z1_0 z1_1 x2 W (tab_of_laid hL)
set_option maxRecDepth 100000 in
theorem said : Rows.MmuMarksSaid :=
  OpenClaim.holds_of_wide 4 Tryd.f4 rfl rfl rfl rfl rfl rfl rfl ⟨rfl, rfl, rfl, rfl, rfl⟩ rfl rfl rfl rfl rfl (by kernel_rfl) Tryd.func4 (by kernel_rfl)
    (of_decide_eq_true (by kernel_rfl)) (by unfold Func.isWrapper; first | (rw [if_pos (by decide +kernel)]; kernel_rfl) | (rw [if_neg (by decide +kernel)]; exact ⟨rfl, rfl⟩))
    (fun os started H enc _ => Frame.liftLaid [("mintmark/pte.places", Rows.laid_mintmark_pte_places)] os started H enc _ _ Rows.mmuMarksSpec 4 (by kernel_rfl) Tryd.func4 Tryd.underlying4 (by kernel_rfl) rfl (by kernel_rfl)
      (fun ds h => by match ds, h with | [_, _, _], _ => exact ⟨rfl, rfl, rfl⟩)
      (ChangeSpec.witness_shaped (enc := enc) (C := Tryd.checked) (os := os) (X := fun w _ => laidMetH Tryd.prog [("mintmark/pte.places", Rows.laid_mintmark_pte_places)] w) false (World.doorLaid Tryd.prog 400 os) #[.agg #[.bool false, .bool false, .bool false, .bool false, .bool false, .bool false, .bool false, .bool false, .bool false, .bool false, .bool false, .bool false, .int .u64 0], .agg #[.int .i64 0, .int .i64 0], .bool false] 8 rfl (World.shaped_of_RefB (by kernel_rfl) (by kernel_rfl)) (by kernel_rfl) (by kernel_rfl) (by kernel_rfl) (door_met os _)) walks)
set_option maxRecDepth 100000 in
theorem proved : Rows.MmuMarksCardSaid :=
  Claim7.holds_tied_plain_at .later [] [.data] true _ false said (fun _ h => by cases h) (by kernel_rfl) (fun _ h => by cases h) mmuMarks_row_tie rfl ⟨rfl, rfl⟩ (by kernel_rfl) rfl
    (fun f fn hf hfn => by
      obtain rfl : f = 4 := Option.some.inj ((show Tryd.prog.funcNamed "mintmark/mintmarklaw12.MmuMarks" = some 4 by kernel_rfl).symm.trans hf) |>.symm
      obtain rfl : fn = Tryd.f4 := (Option.some.inj (Tryd.func4.symm.trans hfn)).symm
      exact ⟨by kernel_rfl, fun j t ht => by
        rw [Tryd.params4] at ht
        have hm : t ∈ [32, 81, 4] := by have := Array.mem_of_getElem? ht; simp at this; simp; first | omega | grind
        have hall : ([32, 81, 4].all fun u => !Tryd.prog.wantsStandIn u) = true := by kernel_rfl
        exact (show Tryd.prog.wantsStandIn t = false by simpa using List.all_eq_true.1 hall t hm)⟩)
    (by kernel_rfl)
end Go.Proofs.YtkajndonefkegaaDoor.MmuMarks
