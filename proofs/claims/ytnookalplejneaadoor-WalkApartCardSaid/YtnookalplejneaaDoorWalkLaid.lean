/-
  What laid makes of a slice of entries to be laid: a memory whose words they are, and the document's memory with their bytes.
-/
import Derived.Test.YtnookalplejneaaDoorWalkMem
import Derived.Test.YtnookalplejneaaDoorRef8c
import Derived.Test.YtnookalplejneaaDoorPteRef2
import Derived.Deep.DeepCutAuto
import Derived.Deep.RegionHeld3
import Derived.Deep.QuietTactic
import Derived.BigQuiet
namespace Go.Proofs.YtnookalplejneaaDoor
open Go.RowKit Words FieldMath PteMath

theorem own_out {N o b k : Nat} {w W : World} (h : Out N o w W) (hne : b ≠ N) (ho : Own w b k) : Own W b k := fun i hi => by
  obtain ⟨v, hv⟩ := ho.val i hi
  have hlt : b < w.heap.size := World.block_lt_of_cell? w _ hv
  exact ⟨by rw [h.reads (p := ⟨b, i, none⟩) hne hv]; rfl, (World.frozen?_of_block (w := w) (h.block b hlt hne)).trans (ho.free i hi)⟩
theorem row_out {N o b : Nat} {w W : World} {l : List Value} (h : Out N o w W) (hne : b ≠ N) (hr : Row w b l) : Row W b l := fun i v hv => h.reads hne (hr i v hv)
theorem sl_out {N o : Nat} {w W : World} {s : Option Addr} {n c : Nat} {l : List Value} (h : Out N o w W) (ha : Away N s) (hs : Sl w s n c l) : Sl W s n c l := by
  obtain ⟨h0, hs⟩ := hs
  refine ⟨h0, ?_⟩
  rcases hs with hs | ⟨g, h1, h2, h3, h4⟩
  · exact .inl hs
  · exact .inr ⟨g, h1, h2, row_out h (ha g h1) h3, h4⟩
theorem ltB_be {n b : Nat} {w w' : World} (h : Below n w w') (hl : ltB b w.heap.size = true) : ltB b w'.heap.size = true := decide_eq_true (Nat.lt_of_lt_of_le (of_decide_eq_true hl) h.size)
theorem sl_dr {W : World} {s : Option Addr} {n c : Nat} {l : List Value} (k : Nat) (h : Sl W s n c l) : Sl (W.drewN k) s n c l := h
theorem sl_d1 {W : World} {s : Option Addr} {n c : Nat} {l : List Value} (h : Sl W s n c l) : Sl W.drew s n c l := h
/-- An entry that is laid into a frame, at an index. -/
structure LayD where
  f : Int
  i : Int
  b0 : Bool
  b1 : Bool
  b2 : Bool
  b3 : Bool
  b4 : Bool
  b5 : Bool
  b6 : Bool
  b7 : Bool
  b8 : Bool
  b9 : Bool
  b10 : Bool
  b11 : Bool
  F : BitVec 64
theorem snoc_ind {α : Type} {P : List α → Prop} (h0 : P []) (h1 : ∀ l d, P l → P (l ++ [d])) (l : List α) : P l := by
  have : ∀ r : List α, P r.reverse := fun r => by
    induction r with
    | nil => exact h0
    | cons d r ih =>
      rw [List.reverse_cons]
      exact h1 _ _ ih
  have h := this l.reverse
  rwa [List.reverse_reverse] at h
/-- Its cells; its word; where it is laid. -/
def LayD.cells (d : LayD) : List Value := [.int .i64 d.f, .int .i64 d.i, .bool d.b0, .bool d.b1, .bool d.b2, .bool d.b3, .bool d.b4, .bool d.b5, .bool d.b6, .bool d.b7, .bool d.b8, .bool d.b9, .bool d.b10, .bool d.b11, .int .u64 (d.F.toNat : Int)]
def LayD.word (d : LayD) : BitVec 64 := wk (bs d.b0 d.b1 d.b2 d.b3 d.b4 d.b5 d.b6 d.b7 d.b8 d.b9 d.b10 d.b11) d.F 12
def LayD.page (d : LayD) : Nat := (d.f % 8).toNat
def LayD.idx (d : LayD) : Nat := (d.i % 512).toNat
theorem LayD.page_lt (d : LayD) : d.page < 8 := by unfold LayD.page; omega
theorem LayD.idx_lt (d : LayD) : d.idx < 512 := by unfold LayD.idx; omega
/-- A slice of them, from place off of block b on. -/
def LaysAt (w : World) (b off : Nat) (l : List LayD) : Prop := ∀ k d j v, l[k]? = some d → d.cells[j]? = some v → w.cell? ⟨b, off + k * 15 + j, none⟩ = some v
theorem la_be {W W' : World} {b off : Nat} {l : List LayD} (hb : Below W.heap.size W W') (h : LaysAt W b off l) : LaysAt W' b off l := fun k d j v h1 h2 => c_be hb (h k d j v h1 h2)
/-- The memory that they make; the bytes of the document's. -/
def laidM (l : List LayD) : Nat → Nat → BitVec 64 := l.foldl (fun M d => putM M d.page d.idx d.word) (fun _ _ => 0#64)
def laidR (l : List LayD) : List (Nat × BitVec 8) := l.foldl (fun L d => L ++ laidL (d.page * 4096 + 8 * d.idx) d.word 8) []
theorem laidM_add (l : List LayD) (d : LayD) : laidM (l ++ [d]) = putM (laidM l) d.page d.idx d.word := by
  unfold laidM
  rw [List.foldl_append]
  rfl
theorem laidR_add (l : List LayD) (d : LayD) : laidR (l ++ [d]) = laidR l ++ laidL (d.page * 4096 + 8 * d.idx) d.word 8 := by
  unfold laidR
  rw [List.foldl_append]
  rfl
theorem laidR_length (l : List LayD) : (laidR l).length = 8 * l.length := by
  refine snoc_ind (P := fun l => (laidR l).length = 8 * l.length) rfl (fun l d ih => ?_) l
  rw [laidR_add, List.length_append, ih, laidL_length, List.length_append]
  simp
  omega
theorem last_laid (L : List (Nat × BitVec 8)) (A : Nat) (v : BitVec 64) (a : Nat) : ∀ k, lastB (L ++ laidL A v k) a = if A ≤ a ∧ a < A + k then by8 v (a - A) else lastB L a
  | 0 => by rw [if_neg (by omega), laidL, List.append_nil]
  | k + 1 => by
    rw [laidL, ← List.append_assoc, last_add, last_laid L A v a k]
    by_cases h : A + k = a
    · rw [if_pos h, if_pos (by omega), show a - A = k by omega]
    · rw [if_neg h]
      by_cases h2 : A ≤ a ∧ a < A + k
      · rw [if_pos h2, if_pos (by omega)]
      · rw [if_neg h2, if_neg (by omega)]
/-- Both memories say the same. -/
theorem laid_same (l : List LayD) : ∀ p k i, p < 8 → k < 512 → i < 8 → lastB (laidR l) (p * 4096 + 8 * k + i) = by8 (laidM l p k) i := by
  refine snoc_ind (P := fun l => ∀ p k i, p < 8 → k < 512 → i < 8 → lastB (laidR l) (p * 4096 + 8 * k + i) = by8 (laidM l p k) i) ?_ (fun l d ih => ?_) l
  · intro p k i _ _ _
    have h0 : laidM [] p k = 0#64 := rfl
    rw [h0]
    simp [laidR, lastB, by8]
  · intro p k i hp hk hi
    have h1 := d.page_lt
    have h2 := d.idx_lt
    rw [laidR_add, laidM_add, last_laid]
    by_cases e : p = d.page ∧ k = d.idx
    · obtain ⟨rfl, rfl⟩ := e
      rw [if_pos (by omega), putM_same]
      congr 1
      omega
    · rw [if_neg (by omega), putM_else _ _ _ _ _ _ (by omega), ih p k i hp hk hi]
theorem laid_word (l : List LayD) (p k : Nat) (hp : p < 8) (hk : k < 512) : numB (fun i => lastB (laidR l) (p * 4096 + 8 * k + i)) 8 = laidM l p k := by
  rw [numB_congr (g := by8 (laidM l p k)) (fun i hi => laid_same l p k i hp hk hi), whole]
theorem iand_low (x : Int) (m k : Nat) (hm : m + 1 = 2 ^ k) (hk : k < 63) : bits .and .i64 x (m : Int) = x % (2 ^ k : Nat) := by
  have h2 : bits .and .i64 x (m : Int) = IntKind.i64.wrap ((BitVec.ofInt 64 x &&& BitVec.ofInt 64 (m : Int)).toNat : Int) := rfl
  have hp : 2 ^ k ≤ 2 ^ 62 := Nat.pow_le_pow_right (by omega) (by omega)
  have hpos := Nat.two_pow_pos k
  have h62 : (2 : Nat) ^ 62 = 4611686018427387904 := rfl
  have hm2 : (BitVec.ofInt 64 (m : Int)).toNat = m := by
    rw [BitVec.ofInt_natCast, BitVec.toNat_ofNat, Nat.mod_eq_of_lt (by omega)]
  have h3 : (BitVec.ofInt 64 x &&& BitVec.ofInt 64 (m : Int)).toNat = (BitVec.ofInt 64 x).toNat % 2 ^ k := by
    rw [BitVec.toNat_and, hm2, show m = 2 ^ k - 1 by omega, Nat.and_two_pow_sub_one_eq_mod]
  rw [h2, h3, BitVec.toNat_ofInt, IntKind.wrap_i64]
  have h4 : ((x % ((2 ^ 64 : Nat) : Int)).toNat % 2 ^ k : Nat) = (x % ((2 ^ k : Nat) : Int)).toNat := by
    have hd : ((2 ^ k : Nat) : Int) ∣ ((2 ^ 64 : Nat) : Int) := by
      refine Int.natCast_dvd_natCast.2 (Nat.pow_dvd_pow 2 (by omega))
    have h5 := Int.emod_emod_of_dvd x hd
    have h6 : 0 ≤ x % ((2 ^ 64 : Nat) : Int) := Int.emod_nonneg _ (by omega)
    generalize x % ((2 ^ 64 : Nat) : Int) = y at *
    obtain ⟨z, rfl⟩ := Int.eq_ofNat_of_zero_le h6
    rw [← h5, Int.toNat_natCast, ← Int.natCast_emod, Int.toNat_natCast]
  rw [h4]
  have h7 : 0 ≤ x % ((2 ^ k : Nat) : Int) := Int.emod_nonneg _ (by omega)
  have h8 : x % ((2 ^ k : Nat) : Int) < ((2 ^ k : Nat) : Int) := Int.emod_lt_of_pos _ (by omega)
  omega

set_option maxRecDepth 100000 in
set_option maxHeartbeats 8000000 in
theorem laid_some (b off cap : Nat) (l : List LayD) (w : World) (hT : Tab w) (hl : LaysAt w b off l) :
    Calls Tryd.prog 8 #[.slice (some ⟨b, off, none⟩) l.length cap] w (fun e W' => ∃ R N sa na ca sb nb cb, e = .returned (.tuple #[.pointer (some ⟨R, 0, none⟩), .agg #[.int .i64 8, .slice sa na ca, .slice sb nb cb, .slice none 0 0]]) ∧ MemW W' R N 8 (laidM (l.take 60)) ∧ Sl W' sa na ca (numA (laidR (l.take 60))) ∧ Sl W' sb nb cb (numV (laidR (l.take 60))) ∧ Below w.heap.size w W' ∧ w.heap.size ≤ R ∧ w.heap.size ≤ N) := by
  have c1 : ∀ W : World, Calls Tryd.prog 24 #[.int .i64 8] W fun e w' => e = .returned (.tuple #[.pointer (some ⟨W.heap.size + 1, 0, none⟩), .int .i64 0]) ∧ MemW w' (W.heap.size + 1) W.heap.size 8 (fun _ _ => 0#64) ∧ Below W.heap.size W w' ∧ w'.heap.size = W.heap.size + 2 := fun W => new_w 8 (by omega) (by omega) W
  have c2 := fun W => rnew_any W
  have C1 := hide c1
  have C2 := hide c2
  have HL := hide hl
  clear c1 c2 hl
  have SS := cell_same
  have LB' := ltB_add
  have LS := ltB_self
  have LA' := alloc_reads
  have LH := alloc_holds
  go_enter Tryd.func8, Tryd.ntmps8
  go_wp2_with (first | (go_at_call 24; (with_reducible refine (C1.out _).mono ?_); rintro e w1 ⟨rfl, hm1, hb1, hs1⟩; have hr1 := below_reads hb1; have hh1 := below_holds hb1) | (go_at_call 25; (with_reducible refine (C2.out _).mono ?_); rintro e w2 ⟨rfl, hb2⟩; have hr2 := below_reads hb2; have hh2 := below_holds hb2; obtain ⟨m2, hs2⟩ := below_grew hb2))
  refine wp_abs (fun W => MemW W (w.heap.size + 1 + 1) (w.heap.size + 1) 8 (fun _ _ => 0#64) ∧ W.cell? ⟨w.heap.size + 1 + 2 + m2, 0, none⟩ = some (.int .i64 8) ∧ W.cell? ⟨w.heap.size + 1 + 2 + m2, 1, none⟩ = some (.slice none 0 0) ∧ W.cell? ⟨w.heap.size + 1 + 2 + m2, 2, none⟩ = some (.slice none 0 0) ∧ W.cell? ⟨w.heap.size + 1 + 2 + m2, 3, none⟩ = some (.slice none 0 0) ∧ Own W (w.heap.size + 1 + 2 + m2) 4 ∧ Own W w.heap.size 4 ∧ Below w.heap.size w W ∧ w.heap.size + 1 + 2 + m2 < W.heap.size) ?_ ?_
  · have hm2 : MemW w1 (w.heap.size + 1 + 1) (w.heap.size + 1) 8 (fun _ _ => 0#64) := by simpa using hm1
    have hn2 : w.heap.size + 1 + 2 + m2 = w2.heap.size := by rw [hs2, hs1]; simp
    refine ⟨?_, ?_, ?_, ?_, ?_, ?_, ?_, ?_, ?_⟩
    all_goals first | ((repeat (first | with_reducible assumption | with_reducible refine mw_dr _ ?_ | with_reducible refine mw_d1 ?_ | with_reducible refine mw_al _ ?_ | (with_reducible apply mw_be; with_reducible assumption))); done) | (rw [hn2]; first | exact o_new rfl (by simp) | (simp [go_sem]; done)) | (first | with_reducible assumption | ((repeat (first | with_reducible assumption | with_reducible refine c_dr _ ?_ | with_reducible refine c_d1 ?_ | with_reducible refine c_al _ ?_ | (with_reducible refine c_set ?_ ?_; focus (dsimp only; omega)) | (with_reducible apply c_be; with_reducible assumption))); done) | ((repeat (first | with_reducible assumption | with_reducible refine o_dr _ ?_ | with_reducible refine o_d1 ?_ | with_reducible refine o_set ?_ | (with_reducible refine o_new ?_ ?_; (focus (simp)); (focus (simp))) | with_reducible refine o_al _ ?_ | (with_reducible apply o_be; with_reducible assumption))); done) | ((repeat (first | with_reducible assumption | with_reducible exact Below.refl _ _ | with_reducible refine Below.drew ?_ | with_reducible refine below_drewN ?_ _ | with_reducible refine bw_alloc ?_ _ | (with_reducible refine bw_set ?_ ?_ _; focus (dsimp only; omega)) | (with_reducible apply bw_behind; with_reducible assumption))); done) | (simp [go_sem, *]; omega) | (simp (maxDischargeDepth := 4) [go_sem, *]; done))
  rintro w3 ⟨hM3, q0, q1, q2, q3, oB, oR, hB3, hx3⟩
  clear hm1 hb1 hs1 hr1 hh1 hb2 hs2 hr2 hh2
  have hx0 : w.heap.size + 3 ≤ w.heap.size + 1 + 2 + m2 := by omega
  generalize w.heap.size + 1 + 2 + m2 = bx at *
  clear m2 w1 w2
  have HM3 := hide hM3
  clear hM3
  go_loopw [8] (fun i wr => ∃ (k : Nat) (sa : Option Addr) (na ca : Nat) (sb : Option Addr) (nb cb : Nat), k ≤ l.length ∧ k ≤ 60 ∧ i = .int .i64 (k : Int) ∧ Hid (MemW wr (w.heap.size + 1 + 1) (w.heap.size + 1) 8 (laidM (l.take k))) ∧ wr.cell? ⟨bx, 0, none⟩ = some (.int .i64 8) ∧ wr.cell? ⟨bx, 1, none⟩ = some (.slice sa na ca) ∧ wr.cell? ⟨bx, 2, none⟩ = some (.slice sb nb cb) ∧ wr.cell? ⟨bx, 3, none⟩ = some (.slice none 0 0) ∧ Own wr bx 4 ∧ Own wr w.heap.size 4 ∧ Hid (Sl wr sa na ca (numA (laidR (l.take k)))) ∧ Hid (Sl wr sb nb cb (numV (laidR (l.take k)))) ∧ Hid (Away bx sa ∧ Away w.heap.size sa ∧ Away (w.heap.size + 1) sa ∧ Away bx sb ∧ Away w.heap.size sb ∧ Away (w.heap.size + 1) sb) ∧ Below w.heap.size w wr ∧ bx < wr.heap.size) (fun i _ => 60 - (intOf i).toNat)
  case atStart =>
    refine ⟨0, none, 0, 0, none, 0, 0, by omega, by omega, rfl, HM3, q0, q1, q2, q3, oB, oR, ⟨rfl, .inl ⟨rfl, rfl, rfl⟩⟩, ⟨rfl, .inl ⟨rfl, rfl, rfl⟩⟩, ⟨?_, ?_, ?_, ?_, ?_, ?_⟩, hB3, hx3⟩
    all_goals (intro g hg; cases hg)
  case round =>
    clear HM3 q0 q1 q2 q3 oB oR hB3 hx3
    obtain ⟨k, sa, na, ca, sb, nb, cb, hk, hk60, rfl, HM, q0, q1, q2, q3, oB, oR, SA, SB, HAW, hB, hx⟩ := hrel
    by_cases hlt : k < l.length ∧ k < 60
    · obtain ⟨hk1, hk2⟩ := hlt
      obtain ⟨d, hd⟩ : ∃ d, l[k]? = some d := ⟨_, List.getElem?_eq_getElem hk1⟩
      have a0 := c_be hB (HL.out k d 0 _ hd rfl)
      have a1 := c_be hB (HL.out k d 1 _ hd rfl)
      have a2 := c_be hB (HL.out k d 2 _ hd rfl)
      have a3 := c_be hB (HL.out k d 3 _ hd rfl)
      have a4 := c_be hB (HL.out k d 4 _ hd rfl)
      have a5 := c_be hB (HL.out k d 5 _ hd rfl)
      have a6 := c_be hB (HL.out k d 6 _ hd rfl)
      have a7 := c_be hB (HL.out k d 7 _ hd rfl)
      have a8 := c_be hB (HL.out k d 8 _ hd rfl)
      have a9 := c_be hB (HL.out k d 9 _ hd rfl)
      have a10 := c_be hB (HL.out k d 10 _ hd rfl)
      have a11 := c_be hB (HL.out k d 11 _ hd rfl)
      have a12 := c_be hB (HL.out k d 12 _ hd rfl)
      have a13 := c_be hB (HL.out k d 13 _ hd rfl)
      have a14 := c_be hB (HL.out k d 14 _ hd rfl)
      rw [Nat.add_zero] at a0
      have p1 : bits .and .i64 d.f 7 = (d.page : Int) := by show bits .and .i64 d.f ((7 : Nat) : Int) = _; rw [iand_low d.f 7 3 rfl (by omega)]; unfold LayD.page; omega
      have p2 : bits .and .i64 d.i 511 = (d.idx : Int) := by show bits .and .i64 d.i ((511 : Nat) : Int) = _; rw [iand_low d.i 511 9 rfl (by omega)]; unfold LayD.idx; omega
      have hpl := d.page_lt
      have hil := d.idx_lt
      have p3 : IntKind.u64.wrap (d.page : Int) = (d.page : Int) := by rw [IntKind.wrap_u64]; omega
      have p4 : IntKind.u64.wrap (d.idx : Int) = (d.idx : Int) := by rw [IntKind.wrap_u64]; omega
      have p5 : IntKind.u64.wrap ((d.page : Int) * 4096) = ((d.page * 4096 : Nat) : Int) := by rw [IntKind.wrap_u64]; omega
      have p6 : IntKind.u64.wrap ((d.idx : Int) * 8) = ((8 * d.idx : Nat) : Int) := by rw [IntKind.wrap_u64]; omega
      have p7 : IntKind.u64.wrap (((d.page * 4096 : Nat) : Int) + ((8 * d.idx : Nat) : Int)) = ((d.page * 4096 + 8 * d.idx : Nat) : Int) := by rw [IntKind.wrap_u64]; omega
      have g1 : (k : Int) < (l.length : Int) := by omega
      have g2 : (k : Int) < 60 := by omega
      have g3 : (0 : Int) ≤ (k : Int) := by omega
      have CW := hide (fun W (h : Tab W) => word_any d.b0 d.b1 d.b2 d.b3 d.b4 d.b5 d.b6 d.b7 d.b8 d.b9 d.b10 d.b11 d.F W h)
      have CR := hide (fun W => rword_any d.b0 d.b1 d.b2 d.b3 d.b4 d.b5 d.b6 d.b7 d.b8 d.b9 d.b10 d.b11 d.F W)
      have CS := hide (fun W h => store_w hpl hil (by omega : 8 ≤ 64) d.word (w.heap.size + 1 + 1) (w.heap.size + 1) (laidM (l.take k)) W h)
      have CQ := hide (fun W x y => rstore_any sa na ca sb nb cb (laidR (l.take k)) (d.page * 4096 + 8 * d.idx) d.word (by omega) (by omega) (by rw [laidR_length, List.length_take]; omega) W x y)
      have Hn : Hid (l.take (k + 1) = l.take k ++ [d]) := hide (by rw [List.take_add_one, hd]; rfl)
      rw [show (wk (bs d.b0 d.b1 d.b2 d.b3 d.b4 d.b5 d.b6 d.b7 d.b8 d.b9 d.b10 d.b11) d.F 12) = d.word from rfl] at CW
      rw [← word_is, show (wk (bs d.b0 d.b1 d.b2 d.b3 d.b4 d.b5 d.b6 d.b7 d.b8 d.b9 d.b10 d.b11) d.F 12) = d.word from rfl] at CR
      generalize d.f = DF at *
      generalize d.i = DI at *
      generalize d.b0 = b0 at *
      generalize d.b1 = b1 at *
      generalize d.b2 = b2 at *
      generalize d.b3 = b3 at *
      generalize d.b4 = b4 at *
      generalize d.b5 = b5 at *
      generalize d.b6 = b6 at *
      generalize d.b7 = b7 at *
      generalize d.b8 = b8 at *
      generalize d.b9 = b9 at *
      generalize d.b10 = b10 at *
      generalize d.b11 = b11 at *
      generalize d.F = F at *
      generalize ((d.page * 4096 : Nat) : Int) = X at *
      generalize ((8 * d.idx : Nat) : Int) = Y at *
      generalize ((d.page * 4096 + 8 * d.idx : Nat) : Int) = A at *
      have HP := hide d.page_lt
      clear hpl hil
      generalize (d.page : Int) = P at *
      generalize (d.idx : Int) = I at *
      generalize (d.word.toNat : Int) = V at *
      go_upto_region 6 with fail
      go_quiet (fail)
      go_upto_region 8 with (first | (go_at_call 20; (with_reducible refine (CW.out _ ?_).mono ?_); (refine hT.behind ?_; repeat (first | with_reducible assumption | with_reducible exact Below.refl _ _ | with_reducible refine Below.drew ?_ | with_reducible refine below_drewN ?_ _ | with_reducible refine bw_alloc ?_ _ | (with_reducible refine bw_set ?_ ?_ _; focus (dsimp only; omega)) | (with_reducible apply bw_behind; with_reducible assumption))); rintro e w4 ⟨rfl, hb4⟩; have hr4 := below_reads hb4; have hh4 := below_holds hb4; obtain ⟨m4, hs4⟩ := below_grew hb4) | (go_at_call 19; (with_reducible refine (CS.out _ ?_).mono ?_); (focus (have hMw := HM.out; repeat (first | with_reducible assumption | with_reducible refine mw_dr _ ?_ | with_reducible refine mw_d1 ?_ | with_reducible refine mw_al _ ?_ | (with_reducible apply mw_be; with_reducible assumption)))); rintro e w5 ⟨rfl, hM5, ho5⟩))
      refine wp_abs (fun W => MemW W (w.heap.size + 1 + 1) (w.heap.size + 1) 8 (putM (laidM (l.take k)) d.page d.idx d.word) ∧ Sl W sa na ca (numA (laidR (l.take k))) ∧ Sl W sb nb cb (numV (laidR (l.take k))) ∧ Own W bx 4 ∧ Own W w.heap.size 4 ∧ Below w.heap.size w W ∧ W.cell? ⟨bx, 0, none⟩ = some (.int .i64 8) ∧ W.cell? ⟨bx, 1, none⟩ = some (.slice sa na ca) ∧ W.cell? ⟨bx, 2, none⟩ = some (.slice sb nb cb) ∧ W.cell? ⟨bx, 3, none⟩ = some (.slice none 0 0) ∧ W.frozen? ⟨bx, 0, none⟩ = false ∧ W.frozen? ⟨bx, 1, none⟩ = false ∧ W.frozen? ⟨bx, 2, none⟩ = false ∧ W.frozen? ⟨bx, 3, none⟩ = false ∧ W.cell? ⟨b, off + k * 15 + 2, none⟩ = some (.bool b0) ∧ W.cell? ⟨b, off + k * 15 + 3, none⟩ = some (.bool b1) ∧ W.cell? ⟨b, off + k * 15 + 4, none⟩ = some (.bool b2) ∧ W.cell? ⟨b, off + k * 15 + 5, none⟩ = some (.bool b3) ∧ W.cell? ⟨b, off + k * 15 + 6, none⟩ = some (.bool b4) ∧ W.cell? ⟨b, off + k * 15 + 7, none⟩ = some (.bool b5) ∧ W.cell? ⟨b, off + k * 15 + 8, none⟩ = some (.bool b6) ∧ W.cell? ⟨b, off + k * 15 + 9, none⟩ = some (.bool b7) ∧ W.cell? ⟨b, off + k * 15 + 10, none⟩ = some (.bool b8) ∧ W.cell? ⟨b, off + k * 15 + 11, none⟩ = some (.bool b9) ∧ W.cell? ⟨b, off + k * 15 + 12, none⟩ = some (.bool b10) ∧ W.cell? ⟨b, off + k * 15 + 13, none⟩ = some (.bool b11) ∧ W.cell? ⟨b, off + k * 15 + 14, none⟩ = some (.int .u64 (F.toNat : Int))) ?_ ?_
      · have hbn : b ≠ w.heap.size + 1 := by
          have : b < w.heap.size := World.block_lt_of_cell? w _ (HL.out k d 0 _ hd rfl)
          omega
        obtain ⟨_, _, v3, _, _, v6⟩ := HAW.out
        have s4 : Sl w4 sa na ca (numA (laidR (l.take k))) := sl_be hb4 SA.out
        have t4 : Sl w4 sb nb cb (numV (laidR (l.take k))) := sl_be hb4 SB.out
        refine ⟨?_, ?_, ?_, ?_, ?_, ?_, ?_, ?_, ?_, ?_, ?_, ?_, ?_, ?_, ?_, ?_, ?_, ?_, ?_, ?_, ?_, ?_, ?_, ?_, ?_, ?_, ?_⟩
        · exact hM5
        · exact sl_out ho5 v3 s4
        · exact sl_out ho5 v6 t4
        · refine own_out ho5 (by omega) ?_
          repeat (first | with_reducible assumption | with_reducible refine o_dr _ ?_ | with_reducible refine o_d1 ?_ | with_reducible refine o_set ?_ | (with_reducible refine o_new ?_ ?_; (focus (simp)); (focus (simp))) | with_reducible refine o_al _ ?_ | (with_reducible apply o_be; with_reducible assumption))
        · refine own_out ho5 (by omega) ?_
          repeat (first | with_reducible assumption | with_reducible refine o_dr _ ?_ | with_reducible refine o_d1 ?_ | with_reducible refine o_set ?_ | (with_reducible refine o_new ?_ ?_; (focus (simp)); (focus (simp))) | with_reducible refine o_al _ ?_ | (with_reducible apply o_be; with_reducible assumption))
        · have f4 : Below w.heap.size w w4 := by
            repeat (first | with_reducible assumption | with_reducible exact Below.refl _ _ | with_reducible refine Below.drew ?_ | with_reducible refine below_drewN ?_ _ | with_reducible refine bw_alloc ?_ _ | (with_reducible refine bw_set ?_ ?_ _; focus (dsimp only; omega)) | (with_reducible apply bw_behind; with_reducible assumption))
          exact f4.trans (ho5.below (by omega) (by have := f4.size; omega))
        iterate 4 (refine ho5.reads (by dsimp only; omega) ?_; focus (repeat (first | with_reducible assumption | with_reducible refine c_dr _ ?_ | with_reducible refine c_d1 ?_ | with_reducible refine c_al _ ?_ | (with_reducible refine c_set ?_ ?_; focus (dsimp only; omega)) | (with_reducible apply c_be; with_reducible assumption))))
        iterate 4 (refine Own.free (k := 4) (own_out ho5 (by omega) ?_) _ (by omega); focus (repeat (first | with_reducible assumption | with_reducible refine o_dr _ ?_ | with_reducible refine o_d1 ?_ | with_reducible refine o_set ?_ | (with_reducible refine o_new ?_ ?_; (focus (simp)); (focus (simp))) | with_reducible refine o_al _ ?_ | (with_reducible apply o_be; with_reducible assumption))))
        all_goals refine ho5.reads (by dsimp only; omega) ?_
        all_goals repeat (first | with_reducible assumption | with_reducible refine c_dr _ ?_ | with_reducible refine c_d1 ?_ | with_reducible refine c_al _ ?_ | (with_reducible refine c_set ?_ ?_; focus (dsimp only; omega)) | (with_reducible apply c_be; with_reducible assumption))
      rintro w6 ⟨hM6, sA6, sB6, oB6, oR6, hB6, q0, q1, q2, q3, z0, z1, z2, z3, a2, a3, a4, a5, a6, a7, a8, a9, a10, a11, a12, a13, a14⟩
      clear hM5 ho5 hb4 hr4 hh4 hs4 m4 w5 w4
      have t6 : ltB bx w6.heap.size = true := decide_eq_true (World.block_lt_of_cell? w6 _ q0)
      go_region_with (first | (go_at_call 27; (with_reducible refine (CR.out _).mono ?_); rintro e w7 ⟨rfl, hb7⟩; have hr7 := below_reads hb7; have hh7 := below_holds hb7; have hq7 := ltB_be (b := bx) hb7 (by first | assumption | (simp; assumption))) | (go_at_call 26; (with_reducible refine (CQ.out _ (by repeat (first | with_reducible assumption | (with_reducible apply sl_be; with_reducible assumption) | with_reducible refine sl_dr _ ?_ | with_reducible refine sl_d1 ?_)) (by repeat (first | with_reducible assumption | (with_reducible apply sl_be; with_reducible assumption) | with_reducible refine sl_dr _ ?_ | with_reducible refine sl_d1 ?_))).mono ?_); rintro e w8 ⟨sa', na', ca', sb', nb', cb', rfl, nA, nB, hb8, nF, nG⟩; have hr8 := below_reads hb8; have hh8 := below_holds hb8; have hq8 := ltB_be (b := bx) hb8 (by first | assumption | (simp; assumption))))
      all_goals
        have hq9 : bx < w7.heap.size := of_decide_eq_true hq7
        try simp only [s_d1, s_dr] at nF nG
        have v1 : ∀ m, m ≤ bx → Away m sa' := fun m hm g hg => by have := nF g hg; omega
        have v2 : ∀ m, m ≤ bx → Away m sb' := fun m hm g hg => by have := nG g hg; omega
        go_wp2
        go_roundw
        case rel =>
          refine ⟨k + 1, sa', na', ca', sb', nb', cb', by omega, by omega, by go_num, ?_, ?_, ?_, ?_, ?_, ?_, ?_, ?_, ?_, ⟨v1 _ (by omega), v1 _ (by omega), v1 _ (by omega), v2 _ (by omega), v2 _ (by omega), v2 _ (by omega)⟩, ?_, ?_⟩
          · rw [Hn.out, laidM_add]
            refine hide ?_
            repeat (first | with_reducible assumption | with_reducible refine mw_dr _ ?_ | with_reducible refine mw_d1 ?_ | with_reducible refine mw_al _ ?_ | (with_reducible apply mw_be; with_reducible assumption) | (with_reducible refine mw_set ?_ ?_ ?_; (focus (dsimp only; omega)); (focus (dsimp only; omega))))
          · iterate 4 (first | (refine set_at (k := 4) ?_ (by omega) ?_; (focus (repeat (first | with_reducible assumption | with_reducible refine o_dr _ ?_ | with_reducible refine o_d1 ?_ | with_reducible refine o_set ?_ | (with_reducible refine o_new ?_ ?_; (focus (simp)); (focus (simp))) | with_reducible refine o_al _ ?_ | (with_reducible apply o_be; with_reducible assumption)))); (first | (rw [if_pos rfl]; done) | rw [if_neg (by omega)])) | skip)
          · iterate 4 (first | (refine set_at (k := 4) ?_ (by omega) ?_; (focus (repeat (first | with_reducible assumption | with_reducible refine o_dr _ ?_ | with_reducible refine o_d1 ?_ | with_reducible refine o_set ?_ | (with_reducible refine o_new ?_ ?_; (focus (simp)); (focus (simp))) | with_reducible refine o_al _ ?_ | (with_reducible apply o_be; with_reducible assumption)))); (first | (rw [if_pos rfl]; done) | rw [if_neg (by omega)])) | skip)
          · iterate 4 (first | (refine set_at (k := 4) ?_ (by omega) ?_; (focus (repeat (first | with_reducible assumption | with_reducible refine o_dr _ ?_ | with_reducible refine o_d1 ?_ | with_reducible refine o_set ?_ | (with_reducible refine o_new ?_ ?_; (focus (simp)); (focus (simp))) | with_reducible refine o_al _ ?_ | (with_reducible apply o_be; with_reducible assumption)))); (first | (rw [if_pos rfl]; done) | rw [if_neg (by omega)])) | skip)
          · iterate 4 (first | (refine set_at (k := 4) ?_ (by omega) ?_; (focus (repeat (first | with_reducible assumption | with_reducible refine o_dr _ ?_ | with_reducible refine o_d1 ?_ | with_reducible refine o_set ?_ | (with_reducible refine o_new ?_ ?_; (focus (simp)); (focus (simp))) | with_reducible refine o_al _ ?_ | (with_reducible apply o_be; with_reducible assumption)))); (first | (rw [if_pos rfl]; done) | rw [if_neg (by omega)])) | skip)
          · repeat (first | with_reducible assumption | with_reducible refine o_dr _ ?_ | with_reducible refine o_d1 ?_ | with_reducible refine o_set ?_ | (with_reducible refine o_new ?_ ?_; (focus (simp)); (focus (simp))) | with_reducible refine o_al _ ?_ | (with_reducible apply o_be; with_reducible assumption))
          · repeat (first | with_reducible assumption | with_reducible refine o_dr _ ?_ | with_reducible refine o_d1 ?_ | with_reducible refine o_set ?_ | (with_reducible refine o_new ?_ ?_; (focus (simp)); (focus (simp))) | with_reducible refine o_al _ ?_ | (with_reducible apply o_be; with_reducible assumption))
          · rw [Hn.out, laidR_add]
            exact hide (sl_set (sl_set (sl_set (sl_set nA (v1 bx (by omega))) (v1 bx (by omega))) (v1 bx (by omega))) (v1 bx (by omega)))
          · rw [Hn.out, laidR_add]
            exact hide (sl_set (sl_set (sl_set (sl_set nB (v2 bx (by omega))) (v2 bx (by omega))) (v2 bx (by omega))) (v2 bx (by omega)))
          · repeat (first | with_reducible assumption | with_reducible exact Below.refl _ _ | with_reducible refine Below.drew ?_ | with_reducible refine below_drewN ?_ _ | with_reducible refine bw_alloc ?_ _ | (with_reducible refine bw_set ?_ ?_ _; focus (dsimp only; omega)) | (with_reducible apply bw_behind; with_reducible assumption))
          · simp only [s_set]
            exact of_decide_eq_true hq8
        case measure => simp [intOf]; omega
    · have ht : l.take 60 = l.take k := by
        rcases Nat.lt_or_ge k 60 with h | h
        · rw [List.take_of_length_le (by omega), List.take_of_length_le (by omega)]
        · rw [show k = 60 by omega]
      have HTK := hide ht
      have f0 := oR.free 0 (by omega)
      have f1 := oR.free 1 (by omega)
      have f2 := oR.free 2 (by omega)
      have f3 := oR.free 3 (by omega)
      obtain ⟨u0, v0⟩ := oR.val 0 (by omega)
      obtain ⟨u1, v1⟩ := oR.val 1 (by omega)
      obtain ⟨u2, v2⟩ := oR.val 2 (by omega)
      obtain ⟨u3, v3⟩ := oR.val 3 (by omega)
      have hne : (bx == w.heap.size) = false := by simp; omega
      clear ht
      rcases Nat.lt_or_ge k l.length with h | h
      · have g1 : (k : Int) < (l.length : Int) := by omega
        have g2 : ¬ ((k : Int) < 60) := by omega
        go_wp2
        go_region
        go_wp2
        refine bodyPost_ret (v := .tuple #[.pointer (some ⟨w.heap.size + 1 + 1, 0, none⟩), .agg #[.int .i64 8, .slice sa na ca, .slice sb nb cb, .slice none 0 0]]) (by simp (maxDischargeDepth := 4) [results, Tryd.results8, go_sem, *]) rfl ?_
        refine ⟨w.heap.size + 1 + 1, w.heap.size + 1, sa, na, ca, sb, nb, cb, rfl, ?_, ?_, ?_, ?_, by omega, by omega⟩
        · rw [HTK.out]
          have hMw := HM.out
          repeat (first | with_reducible assumption | with_reducible refine mw_dr _ ?_ | with_reducible refine mw_d1 ?_ | with_reducible refine mw_al _ ?_ | (with_reducible apply mw_be; with_reducible assumption) | (with_reducible refine mw_set ?_ ?_ ?_; (focus (dsimp only; omega)); (focus (dsimp only; omega))))
        · rw [HTK.out]
          exact sl_set (sl_set (sl_set (sl_set SA.out HAW.out.2.1) HAW.out.2.1) HAW.out.2.1) HAW.out.2.1
        · rw [HTK.out]
          exact sl_set (sl_set (sl_set (sl_set SB.out HAW.out.2.2.2.2.1) HAW.out.2.2.2.2.1) HAW.out.2.2.2.2.1) HAW.out.2.2.2.2.1
        · repeat (first | with_reducible assumption | with_reducible exact Below.refl _ _ | with_reducible refine Below.drew ?_ | with_reducible refine below_drewN ?_ _ | with_reducible refine bw_alloc ?_ _ | (with_reducible refine bw_set ?_ ?_ _; focus (dsimp only; omega)) | (with_reducible apply bw_behind; with_reducible assumption))
      · have g1 : ¬ ((k : Int) < (l.length : Int)) := by omega
        go_wp2
        go_region
        go_wp2
        refine bodyPost_ret (v := .tuple #[.pointer (some ⟨w.heap.size + 1 + 1, 0, none⟩), .agg #[.int .i64 8, .slice sa na ca, .slice sb nb cb, .slice none 0 0]]) (by simp (maxDischargeDepth := 4) [results, Tryd.results8, go_sem, *]) rfl ?_
        refine ⟨w.heap.size + 1 + 1, w.heap.size + 1, sa, na, ca, sb, nb, cb, rfl, ?_, ?_, ?_, ?_, by omega, by omega⟩
        · rw [HTK.out]
          have hMw := HM.out
          repeat (first | with_reducible assumption | with_reducible refine mw_dr _ ?_ | with_reducible refine mw_d1 ?_ | with_reducible refine mw_al _ ?_ | (with_reducible apply mw_be; with_reducible assumption) | (with_reducible refine mw_set ?_ ?_ ?_; (focus (dsimp only; omega)); (focus (dsimp only; omega))))
        · rw [HTK.out]
          exact sl_set (sl_set (sl_set (sl_set SA.out HAW.out.2.1) HAW.out.2.1) HAW.out.2.1) HAW.out.2.1
        · rw [HTK.out]
          exact sl_set (sl_set (sl_set (sl_set SB.out HAW.out.2.2.2.2.1) HAW.out.2.2.2.2.1) HAW.out.2.2.2.2.1) HAW.out.2.2.2.2.1
        · repeat (first | with_reducible assumption | with_reducible exact Below.refl _ _ | with_reducible refine Below.drew ?_ | with_reducible refine below_drewN ?_ _ | with_reducible refine bw_alloc ?_ _ | (with_reducible refine bw_set ?_ ?_ _; focus (dsimp only; omega)) | (with_reducible apply bw_behind; with_reducible assumption))

set_option maxRecDepth 100000 in
set_option maxHeartbeats 8000000 in
theorem laid_nil (s : Option Addr) (c : Nat) (w : World) :
    Calls Tryd.prog 8 #[.slice s 0 c] w (fun e W' => ∃ R N sa na ca sb nb cb, e = .returned (.tuple #[.pointer (some ⟨R, 0, none⟩), .agg #[.int .i64 8, .slice sa na ca, .slice sb nb cb, .slice none 0 0]]) ∧ MemW W' R N 8 (laidM []) ∧ Sl W' sa na ca (numA (laidR [])) ∧ Sl W' sb nb cb (numV (laidR [])) ∧ Below w.heap.size w W' ∧ w.heap.size ≤ R ∧ w.heap.size ≤ N) := by
  have c1 : ∀ W : World, Calls Tryd.prog 24 #[.int .i64 8] W fun e w' => e = .returned (.tuple #[.pointer (some ⟨W.heap.size + 1, 0, none⟩), .int .i64 0]) ∧ MemW w' (W.heap.size + 1) W.heap.size 8 (fun _ _ => 0#64) ∧ Below W.heap.size W w' ∧ w'.heap.size = W.heap.size + 2 := fun W => new_w 8 (by omega) (by omega) W
  have c2 := fun W => rnew_any W
  have C1 := hide c1
  have C2 := hide c2
  clear c1 c2
  have SS := cell_same
  have LB' := ltB_add
  have LS := ltB_self
  have LA' := alloc_reads
  have LH := alloc_holds
  go_enter Tryd.func8, Tryd.ntmps8
  go_wp2_with (first | (go_at_call 24; (with_reducible refine (C1.out _).mono ?_); rintro e w1 ⟨rfl, hm1, hb1, hs1⟩; have hr1 := below_reads hb1; have hh1 := below_holds hb1) | (go_at_call 25; (with_reducible refine (C2.out _).mono ?_); rintro e w2 ⟨rfl, hb2⟩; have hr2 := below_reads hb2; have hh2 := below_holds hb2; obtain ⟨m2, hs2⟩ := below_grew hb2))
  refine wp_loop_rounds 1 ?_
  rw [rounds_succ]
  go_wp2
  refine wp_abs (fun W => MemW W (w.heap.size + 1 + 1) (w.heap.size + 1) 8 (fun _ _ => 0#64) ∧ W.cell? ⟨w.heap.size + 1 + 2 + m2, 0, none⟩ = some (.int .i64 8) ∧ W.cell? ⟨w.heap.size + 1 + 2 + m2, 1, none⟩ = some (.slice none 0 0) ∧ W.cell? ⟨w.heap.size + 1 + 2 + m2, 2, none⟩ = some (.slice none 0 0) ∧ W.cell? ⟨w.heap.size + 1 + 2 + m2, 3, none⟩ = some (.slice none 0 0) ∧ Own W (w.heap.size + 1 + 2 + m2) 4 ∧ Own W w.heap.size 4 ∧ Below w.heap.size w W ∧ w.heap.size + 1 + 2 + m2 < W.heap.size) ?_ ?_
  · have hm2 : MemW w1 (w.heap.size + 1 + 1) (w.heap.size + 1) 8 (fun _ _ => 0#64) := by simpa using hm1
    have hn2 : w.heap.size + 1 + 2 + m2 = w2.heap.size := by rw [hs2, hs1]; simp
    refine ⟨?_, ?_, ?_, ?_, ?_, ?_, ?_, ?_, ?_⟩
    all_goals first | ((repeat (first | with_reducible assumption | with_reducible refine mw_dr _ ?_ | with_reducible refine mw_d1 ?_ | with_reducible refine mw_al _ ?_ | (with_reducible apply mw_be; with_reducible assumption))); done) | (rw [hn2]; first | exact o_new rfl (by simp) | (simp [go_sem]; done)) | (first | with_reducible assumption | ((repeat (first | with_reducible assumption | with_reducible refine c_dr _ ?_ | with_reducible refine c_d1 ?_ | with_reducible refine c_al _ ?_ | (with_reducible refine c_set ?_ ?_; focus (dsimp only; omega)) | (with_reducible apply c_be; with_reducible assumption))); done) | ((repeat (first | with_reducible assumption | with_reducible refine o_dr _ ?_ | with_reducible refine o_d1 ?_ | with_reducible refine o_set ?_ | (with_reducible refine o_new ?_ ?_; (focus (simp)); (focus (simp))) | with_reducible refine o_al _ ?_ | (with_reducible apply o_be; with_reducible assumption))); done) | ((repeat (first | with_reducible assumption | with_reducible exact Below.refl _ _ | with_reducible refine Below.drew ?_ | with_reducible refine below_drewN ?_ _ | with_reducible refine bw_alloc ?_ _ | (with_reducible refine bw_set ?_ ?_ _; focus (dsimp only; omega)) | (with_reducible apply bw_behind; with_reducible assumption))); done) | (simp [go_sem, *]; omega) | (simp (maxDischargeDepth := 4) [go_sem, *]; done))
  rintro w3 ⟨hM3, q0, q1, q2, q3, oB, oR, hB3, hx3⟩
  clear hm1 hb1 hs1 hr1 hh1 hb2 hs2 hr2 hh2
  have hx0 : w.heap.size + 3 ≤ w.heap.size + 1 + 2 + m2 := by omega
  generalize w.heap.size + 1 + 2 + m2 = bx at *
  clear m2 w1 w2
  have hM3 := hide hM3
  have f0 := oR.free 0 (by omega)
  have f1 := oR.free 1 (by omega)
  have f2 := oR.free 2 (by omega)
  have f3 := oR.free 3 (by omega)
  obtain ⟨u0, v0⟩ := oR.val 0 (by omega)
  obtain ⟨u1, v1⟩ := oR.val 1 (by omega)
  obtain ⟨u2, v2⟩ := oR.val 2 (by omega)
  obtain ⟨u3, v3⟩ := oR.val 3 (by omega)
  have hne : (bx == w.heap.size) = false := by simp; omega
  go_region
  go_wp2
  refine bodyPost_ret (v := .tuple #[.pointer (some ⟨w.heap.size + 1 + 1, 0, none⟩), .agg #[.int .i64 8, .slice none 0 0, .slice none 0 0, .slice none 0 0]]) (by simp (maxDischargeDepth := 4) [results, Tryd.results8, go_sem, *]) rfl ?_
  refine ⟨w.heap.size + 1 + 1, w.heap.size + 1, none, 0, 0, none, 0, 0, rfl, ?_, ⟨rfl, .inl ⟨rfl, rfl, rfl⟩⟩, ⟨rfl, .inl ⟨rfl, rfl, rfl⟩⟩, ?_, by omega, by omega⟩
  · have hMw : MemW w3 (w.heap.size + 1 + 1) (w.heap.size + 1) 8 (laidM []) := hM3.out
    repeat (first | with_reducible assumption | with_reducible refine mw_dr _ ?_ | with_reducible refine mw_d1 ?_ | with_reducible refine mw_al _ ?_ | (with_reducible apply mw_be; with_reducible assumption) | (with_reducible refine mw_set ?_ ?_ ?_; (focus (dsimp only; omega)); (focus (dsimp only; omega))))
  · repeat (first | with_reducible assumption | with_reducible exact Below.refl _ _ | with_reducible refine Below.drew ?_ | with_reducible refine below_drewN ?_ _ | with_reducible refine bw_alloc ?_ _ | (with_reducible refine bw_set ?_ ?_ _; focus (dsimp only; omega)) | (with_reducible apply bw_behind; with_reducible assumption))
end Go.Proofs.YtnookalplejneaaDoor
