/-
  Texts laid one behind the other: InstOne0, AsmArg, AsmBackMath, AsmMarksMath, AsmMarksProg.
  When two instructions are the same; and the law's own instance (one).
  A slice of instructions as it is handed in; words that are handed in.
  Instructions that were handed in: their words and texts; a program of them.
  AsmMarks' program: its lines and its text.
  AsmMarks' program: its lines, its marks and its words.
-/
import Derived.Test.YtlommbeokbicjaaGreatDoorGInst
import Derived.Laws.StructEq
import Derived.DeepKeys
import Derived.Test.YtlommbeokbicjaaGreatDoorGLaid
import Derived.Deep.Slices
import Derived.Test.YtlommbeokbicjaaGreatDoorGWrite
namespace Go.Proofs.YtlommbeokbicjaaGreatDoor
open Go.RowKit Words FieldMath InstMath

def same5 (a b c d e a2 b2 c2 d2 e2 : Int) : Bool := decide (a = a2) && decide (b = b2) && decide (c = c2) && decide (d = d2) && decide (e = e2)

set_option maxHeartbeats 4000000 in
theorem eqi_i (a b c d e a2 b2 c2 d2 e2 : Int) : ∀ W, (Op.equalIn 10000 28 (.agg #[.int .i64 a, .int .i64 b, .int .i64 c, .int .i64 d, .int .i64 e]) (.agg #[.int .i64 a2, .int .i64 b2, .int .i64 c2, .int .i64 d2, .int .i64 e2])).run Tryz.prog W = .ok (same5 a b c d e a2 b2 c2 d2 e2) W := by
  intro W
  unfold same5
  by_cases h1 : a = a2 <;> by_cases h2 : b = b2 <;> by_cases h3 : c = c2 <;> by_cases h4 : d = d2 <;> by_cases h5 : e = e2 <;> simp [go_sem, h1, h2, h3, h4, h5]
theorem eq_i (a b c d e a2 b2 c2 d2 e2 : Int) : ∀ W, (binOp .eql 28 (.agg #[.int .i64 a, .int .i64 b, .int .i64 c, .int .i64 d, .int .i64 e]) (.agg #[.int .i64 a2, .int .i64 b2, .int .i64 c2, .int .i64 d2, .int .i64 e2])).run Tryz.prog W = .ok (.bool (same5 a b c d e a2 b2 c2 d2 e2)) W := fun W => by
  rw [run_eql_struct, eqi_i]
  rfl
theorem ne_i (a b c d e a2 b2 c2 d2 e2 : Int) : ∀ W, (binOp .neq 28 (.agg #[.int .i64 a, .int .i64 b, .int .i64 c, .int .i64 d, .int .i64 e]) (.agg #[.int .i64 a2, .int .i64 b2, .int .i64 c2, .int .i64 d2, .int .i64 e2])).run Tryz.prog W = .ok (.bool (!same5 a b c d e a2 b2 c2 d2 e2)) W := fun W => by
  rw [run_neq_struct, eqi_i]
  rfl

set_option maxHeartbeats 4000000 in
theorem eqi_r (a b c d e a2 b2 c2 d2 e2 : Int) : ∀ W, (Op.equalIn 10000 83 (.agg #[.int .i64 a, .int .i64 b, .int .i64 c, .int .i64 d, .int .i64 e]) (.agg #[.int .i64 a2, .int .i64 b2, .int .i64 c2, .int .i64 d2, .int .i64 e2])).run Tryz.prog W = .ok (same5 a b c d e a2 b2 c2 d2 e2) W := by
  intro W
  unfold same5
  by_cases h1 : a = a2 <;> by_cases h2 : b = b2 <;> by_cases h3 : c = c2 <;> by_cases h4 : d = d2 <;> by_cases h5 : e = e2 <;> simp [go_sem, h1, h2, h3, h4, h5]
theorem eq_r (a b c d e a2 b2 c2 d2 e2 : Int) : ∀ W, (binOp .eql 83 (.agg #[.int .i64 a, .int .i64 b, .int .i64 c, .int .i64 d, .int .i64 e]) (.agg #[.int .i64 a2, .int .i64 b2, .int .i64 c2, .int .i64 d2, .int .i64 e2])).run Tryz.prog W = .ok (.bool (same5 a b c d e a2 b2 c2 d2 e2)) W := fun W => by
  rw [run_eql_struct, eqi_r]
  rfl
theorem ne_r (a b c d e a2 b2 c2 d2 e2 : Int) : ∀ W, (binOp .neq 83 (.agg #[.int .i64 a, .int .i64 b, .int .i64 c, .int .i64 d, .int .i64 e]) (.agg #[.int .i64 a2, .int .i64 b2, .int .i64 c2, .int .i64 d2, .int .i64 e2])).run Tryz.prog W = .ok (.bool (!same5 a b c d e a2 b2 c2 d2 e2)) W := fun W => by
  rw [run_neq_struct, eqi_r]
  rfl

theorem one_word : IsDec 11863347#64 (some 31) := by unfold IsDec; decide +kernel
theorem one_ops : opsI 31 11863347#64 0 = 10 ∧ opsI 31 11863347#64 1 = 10 ∧ opsI 31 11863347#64 2 = 11 ∧ opsI 31 11863347#64 3 = 0 := by decide +kernel

theorem decV_some (k : Nat) (x : BitVec 64) : decV (some k) x = .tuple #[instV k (opsI k x 0) (opsI k x 1) (opsI k x 2) (opsI k x 3), .bool true] := rfl

end Go.Proofs.YtlommbeokbicjaaGreatDoor

namespace Go.Proofs.YtlommbeokbicjaaGreatDoor
open Go.RowKit InstMath AsmMath

open Go.ChangeShapes Go.WideShapes Go.ChangeAt
/-- An instruction, whatever its numbers. -/
structure InD where
  K : Int
  a : Int
  b : Int
  c : Int
  m : Int
def InD.cells (d : InD) : List Value := [.int .i64 d.K, .int .i64 d.a, .int .i64 d.b, .int .i64 d.c, .int .i64 d.m]
structure InD.Ok (d : InD) : Prop where
  a : rng d.a
  b : rng d.b
  c : rng d.c
  m : rng d.m
def InsAt (W : World) (b off : Nat) (l : List InD) : Prop := ∀ k d j v, l[k]? = some d → d.cells[j]? = some v → W.cell? ⟨b, off + k * 5 + j, none⟩ = some v
/-- A slice of instructions: an empty one, or one that lies somewhere. -/
def IsIns (W : World) (l : List InD) (v : Value) : Prop := (∀ d ∈ l, d.Ok) ∧ ((l = [] ∧ ∃ s c, v = .slice s 0 c) ∨ ∃ b off cap, v = .slice (some ⟨b, off, none⟩) l.length cap ∧ l.length ≤ cap ∧ InsAt W b off l)
theorem fitsI {ks : List Frame.Kd} {cs : List Value} (h : Frame.Fits (.inl .i64 :: ks) cs) : ∃ (z : Int) (r : List Value), cs = .int .i64 z :: r ∧ rng z ∧ Frame.Fits ks r := by
  cases cs with
  | nil => exact h.elim
  | cons c r =>
    obtain ⟨⟨z, hz, hw⟩, h2⟩ := h
    exact ⟨z, r, by rw [hz], Frame.wf_i64 hw, h2⟩
theorem open_ind {cs : List Value} (h : Frame.Fits [.inl .i64, .inl .i64, .inl .i64, .inl .i64, .inl .i64] cs) : ∃ d : InD, cs = d.cells ∧ d.Ok := by
  obtain ⟨K, l0, e0, _, h⟩ := fitsI h
  obtain ⟨a, l1, e1, ra, h⟩ := fitsI h
  obtain ⟨b, l2, e2, rb, h⟩ := fitsI h
  obtain ⟨c, l3, e3, rc, h⟩ := fitsI h
  obtain ⟨m, l4, e4, rm, h⟩ := fitsI h
  cases l4 with
  | nil => exact ⟨⟨K, a, b, c, m⟩, by rw [e0, e1, e2, e3, e4]; rfl, ra, rb, rc, rm⟩
  | cons c l => exact h.elim
set_option maxRecDepth 100000 in
set_option maxHeartbeats 4000000 in
theorem open_ins {H : Type} {enc : TypeId × Value → H} {W : World} {base : Nat} {v : Value} {d : DataW H} {ps : List MemPlace} (hv : Value.okWide Tryz.prog W .any base 22 v) (h : DataW.Trod enc Tryz.prog W 0 (fun _ => true) true 22 v d ps) : ∃ l, IsIns W l v := by
  obtain ⟨sa, len, cap, rfl⟩ := okWide_slice Tryz.underlying22 hv
  obtain ⟨fuel, hf⟩ := h
  rcases Deep.open_slice Tryz.underlying22 hf with ⟨hcs, _⟩ | ⟨ad, len', cap', m, n, D, Pl, hcs, _, hl, hm, hmm, _, hi⟩
  · simp [Value.cells] at hcs
    obtain ⟨rfl, rfl, rfl⟩ := hcs
    exact ⟨[], fun _ h => by simp at h, .inl ⟨rfl, _, _, rfl⟩⟩
  · simp [Value.cells] at hcs
    obtain ⟨rfl, rfl, rfl⟩ := hcs
    have hmc : m = cap := by simpa using hmm
    obtain ⟨l, hll, hp⟩ := Frame.list_choose len (fun k (p : InD) => p.Ok ∧ ∀ j v, p.cells[j]? = some v → W.cell? (ad.add (k * 5 + j)) = some v) (fun k hk => by
      obtain ⟨cs', hc, ht⟩ := hi k (by omega)
      have hfit := Frame.fits_of 4 28 [.inl .i64, .inl .i64, .inl .i64, .inl .i64, .inl .i64] _ _ _ (by kernel_rfl) ht
      have h3 : Tryz.prog.cellsOf 28 = 5 := by kernel_rfl
      rw [h3] at hc
      obtain ⟨_, hcl, hat⟩ := World.cells?_some hc
      obtain ⟨d, rfl, hd⟩ := open_ind hfit
      refine ⟨d, hd, fun j v hv => ?_⟩
      have hj : j < 5 := (List.getElem?_eq_some_iff.1 hv).1
      have := hat j hj
      rw [Deep.add_add] at this
      rw [this]
      exact hv)
    subst hll
    have hok : ∀ d ∈ l, d.Ok := fun d hd => by
      obtain ⟨k, hk, e⟩ := List.mem_iff_getElem.1 hd
      rw [← e]
      exact (hp k hk).1
    cases l with
    | nil => exact ⟨[], hok, .inl ⟨rfl, _, _, rfl⟩⟩
    | cons x l =>
      have h0 := (hp 0 (by simp)).2 0 _ rfl
      have hspot : ad.spot = none := by
        have := World.cell?_spot h0
        simpa [Addr.add] using this
      obtain ⟨b, off, spot⟩ := ad
      simp only at hspot
      subst hspot
      have ea : ∀ j, (⟨b, off, none⟩ : Addr).add j = ⟨b, off + j, none⟩ := fun j => by unfold Addr.add; split <;> simp_all
      refine ⟨x :: l, hok, .inr ⟨b, off, cap, rfl, hl, fun k d j v h1 h2 => ?_⟩⟩
      have hk : k < (x :: l).length := (List.getElem?_eq_some_iff.1 h1).1
      have := (hp k hk).2 j v (by rw [(List.getElem?_eq_some_iff.1 h1).2]; exact h2)
      rw [ea, ← Nat.add_assoc] at this
      exact this
end Go.Proofs.YtlommbeokbicjaaGreatDoor

namespace Go.Proofs.YtlommbeokbicjaaGreatDoor
open Go.RowKit InstMath AsmMath
open Go.Lib (itoa)

/-- The text of an instruction that has a word, with a short end, is short. -/
theorem wr_short {k : Nat} {F : Nat → Int} {s : List UInt8} {y : BitVec 64} (h : InsOk k F s y) (hs : s.length ≤ 12) : (wr k F s).length ≤ 65 := by
  have hn := name_long k (by have := h.hi; omega) h.lo
  have hl := ops_len (shape_of h.lo h.hi)
  have hj := joinS_len [44, 32] (txs k F s) 12 (fun r hr => by
    obtain ⟨o, ho, rfl⟩ := List.mem_map.1 hr
    unfold tx
    split
    · exact hs
    · rename_i h3
      have hr := h.reg o ho h3
      have := itoa_len (n := F o) (by omega)
      simp; omega)
  have e : (txs k F s).length = (opL (shp k)).length := by unfold txs; simp
  rw [e] at hj
  have h2 : (opL (shp k)).length * 14 ≤ 3 * 14 := Nat.mul_le_mul_right _ hl
  simp at hj
  unfold wr
  rw [List.length_append]
  split
  · simp; omega
  · simp; omega
theorem cnt_all : ∀ (L : List Ln), (∀ l ∈ L, l.cls = 2) → cntL L = L.length
  | [], _ => rfl
  | l :: r, h => by
    have := cnt_all r (fun x hx => h x (List.mem_cons_of_mem _ hx))
    unfold cntL isI
    rw [if_pos (h l (by simp)), this]
    simp; omega
theorem mk_none : ∀ (L : List Ln) (c : Nat) (h : List UInt8 → Option (Int × Int)), (∀ l ∈ L, l.cls ≠ 1) → mkF c h L = h
  | [], _, _, _ => rfl
  | l :: r, c, h, hl => by
    unfold mkF
    rw [if_neg (hl l (by simp)), mk_none r _ h (fun x hx => hl x (List.mem_cons_of_mem _ hx))]
theorem join_nl : ∀ (L : List (List UInt8)), joinS [10] (L ++ [[]]) = L.flatMap (fun r => r ++ [10])
  | [] => rfl
  | [x] => by simp [joinS]
  | x :: y :: r => by
    have := join_nl (y :: r)
    simp only [List.cons_append, List.flatMap_cons] at this ⊢
    unfold joinS
    rw [this]

def encI (d : InD) : Option (BitVec 64) := if 1 ≤ d.K ∧ d.K ≤ 69 then encK d.K.toNat (four d.a d.b d.c d.m) else none
def txtI (d : InD) : List UInt8 := wr d.K.toNat (four d.a d.b d.c d.m) (itoa d.m)
def mskI (d : InD) : Nat → Int := msk d.K.toNat (four d.a d.b d.c d.m)
def lnI (d : InD) : Ln := ⟨2, List.replicate 2 32 ++ txtI d, txtI d⟩
theorem txtI_msk (d : InD) : txtI d = wr d.K.toNat (mskI d) (itoa (mskI d 3)) := wr_msk (four d.a d.b d.c d.m)
structure AccI (d : InD) (y : BitVec 64) : Prop where
  lo : 1 ≤ d.K
  hi : d.K ≤ 69
  enc : encK d.K.toNat (four d.a d.b d.c d.m) = some y
theorem encI_some {d : InD} {y : BitVec 64} (h : encI d = some y) : AccI d y := by
  unfold encI at h
  split at h
  · rename_i hk
    exact ⟨hk.1, hk.2, h⟩
  · cases h
theorem AccI.ok {d : InD} {y : BitVec 64} (h : AccI d y) (hd : d.Ok) : InsOk d.K.toNat (mskI d) (itoa (mskI d 3)) y ∧ -10000000000 < mskI d 3 ∧ mskI d 3 < 10000000000 :=
  ins_ok (by have := h.lo; omega) (by have := h.hi; omega) (four_rng hd.a hd.b hd.c hd.m) h.enc
/-- What the program answers to an instruction that has a word. -/
structure YesI (d : InD) (y : BitVec 64) : Prop where
  e1 : ∀ W, G W → Calls Tryz.prog 6 #[.agg #[.int .i64 d.K, .int .i64 d.a, .int .i64 d.b, .int .i64 d.c, .int .i64 d.m]] W (Makes (.tuple #[.int .u32 (y.toNat : Int), .bool true]) W)
  t1 : ∀ W, G W → Calls Tryz.prog 7 #[.agg #[.int .i64 d.K, .int .i64 d.a, .int .i64 d.b, .int .i64 d.c, .int .i64 d.m]] W (Makes (.string (str (txtI d))) W)
  p : ∀ W, G W → Calls Tryz.prog 8 #[.string (str (txtI d))] W (Makes (.tuple #[.agg #[.int .i64 d.K, .int .i64 (mskI d 0), .int .i64 (mskI d 1), .int .i64 (mskI d 2), .int .i64 (mskI d 3)], .bool true]) W)
  e2 : ∀ W, G W → Calls Tryz.prog 6 #[.agg #[.int .i64 d.K, .int .i64 (mskI d 0), .int .i64 (mskI d 1), .int .i64 (mskI d 2), .int .i64 (mskI d 3)]] W (Makes (.tuple #[.int .u32 (y.toNat : Int), .bool true]) W)
  t2 : ∀ W, G W → Calls Tryz.prog 7 #[.agg #[.int .i64 d.K, .int .i64 (mskI d 0), .int .i64 (mskI d 1), .int .i64 (mskI d 2), .int .i64 (mskI d 3)]] W (Makes (.string (str (txtI d))) W)
  ne : txtI d ≠ []
  len : (txtI d).length ≤ 65
theorem yes_i {d : InD} {y : BitVec 64} (h : encI d = some y) (hd : d.Ok) : YesI d y := by
  have hA := encI_some h
  obtain ⟨ok, b1, b2⟩ := hA.ok hd
  have k1 : 1 ≤ d.K.toNat := by have := hA.lo; omega
  have k2 : d.K.toNat ≤ 69 := by have := hA.hi; omega
  have hk : ((d.K.toNat : Nat) : Int) = d.K := by have := hA.lo; omega
  have hR := ok.rg
  have ht : wr d.K.toNat (four (mskI d 0) (mskI d 1) (mskI d 2) (mskI d 3)) (itoa (mskI d 3)) = txtI d := by
    rw [txtI_msk]
    have he : ∀ o ∈ opL (shp d.K.toNat), four (mskI d 0) (mskI d 1) (mskI d 2) (mskI d 3) o = mskI d o := fun o ho => by
      have := ops_lt (shape_of k1 k2) o ho
      obtain rfl | rfl | rfl | rfl : o = 0 ∨ o = 1 ∨ o = 2 ∨ o = 3 := by omega
      all_goals rfl
    have e2 : txs d.K.toNat (four (mskI d 0) (mskI d 1) (mskI d 2) (mskI d 3)) (itoa (mskI d 3)) = txs d.K.toNat (mskI d) (itoa (mskI d 3)) := by
      unfold txs
      refine List.map_congr_left fun o ho => ?_
      unfold tx
      rw [he o ho]
    unfold wr
    rw [e2]
  have he2 : encK d.K.toNat (four (mskI d 0) (mskI d 1) (mskI d 2) (mskI d 3)) = some y := by
    rw [enc_four k1 k2]
    unfold mskI
    rw [enc_msk k1 k2]
    exact hA.enc
  refine ⟨fun W hW => ?_, fun W hW => ?_, fun W hW => ?_, fun W hW => ?_, fun W hW => ?_, ?_, ?_⟩
  · have := enc_yes d.K.toNat k1 k2 d.a d.b d.c d.m hd.a hd.b hd.c hd.m W hW.words
    rw [hA.enc, hk] at this
    exact this
  · have := text_yes d.K.toNat k1 k2 d.a d.b d.c d.m hd.a hd.b hd.c hd.m y hA.enc W hW
    rw [hk] at this
    exact this
  · have := parse_yes d.K.toNat (mskI d) y ok ⟨b1, b2⟩ W hW
    rw [← txtI_msk] at this
    unfold mskV instV at this
    have e : ∀ o, msk d.K.toNat (mskI d) o = mskI d o := fun o => msk_msk _ _ o
    rw [e, e, e, e, hk] at this
    exact this
  · have := enc_yes d.K.toNat k1 k2 (mskI d 0) (mskI d 1) (mskI d 2) (mskI d 3) (hR 0) (hR 1) (hR 2) (hR 3) W hW.words
    rw [he2, hk] at this
    exact this
  · have := text_yes d.K.toNat k1 k2 (mskI d 0) (mskI d 1) (mskI d 2) (mskI d 3) (hR 0) (hR 1) (hR 2) (hR 3) y he2 W hW
    rw [hk, ht] at this
    exact this
  · rw [txtI_msk]
    exact (wr_plain ok.lo (by have := ok.hi; omega) ok.last).ne
  · rw [txtI_msk]
    exact wr_short ok (by have := itoa_len (n := mskI d 3) ⟨b1, b2⟩; omega)
/-- What it answers to one that has none. -/
structure NoI (d : InD) : Prop where
  e1 : ∀ W, G W → Calls Tryz.prog 6 #[.agg #[.int .i64 d.K, .int .i64 d.a, .int .i64 d.b, .int .i64 d.c, .int .i64 d.m]] W (Makes (.tuple #[.int .u32 0, .bool false]) W)
  t1 : ∀ W, G W → Calls Tryz.prog 7 #[.agg #[.int .i64 d.K, .int .i64 d.a, .int .i64 d.b, .int .i64 d.c, .int .i64 d.m]] W (Makes (.string ⟨#[]⟩) W)
theorem no_i {d : InD} (h : encI d = none) (hd : d.Ok) : NoI d := by
  have e1 : ∀ W, G W → Calls Tryz.prog 6 #[.agg #[.int .i64 d.K, .int .i64 d.a, .int .i64 d.b, .int .i64 d.c, .int .i64 d.m]] W (Makes (.tuple #[.int .u32 0, .bool false]) W) := fun W hW => by
    unfold encI at h
    by_cases hk : 1 ≤ d.K ∧ d.K ≤ 69
    · rw [if_pos hk] at h
      have := enc_yes d.K.toNat (by omega) (by omega) d.a d.b d.c d.m hd.a hd.b hd.c hd.m W hW.words
      rw [h, show ((d.K.toNat : Nat) : Int) = d.K by omega] at this
      exact this
    · exact enc_no d.K d.a d.b d.c d.m hk W
  exact ⟨e1, text_none d.K d.a d.b d.c d.m e1⟩
/-- Those that have a word, with it. -/
def accL (l : List InD) : List (InD × BitVec 64) := l.filterMap (fun d => (encI d).map (fun y => (d, y)))
theorem acc_snoc (l : List InD) (d : InD) : accL (l ++ [d]) = accL l ++ (match encI d with | some y => [(d, y)] | none => []) := by
  unfold accL
  rw [List.filterMap_append]
  cases h : encI d <;> simp [h]
theorem acc_len (l : List InD) : (accL l).length ≤ l.length := List.length_filterMap_le _ _
theorem acc_mem {l : List InD} {p : InD × BitVec 64} (h : p ∈ accL l) : p.1 ∈ l ∧ encI p.1 = some p.2 := by
  obtain ⟨d, h1, h2⟩ := List.mem_filterMap.1 h
  obtain ⟨y, h3, rfl⟩ := Option.map_eq_some_iff.1 h2
  exact ⟨h1, h3⟩
/-- The program of them. -/
def bodyB (A : List (InD × BitVec 64)) : List UInt8 := A.flatMap (fun p => [32, 32] ++ txtI p.1 ++ [10])
theorem body_snoc (A : List (InD × BitVec 64)) (p : InD × BitVec 64) : bodyB (A ++ [p]) = bodyB A ++ ([32, 32] ++ txtI p.1 ++ [10]) := by unfold bodyB; simp
theorem body_len : ∀ (A : List (InD × BitVec 64)), (∀ p ∈ A, (txtI p.1).length ≤ 65) → (bodyB A).length ≤ A.length * 68
  | [], _ => by simp [bodyB]
  | p :: r, h => by
    have h1 := h p (by simp)
    have h2 := body_len r (fun q hq => h q (List.mem_cons_of_mem _ hq))
    unfold bodyB at h2 ⊢
    rw [List.flatMap_cons]
    simp only [List.length_append, List.length_cons, List.length_nil] at h2 ⊢
    omega
theorem back_asm (A : List (InD × BitVec 64)) (hlen : A.length ≤ 200) (hA : ∀ p ∈ A, p.1.Ok ∧ encI p.1 = some p.2) (W : World) (hW : G W) :
    Calls Tryz.prog 9 #[.string (str (bodyB A))] W (Assembled A.length (fun n => (A.map (·.2)).getD n 0#64) W) := by
  have hY : ∀ p ∈ A, YesI p.1 p.2 := fun p hp => yes_i (hA p hp).2 (hA p hp).1
  have hB := body_len A (fun p hp => (hY p hp).len)
  obtain ⟨M, hM⟩ : ∃ M, M = A.map (fun p => lnI p.1) := ⟨_, rfl⟩
  have hMl : M.length = A.length := by rw [hM]; simp
  have hc2 : ∀ l ∈ M, l.cls = 2 := fun l hl => by
    rw [hM] at hl
    obtain ⟨p, _, rfl⟩ := List.mem_map.1 hl
    rfl
  have hat : ∀ j l, (M ++ [(⟨0, [], []⟩ : Ln)])[j]? = some l → l.cls = 2 → ∃ (h : j < A.length), l = lnI A[j].1 := fun j l hj hc => by
    have hlt : j < (M ++ [(⟨0, [], []⟩ : Ln)]).length := (List.getElem?_eq_some_iff.1 hj).1
    by_cases h : j < A.length
    · refine ⟨h, ?_⟩
      rw [List.getElem?_append_left (by omega), hM, List.getElem?_map, List.getElem?_eq_getElem h] at hj
      simpa using hj.symm
    · exfalso
      simp at hlt
      obtain rfl : j = M.length := by omega
      simp at hj
      subst hj
      cases hc
  have hmk : marksOf (M ++ [(⟨0, [], []⟩ : Ln)]) = fun _ => none := mk_none _ _ _ (fun l hl => by
    rcases List.mem_append.1 hl with hl | hl
    · rw [hc2 l hl]; omega
    · simp at hl; subst hl; simp)
  have hjoin : joinS [10] ((M ++ [(⟨0, [], []⟩ : Ln)]).map (·.raw)) = bodyB A := by
    rw [List.map_append]
    show joinS [10] (M.map (·.raw) ++ [[]]) = _
    rw [join_nl, hM]
    unfold bodyB lnI
    rw [List.map_map, List.flatMap_map]
    simp [List.replicate]
  have hcnt : cntL (M ++ [(⟨0, [], []⟩ : Ln)]) = A.length := by
    rw [cnt_snoc, cnt_all M hc2, hMl]
    simp [isI]
  have htake : ∀ j, j < A.length → cntL ((M ++ [(⟨0, [], []⟩ : Ln)]).take j) = j := fun j hj => by
    rw [List.take_append_of_le_length (by omega), cnt_all _ (fun l hl => hc2 l (List.mem_of_mem_take hl)), List.length_take]
    omega
  have c := assemble_any (M ++ [(⟨0, [], []⟩ : Ln)]) (fun n => (A.map (·.2)).getD n 0#64) (by simp) (fun l hl => by
      rcases List.mem_append.1 hl with hl | hl
      · rw [hM] at hl
        obtain ⟨p, hp, rfl⟩ := List.mem_map.1 hl
        have hAc := encI_some (hA p hp).2
        have ok := (hAc.ok (hA p hp).1).1
        have := plain_ln ok.lo ok.hi ok.rg ok.last 2
        rw [← txtI_msk] at this
        exact .inr (.inr this)
      · simp at hl
        subst hl
        exact .inl ⟨rfl, .inl rfl⟩) (fun l hl => by
      rcases List.mem_append.1 hl with hl | hl
      · rw [hM] at hl
        obtain ⟨p, hp, rfl⟩ := List.mem_map.1 hl
        have hAc := encI_some (hA p hp).2
        have ok := (hAc.ok (hA p hp).1).1
        have h10 := wr_10 (show p.1.K.toNat < 70 by have := ok.hi; omega) ok.last (F := mskI p.1)
        rw [← txtI_msk] at h10
        unfold lnI
        simp [List.replicate, h10]
      · simp at hl
        subst hl
        simp) (by rw [hjoin]; omega) (by rw [hcnt]; omega) (by simp; omega) (fun j l hj hc => by
      rw [show marksOf ((M ++ [(⟨0, [], []⟩ : Ln)]).take j) = fun _ => none from mk_none _ _ _ (fun l hl => by
        rcases List.mem_append.1 (List.mem_of_mem_take hl) with hl | hl
        · rw [hc2 l hl]; omega
        · simp at hl; subst hl; simp)]) (fun j l hj hc => by
      obtain ⟨h, rfl⟩ := hat j l hj hc
      have hp := List.getElem_mem h
      have hAc := encI_some (hA _ hp).2
      obtain ⟨ok, b1, b2⟩ := hAc.ok (hA _ hp).1
      rw [htake j h, hmk]
      refine ⟨A[j].1.K.toNat, mskI A[j].1, itoa (mskI A[j].1 3), txtI_msk _, ?_, .inr ⟨rfl, rfl, b1, b2⟩⟩
      have e : (A.map (·.2)).getD j 0#64 = A[j].2 := by
        rw [List.getD_eq_getElem?_getD, List.getElem?_map, List.getElem?_eq_getElem h]
        rfl
      rw [e]
      exact ok) W hW
  rw [hjoin, hcnt] at c
  exact c
end Go.Proofs.YtlommbeokbicjaaGreatDoor

namespace Go.Proofs.YtlommbeokbicjaaGreatDoor
open Go.RowKit InstMath AsmMath
open Go.Lib (itoa)

/-- "addi c1, c1, 1" and a newline. -/
def addiB : List UInt8 := [97, 100, 100, 105, 32, 99, 49, 44, 32, 99, 49, 44, 32, 49, 10]
def exB : Nat → List UInt8
  | 0 => []
  | 1 => [10]
  | 2 => [35, 32, 120, 10]
  | _ => [32, 32, 10]
theorem exB_len (c : Nat) : (exB c).length ≤ 4 := by unfold exB; split <;> simp
def lo2 (x : Int) : Nat := (BitVec.ofInt 64 x &&& BitVec.ofInt 64 ((3 : Nat) : Int)).toNat
def extB (l : List Int) (i : Nat) : List UInt8 := match l[i]? with | some x => exB (lo2 x) | none => []
def layB (l : List Int) (n : Nat) : List UInt8 := (List.range n).flatMap (fun i => addiB ++ extB l i)
theorem layB_succ (l : List Int) (n : Nat) : layB l (n + 1) = layB l n ++ (addiB ++ extB l n) := by
  unfold layB
  rw [List.range_succ, List.flatMap_append]
  simp
theorem layB_len (l : List Int) : ∀ n, (layB l n).length ≤ 19 * n
  | 0 => by simp [layB]
  | n + 1 => by
    have h1 := layB_len l n
    have h2 : (extB l n).length ≤ 4 := by
      unfold extB
      split
      · exact exB_len _
      · simp
    rw [layB_succ]
    simp [addiB]
    omega
end Go.Proofs.YtlommbeokbicjaaGreatDoor

namespace Go.Proofs.YtlommbeokbicjaaGreatDoor
open Go.RowKit InstMath AsmMath
open Go.Lib (itoa)

theorem t_addi1 : wr 22 (four 1 1 0 1) (itoa 1) = [97, 100, 100, 105, 32, 99, 49, 44, 32, 99, 49, 44, 32, 49] := by
  have e : opL (shp 22) = [0, 1, 3] := by decide +kernel
  have n : nameL 22 = [97, 100, 100, 105] := by decide +kernel
  unfold wr txs
  rw [e, n, itoa_1]
  simp [tx, joinS, four, itoa_1]
theorem t_beq (x : Int) : wr 5 (four 0 1 2 x) [98] = [98, 101, 113, 32, 99, 49, 44, 32, 99, 50, 44, 32, 98] := by
  have e : opL (shp 5) = [1, 2, 3] := by decide +kernel
  have n : nameL 5 = [98, 101, 113] := by decide +kernel
  unfold wr txs
  rw [e, n]
  simp [tx, joinS, four, itoa_1, itoa_2]
theorem t_jal (x : Int) : wr 3 (four 3 0 0 x) [97] = [106, 97, 108, 32, 99, 51, 44, 32, 97] := by
  have e : opL (shp 3) = [0, 3] := by decide +kernel
  have n : nameL 3 = [106, 97, 108] := by decide +kernel
  unfold wr txs
  rw [e, n]
  simp [tx, joinS, four, itoa_3]
def lnT (t : List UInt8) : Ln := ⟨2, List.replicate 0 32 ++ t, t⟩
def lnA : Ln := lnT (wr 22 (four 1 1 0 1) (itoa 1))
def exL : Nat → List Ln
  | 0 => []
  | 1 => [⟨0, [], []⟩]
  | 2 => [⟨0, [35, 32, 120], []⟩]
  | _ => [⟨0, [32, 32], []⟩]
def extL (l : List Int) (i : Nat) : List Ln := match l[i]? with | some x => exL (lo2 x) | none => []
def layL (l : List Int) (n : Nat) : List Ln := (List.range n).flatMap (fun i => lnA :: extL l i)
theorem layL_succ (l : List Int) (n : Nat) : layL l (n + 1) = layL l n ++ (lnA :: extL l n) := by
  unfold layL
  rw [List.range_succ, List.flatMap_append]
  simp
/-- The text of lines. -/
def fl (L : List Ln) : List UInt8 := L.flatMap (fun r => r.raw ++ [10])
theorem fl_app (a b : List Ln) : fl (a ++ b) = fl a ++ fl b := by unfold fl; rw [List.flatMap_append]
theorem fl_join (L : List Ln) : joinS [10] ((L ++ [(⟨0, [], []⟩ : Ln)]).map (·.raw)) = fl L := by
  rw [List.map_append]
  show joinS [10] (L.map (·.raw) ++ [[]]) = _
  rw [join_nl, List.flatMap_map]
  rfl
theorem fl_ex : ∀ c, fl (exL c) = exB c
  | 0 => rfl
  | 1 => rfl
  | 2 => rfl
  | _ + 3 => rfl
theorem fl_ext (l : List Int) (i : Nat) : fl (extL l i) = extB l i := by
  unfold extL extB
  cases l[i]? with
  | none => rfl
  | some x => exact fl_ex (lo2 x)
theorem fl_a : fl [lnA] = addiB := by
  unfold lnA lnT fl
  rw [t_addi1]
  rfl
theorem fl_lay (l : List Int) : ∀ n, fl (layL l n) = layB l n
  | 0 => rfl
  | n + 1 => by
    rw [layL_succ, fl_app, fl_lay l n, layB_succ, ← fl_a, ← fl_ext, ← fl_app]
    rfl
theorem ex_cls (c : Nat) : ∀ x ∈ exL c, x.cls = 0 ∧ SkipOk x ∧ (10 : UInt8) ∉ x.raw := by
  intro x hx
  unfold exL at hx
  split at hx
  · simp at hx
  · simp at hx; subst hx; exact ⟨rfl, ⟨rfl, .inl rfl⟩, by decide⟩
  · simp at hx; subst hx; exact ⟨rfl, ⟨rfl, .inr ⟨[32, 120], rfl⟩⟩, by decide⟩
  · simp at hx; subst hx; exact ⟨rfl, ⟨rfl, .inl rfl⟩, by decide⟩
theorem ext_cls (l : List Int) (i : Nat) : ∀ x ∈ extL l i, x.cls = 0 ∧ SkipOk x ∧ (10 : UInt8) ∉ x.raw := by
  unfold extL
  split
  · exact ex_cls _
  · intro x hx; simp at hx
theorem a_ok : InsOk 22 (four 1 1 0 1) (itoa 1) 1081491#64 := by
  refine ⟨by omega, by omega, four_rng (rng_small (by omega)) (rng_small (by omega)) (rng_small (by omega)) (rng_small (by omega)), ?_, last_itoa (rng_small (by omega)), by decide +kernel⟩
  rw [show opL (shp 22) = [0, 1, 3] by decide +kernel]
  decide
theorem lnA_ok : LnOk lnA ∧ (10 : UInt8) ∉ lnA.raw := by
  refine ⟨.inr (.inr (plain_ln a_ok.lo a_ok.hi a_ok.rg a_ok.last 0)), ?_⟩
  unfold lnA lnT
  rw [t_addi1]
  decide
theorem lay_mem (l : List Int) (n : Nat) : ∀ x ∈ layL l n, (x = lnA ∨ x.cls = 0) ∧ LnOk x ∧ (10 : UInt8) ∉ x.raw := by
  intro x hx
  unfold layL at hx
  obtain ⟨i, _, hx⟩ := List.mem_flatMap.1 hx
  rcases List.mem_cons.1 hx with rfl | hx
  · exact ⟨.inl rfl, lnA_ok⟩
  · obtain ⟨h1, h2, h3⟩ := ext_cls l i x hx
    exact ⟨.inr h1, .inl h2, h3⟩
theorem lay_ne (l : List Int) (n : Nat) : ∀ x ∈ layL l n, x.cls ≠ 1 := fun x hx => by
  rcases (lay_mem l n x hx).1 with rfl | h
  · simp [lnA, lnT]
  · omega
theorem cnt_app : ∀ (a b : List Ln), cntL (a ++ b) = cntL a + cntL b
  | [], b => by simp [cntL]
  | x :: a, b => by
    have := cnt_app a b
    simp only [List.cons_append, cntL]
    omega
theorem cnt_0 : ∀ (L : List Ln), (∀ x ∈ L, x.cls = 0) → cntL L = 0
  | [], _ => rfl
  | x :: r, h => by
    have := cnt_0 r (fun y hy => h y (List.mem_cons_of_mem _ hy))
    unfold cntL isI
    rw [if_neg (by rw [h x (by simp)]; omega), this]
theorem cnt_lay (l : List Int) : ∀ n, cntL (layL l n) = n
  | 0 => rfl
  | n + 1 => by
    have h0 := cnt_0 (extL l n) (fun x hx => (ext_cls l n x hx).1)
    rw [layL_succ, cnt_app, cnt_lay l n]
    show n + (isI lnA + cntL (extL l n)) = _
    rw [h0]
    rfl
theorem lay_count (l : List Int) : ∀ n, (layL l n).length ≤ 2 * n
  | 0 => by simp [layL]
  | n + 1 => by
    have h1 := lay_count l n
    have h2 : (extL l n).length ≤ 1 := by
      unfold extL
      split
      · unfold exL
        split <;> simp
      · simp
    rw [layL_succ, List.length_append, List.length_cons]
    omega
theorem mk_app : ∀ (a b : List Ln) (c : Nat) (h : List UInt8 → Option (Int × Int)), mkF c h (a ++ b) = mkF (c + cntL a) (mkF c h a) b
  | [], b, c, h => by simp [cntL, mkF]
  | x :: a, b, c, h => by
    simp only [List.cons_append, mkF, cntL]
    rw [mk_app a b, Nat.add_assoc]
/-- Each instruction's text, at its place: its word. -/
def AllW (M : List UInt8 → Option (Int × Int)) (Y : Nat → BitVec 64) (c : Nat) (L : List Ln) : Prop := ∀ (j : Nat) (l : Ln), L[j]? = some l → l.cls = 2 → WordOk M (c + cntL (L.take j)) l.txt (Y (c + cntL (L.take j)))
theorem allW_app {M : List UInt8 → Option (Int × Int)} {Y : Nat → BitVec 64} {c : Nat} {a b : List Ln} (h1 : AllW M Y c a) (h2 : AllW M Y (c + cntL a) b) : AllW M Y c (a ++ b) := by
  intro j l hj hc
  by_cases h : j < a.length
  · rw [List.getElem?_append_left h] at hj
    rw [List.take_append_of_le_length (by omega)]
    exact h1 j l hj hc
  · rw [List.getElem?_append_right (by omega)] at hj
    have := h2 (j - a.length) l hj hc
    rw [List.take_append, List.take_of_length_le (by omega), cnt_app, ← Nat.add_assoc]
    exact this
theorem allW_one {M : List UInt8 → Option (Int × Int)} {Y : Nat → BitVec 64} {c : Nat} {x : Ln} (h : x.cls = 2 → WordOk M c x.txt (Y c)) : AllW M Y c [x] := by
  intro j l hj hc
  match j, hj with
  | 0, hj =>
    simp at hj
    subst hj
    exact h hc
  | j + 1, hj => simp at hj
theorem allW_0 {M : List UInt8 → Option (Int × Int)} {Y : Nat → BitVec 64} {c : Nat} {L : List Ln} (h : ∀ x ∈ L, x.cls = 0) : AllW M Y c L := by
  intro j l hj hc
  have := h l (List.mem_of_getElem? hj)
  omega
theorem allW_lay {M : List UInt8 → Option (Int × Int)} {Y : Nat → BitVec 64} {c : Nat} (l : List Int) : ∀ n, (∀ i, i < n → WordOk M (c + i) lnA.txt (Y (c + i))) → AllW M Y c (layL l n)
  | 0, _ => allW_0 (fun x hx => by simp [layL] at hx)
  | n + 1, h => by
    rw [layL_succ]
    refine allW_app (allW_lay l n (fun i hi => h i (by omega))) ?_
    rw [cnt_lay]
    exact allW_app (a := [lnA]) (allW_one (fun _ => h n (by omega))) (allW_0 (fun x hx => (ext_cls l n x hx).1))
/-- No mark has the name of one before. -/
def Uniq (c : Nat) (h : List UInt8 → Option (Int × Int)) (L : List Ln) : Prop := ∀ (j : Nat) (l : Ln), L[j]? = some l → l.cls = 1 → mkF c h (L.take j) l.txt = none
theorem uniq_app {c : Nat} {h : List UInt8 → Option (Int × Int)} {a b : List Ln} (h1 : Uniq c h a) (h2 : Uniq (c + cntL a) (mkF c h a) b) : Uniq c h (a ++ b) := by
  intro j l hj hc
  by_cases hh : j < a.length
  · rw [List.getElem?_append_left hh] at hj
    rw [List.take_append_of_le_length (by omega)]
    exact h1 j l hj hc
  · rw [List.getElem?_append_right (by omega)] at hj
    have := h2 (j - a.length) l hj hc
    rw [List.take_append, List.take_of_length_le (by omega), mk_app]
    exact this
theorem uniq_one {c : Nat} {h : List UInt8 → Option (Int × Int)} {x : Ln} (hx : x.cls = 1 → h x.txt = none) : Uniq c h [x] := by
  intro j l hj hc
  match j, hj with
  | 0, hj =>
    simp at hj
    subst hj
    exact hx hc
  | j + 1, hj => simp at hj
theorem uniq_none {c : Nat} {h : List UInt8 → Option (Int × Int)} {L : List Ln} (hL : ∀ x ∈ L, x.cls ≠ 1) : Uniq c h L := by
  intro j l hj hc
  exact absurd hc (hL l (List.mem_of_getElem? hj))

def beqF (B : Nat) : Nat → Int := four 0 1 2 (4 * ((B : Int) + 2))
def jalF (A : Nat) : Nat → Int := four 3 0 0 (-4 * ((A : Int) + 1))
theorem beq_some : ∀ B, B < 64 → (encK 5 (beqF B)).isSome = true := by decide +kernel
theorem jal_some : ∀ A, A < 64 → (encK 3 (jalF A)).isSome = true := by decide +kernel
theorem beq_ok {B : Nat} (hB : B < 64) {y : BitVec 64} (h : encK 5 (beqF B) = some y) : InsOk 5 (beqF B) [98] y := by
  refine ⟨by omega, by omega, four_rng (rng_small (by omega)) (rng_small (by omega)) (rng_small (by omega)) (rng_small (by omega)), ?_, last_name (name_one 98 (by decide)), ?_⟩
  · rw [show opL (shp 5) = [1, 2, 3] by decide +kernel]
    intro o ho h3
    simp at ho
    unfold beqF
    rcases ho with rfl | rfl | rfl
    · exact (show (0 : Int) ≤ 1 ∧ (1 : Int) < 32 by decide)
    · exact (show (0 : Int) ≤ 2 ∧ (2 : Int) < 32 by decide)
    · exact absurd rfl h3
  · rw [enc_four (by omega) (by omega), enc_msk (by omega) (by omega)]
    exact h
theorem jal_ok {A : Nat} (hA : A < 64) {y : BitVec 64} (h : encK 3 (jalF A) = some y) : InsOk 3 (jalF A) [97] y := by
  refine ⟨by omega, by omega, four_rng (rng_small (by omega)) (rng_small (by omega)) (rng_small (by omega)) (rng_small (by omega)), ?_, last_name (name_one 97 (by decide)), ?_⟩
  · rw [show opL (shp 3) = [0, 3] by decide +kernel]
    intro o ho h3
    simp at ho
    unfold jalF
    rcases ho with rfl | rfl
    · exact (show (0 : Int) ≤ 3 ∧ (3 : Int) < 32 by decide)
    · exact absurd rfl h3
  · rw [enc_four (by omega) (by omega), enc_msk (by omega) (by omega)]
    exact h
/-- The program's lines, without the last, empty one. -/
def pL (l : List Int) (A B : Nat) : List Ln := [(⟨1, [97, 58], [97]⟩ : Ln)] ++ layL l A ++ [lnT (wr 5 (beqF B) [98])] ++ [lnT (wr 3 (jalF A) [97])] ++ layL l B ++ [(⟨1, [98, 58], [98]⟩ : Ln)]
def pT (l : List Int) (A B : Nat) : List UInt8 := [97, 58, 10] ++ layB l A ++ [98, 101, 113, 32, 99, 49, 44, 32, 99, 50, 44, 32, 98, 10, 106, 97, 108, 32, 99, 51, 44, 32, 97, 10] ++ layB l B ++ [98, 58, 10]
theorem fl_p (l : List Int) (A B : Nat) : fl (pL l A B) = pT l A B := by
  unfold pL pT
  rw [fl_app, fl_app, fl_app, fl_app, fl_app, fl_lay, fl_lay]
  unfold beqF jalF
  rw [t_beq, t_jal]
  simp [fl, lnT]
def pY (A : Nat) (y1 y2 : BitVec 64) (n : Nat) : BitVec 64 := if n = A then y1 else if n = A + 1 then y2 else 1081491#64
theorem cnt_p (l : List Int) (A B : Nat) : cntL (pL l A B) = A + B + 2 := by
  unfold pL
  rw [cnt_app, cnt_app, cnt_app, cnt_app, cnt_app, cnt_lay, cnt_lay]
  simp [cntL, isI, lnT]
  omega
theorem mk_p (l : List Int) (A B : Nat) : mkF 0 (fun _ => none) (pL l A B) = updS (updS (fun _ => none) [97] (((0 : Nat) : Int), 1)) [98] (((A + B + 2 : Nat) : Int), 1) := by
  have e : cntL ([(⟨1, [97, 58], [97]⟩ : Ln)] ++ layL l A ++ [lnT (wr 5 (beqF B) [98])] ++ [lnT (wr 3 (jalF A) [97])] ++ layL l B) = A + B + 2 := by
    rw [cnt_app, cnt_app, cnt_app, cnt_app, cnt_lay, cnt_lay]
    simp [cntL, isI, lnT]
    omega
  unfold pL
  rw [mk_app, e, mk_app, mk_none (layL l B) _ _ (lay_ne l B), mk_app, mk_app, mk_app, mk_none (layL l A) _ _ (lay_ne l A)]
  simp [mkF, lnT]
theorem marks_asm (l : List Int) (A B : Nat) (hA : A < 64) (hB : B < 64) (y1 y2 : BitVec 64) (h1 : encK 5 (beqF B) = some y1) (h2 : encK 3 (jalF A) = some y2) (W : World) (hW : G W) :
    Calls Tryz.prog 9 #[.string (str (pT l A B))] W (Assembled (A + B + 2) (pY A y1 y2) W) := by
  have b1 := beq_ok hB h1
  have b2 := jal_ok hA h2
  have hM : marksOf (pL l A B ++ [(⟨0, [], []⟩ : Ln)]) = updS (updS (fun _ => none) [97] (((0 : Nat) : Int), 1)) [98] (((A + B + 2 : Nat) : Int), 1) := by
    unfold marksOf
    rw [mk_app, mk_p]
    rfl
  have hcnt : cntL (pL l A B ++ [(⟨0, [], []⟩ : Ln)]) = A + B + 2 := by
    rw [cnt_app, cnt_p]
    rfl
  have wA : ∀ n, n < 20000 → n ≠ A → n ≠ A + 1 → WordOk (marksOf (pL l A B ++ [(⟨0, [], []⟩ : Ln)])) n lnA.txt (pY A y1 y2 n) := fun n hn e1 e2 => by
    unfold pY
    rw [if_neg e1, if_neg e2, hM]
    refine ⟨22, four 1 1 0 1, itoa 1, rfl, a_ok, .inr ⟨?_, rfl, by decide, by decide⟩⟩
    rw [itoa_1]
    simp [updS]
  have hall : AllW (marksOf (pL l A B ++ [(⟨0, [], []⟩ : Ln)])) (pY A y1 y2) 0 (pL l A B ++ [(⟨0, [], []⟩ : Ln)]) := by
    generalize hMM : marksOf (pL l A B ++ [(⟨0, [], []⟩ : Ln)]) = M at *
    refine allW_app ?_ (allW_0 (fun x hx => by simp at hx; subst hx; rfl))
    unfold pL
    refine allW_app (allW_app (allW_app (allW_app (allW_app (allW_one (fun h => by cases h)) ?_) ?_) ?_) ?_) (allW_one (fun h => by cases h))
    · refine allW_lay l A (fun i hi => ?_)
      rw [show 0 + cntL [(⟨1, [97, 58], [97]⟩ : Ln)] + i = i by simp [cntL, isI]]
      exact wA i (by omega) (by omega) (by omega)
    · refine allW_one (fun _ => ?_)
      rw [show 0 + cntL ([(⟨1, [97, 58], [97]⟩ : Ln)] ++ layL l A) = A by rw [cnt_app, cnt_lay]; simp [cntL, isI]]
      unfold pY
      rw [if_pos rfl]
      refine ⟨5, beqF B, [98], rfl, b1, .inl ⟨A + B + 2, ?_, by omega, by decide +kernel, ?_⟩⟩
      · rw [hM]; simp [updS]
      · unfold beqF four
        simp
        omega
    · refine allW_one (fun _ => ?_)
      rw [show 0 + cntL ([(⟨1, [97, 58], [97]⟩ : Ln)] ++ layL l A ++ [lnT (wr 5 (beqF B) [98])]) = A + 1 by rw [cnt_app, cnt_app, cnt_lay]; simp [cntL, isI, lnT]]
      unfold pY
      rw [if_neg (by omega), if_pos rfl]
      refine ⟨3, jalF A, [97], rfl, b2, .inl ⟨0, ?_, by omega, by decide +kernel, ?_⟩⟩
      · rw [hM]; simp [updS]
      · unfold jalF four
        simp
        omega
    · refine allW_lay l B (fun i hi => ?_)
      rw [show 0 + cntL ([(⟨1, [97, 58], [97]⟩ : Ln)] ++ layL l A ++ [lnT (wr 5 (beqF B) [98])] ++ [lnT (wr 3 (jalF A) [97])]) + i = A + 2 + i by rw [cnt_app, cnt_app, cnt_app, cnt_lay]; simp [cntL, isI, lnT]]
      exact wA _ (by omega) (by omega) (by omega)
  have huq : Uniq 0 (fun _ => none) (pL l A B ++ [(⟨0, [], []⟩ : Ln)]) := by
    refine uniq_app ?_ (uniq_none (fun x hx => by simp at hx; subst hx; simp))
    unfold pL
    refine uniq_app (uniq_app (uniq_app (uniq_app (uniq_app (uniq_one (fun _ => rfl)) (uniq_none (lay_ne l A))) (uniq_none (fun x hx => by simp at hx; subst hx; simp [lnT]))) (uniq_none (fun x hx => by simp at hx; subst hx; simp [lnT]))) (uniq_none (lay_ne l B))) (uniq_one (fun _ => ?_))
    rw [mk_app, mk_none (layL l B) _ _ (lay_ne l B), mk_app, mk_app, mk_app, mk_none (layL l A) _ _ (lay_ne l A)]
    simp [mkF, lnT, updS]
  have hmem : ∀ x ∈ pL l A B ++ [(⟨0, [], []⟩ : Ln)], LnOk x ∧ (10 : UInt8) ∉ x.raw := by
    intro x hx
    unfold pL at hx
    simp only [List.mem_append, List.mem_singleton] at hx
    rcases hx with (((((rfl | hx) | rfl) | rfl) | hx) | rfl) | rfl
    · exact ⟨.inr (.inl ⟨rfl, by decide, name_one 97 (by decide)⟩), by decide⟩
    · exact (lay_mem l A x hx).2
    · refine ⟨.inr (.inr (plain_ln b1.lo b1.hi b1.rg b1.last 0)), ?_⟩
      unfold lnT beqF
      rw [t_beq]
      decide
    · refine ⟨.inr (.inr (plain_ln b2.lo b2.hi b2.rg b2.last 0)), ?_⟩
      unfold lnT jalF
      rw [t_jal]
      decide
    · exact (lay_mem l B x hx).2
    · exact ⟨.inr (.inl ⟨rfl, by decide, name_one 98 (by decide)⟩), by decide⟩
    · exact ⟨.inl ⟨rfl, .inl rfl⟩, by decide⟩
  have hlen : (pL l A B).length ≤ 300 := by
    have h1 := lay_count l A
    have h2 := lay_count l B
    unfold pL
    simp
    omega
  have htl : (pT l A B).length ≤ 3000 := by
    have h1 := layB_len l A
    have h2 := layB_len l B
    unfold pT
    simp
    omega
  have c := assemble_any (pL l A B ++ [(⟨0, [], []⟩ : Ln)]) (pY A y1 y2) (by simp) (fun x hx => (hmem x hx).1) (fun x hx => (hmem x hx).2) (by rw [fl_join, fl_p]; omega) (by rw [hcnt]; omega) (by simp; omega) huq (fun j x hj hc => by
    have := hall j x hj hc
    rw [Nat.zero_add] at this
    exact this) W hW
  rw [fl_join, fl_p, hcnt] at c
  exact c
/-- What Decode answers to a word that Encode has answered. -/
theorem dec_of {k : Nat} (h1 : 1 ≤ k) (h2 : k ≤ 69) {F : Nat → Int} (hF : ∀ o, rng (F o)) {y : BitVec 64} (h : encK k F = some y) (W : World) (hW : G W) :
    Calls Tryz.prog 13 #[.int .u32 (y.toNat : Int)] W (Makes (.tuple #[.agg #[.int .i64 (k : Int), .int .i64 (if has (shp k) 0 then F 0 else 0), .int .i64 (if has (shp k) 1 then F 1 else 0), .int .i64 (if has (shp k) 2 then F 2 else 0), .int .i64 (if has (shp k) 3 then F 3 else 0)], .bool true]) W) := by
  have hy := enc_match h1 h2 h
  have q : Calls Tryz.prog 13 #[.int .u32 (y.toNat : Int)] W (Makes (.tuple #[.agg #[.int .i64 (k : Int), .int .i64 (opsI k y 0), .int .i64 (opsI k y 1), .int .i64 (opsI k y 2), .int .i64 (opsI k y 3)], .bool true]) W) := dec_any y hy.1 (some k) ⟨h1, h2, hy.2⟩ W hW.words
  rw [read_enc h1 h2 h hF 0, read_enc h1 h2 h hF 1, read_enc h1 h2 h hF 2, read_enc h1 h2 h hF 3] at q
  exact q
end Go.Proofs.YtlommbeokbicjaaGreatDoor
