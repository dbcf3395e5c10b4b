/-
  Instructions that were handed in: their words and texts; a program of them.
-/
import Derived.Test.YtlommbeokbicjaaGreatDoorAsmArg
import Derived.Test.YtlommbeokbicjaaGreatDoorAsmText
namespace Go.Proofs.YtlommbeokbicjaaGreatDoor
open Go.RowKit InstMath AsmMath
open Go.Lib (itoa)

/-- The text of an instruction that has a word, with a short end, is short. -/
theorem wr_short {k : Nat} {F : Nat → Int} {s : List UInt8} {y : BitVec 64} (h : InsOk k F s y) (hs : s.length ≤ 12) : (wr k F s).length ≤ 65 := by
  have hn := name_long k (by have := h.hi; omega) h.lo
  have hl := ops_len (shape_of h.lo h.hi)
  have hj := joinS_len [44, 32] (txs k F s) 12 (fun r hr => by
    obtain ⟨o, ho, rfl⟩ := List.mem_map.1 hr
    unfold tx
    split
    · exact hs
    · rename_i h3
      have hr := h.reg o ho h3
      have := itoa_len (n := F o) (by omega)
      simp; omega)
  have e : (txs k F s).length = (opL (shp k)).length := by unfold txs; simp
  rw [e] at hj
  have h2 : (opL (shp k)).length * 14 ≤ 3 * 14 := Nat.mul_le_mul_right _ hl
  simp at hj
  unfold wr
  rw [List.length_append]
  split
  · simp; omega
  · simp; omega
theorem cnt_all : ∀ (L : List Ln), (∀ l ∈ L, l.cls = 2) → cntL L = L.length
  | [], _ => rfl
  | l :: r, h => by
    have := cnt_all r (fun x hx => h x (List.mem_cons_of_mem _ hx))
    unfold cntL isI
    rw [if_pos (h l (by simp)), this]
    simp; omega
theorem mk_none : ∀ (L : List Ln) (c : Nat) (h : List UInt8 → Option (Int × Int)), (∀ l ∈ L, l.cls ≠ 1) → mkF c h L = h
  | [], _, _, _ => rfl
  | l :: r, c, h, hl => by
    unfold mkF
    rw [if_neg (hl l (by simp)), mk_none r _ h (fun x hx => hl x (List.mem_cons_of_mem _ hx))]
theorem join_nl : ∀ (L : List (List UInt8)), joinS [10] (L ++ [[]]) = L.flatMap (fun r => r ++ [10])
  | [] => rfl
  | [x] => by simp [joinS]
  | x :: y :: r => by
    have := join_nl (y :: r)
    simp only [List.cons_append, List.flatMap_cons] at this ⊢
    unfold joinS
    rw [this]

def encI (d : InD) : Option (BitVec 64) := if 1 ≤ d.K ∧ d.K ≤ 69 then encK d.K.toNat (four d.a d.b d.c d.m) else none
def txtI (d : InD) : List UInt8 := wr d.K.toNat (four d.a d.b d.c d.m) (itoa d.m)
def mskI (d : InD) : Nat → Int := msk d.K.toNat (four d.a d.b d.c d.m)
def lnI (d : InD) : Ln := ⟨2, List.replicate 2 32 ++ txtI d, txtI d⟩
theorem txtI_msk (d : InD) : txtI d = wr d.K.toNat (mskI d) (itoa (mskI d 3)) := wr_msk (four d.a d.b d.c d.m)
structure AccI (d : InD) (y : BitVec 64) : Prop where
  lo : 1 ≤ d.K
  hi : d.K ≤ 69
  enc : encK d.K.toNat (four d.a d.b d.c d.m) = some y
theorem encI_some {d : InD} {y : BitVec 64} (h : encI d = some y) : AccI d y := by
  unfold encI at h
  split at h
  · rename_i hk
    exact ⟨hk.1, hk.2, h⟩
  · cases h
theorem AccI.ok {d : InD} {y : BitVec 64} (h : AccI d y) (hd : d.Ok) : InsOk d.K.toNat (mskI d) (itoa (mskI d 3)) y ∧ -10000000000 < mskI d 3 ∧ mskI d 3 < 10000000000 :=
  ins_ok (by have := h.lo; omega) (by have := h.hi; omega) (four_rng hd.a hd.b hd.c hd.m) h.enc
/-- What the program answers to an instruction that has a word. -/
structure YesI (d : InD) (y : BitVec 64) : Prop where
  e1 : ∀ W, G W → Calls Tryz.prog 6 #[.agg #[.int .i64 d.K, .int .i64 d.a, .int .i64 d.b, .int .i64 d.c, .int .i64 d.m]] W (Makes (.tuple #[.int .u32 (y.toNat : Int), .bool true]) W)
  t1 : ∀ W, G W → Calls Tryz.prog 7 #[.agg #[.int .i64 d.K, .int .i64 d.a, .int .i64 d.b, .int .i64 d.c, .int .i64 d.m]] W (Makes (.string (str (txtI d))) W)
  p : ∀ W, G W → Calls Tryz.prog 8 #[.string (str (txtI d))] W (Makes (.tuple #[.agg #[.int .i64 d.K, .int .i64 (mskI d 0), .int .i64 (mskI d 1), .int .i64 (mskI d 2), .int .i64 (mskI d 3)], .bool true]) W)
  e2 : ∀ W, G W → Calls Tryz.prog 6 #[.agg #[.int .i64 d.K, .int .i64 (mskI d 0), .int .i64 (mskI d 1), .int .i64 (mskI d 2), .int .i64 (mskI d 3)]] W (Makes (.tuple #[.int .u32 (y.toNat : Int), .bool true]) W)
  t2 : ∀ W, G W → Calls Tryz.prog 7 #[.agg #[.int .i64 d.K, .int .i64 (mskI d 0), .int .i64 (mskI d 1), .int .i64 (mskI d 2), .int .i64 (mskI d 3)]] W (Makes (.string (str (txtI d))) W)
  ne : txtI d ≠ []
  len : (txtI d).length ≤ 65
theorem yes_i {d : InD} {y : BitVec 64} (h : encI d = some y) (hd : d.Ok) : YesI d y := by
  have hA := encI_some h
  obtain ⟨ok, b1, b2⟩ := hA.ok hd
  have k1 : 1 ≤ d.K.toNat := by have := hA.lo; omega
  have k2 : d.K.toNat ≤ 69 := by have := hA.hi; omega
  have hk : ((d.K.toNat : Nat) : Int) = d.K := by have := hA.lo; omega
  have hR := ok.rg
  have ht : wr d.K.toNat (four (mskI d 0) (mskI d 1) (mskI d 2) (mskI d 3)) (itoa (mskI d 3)) = txtI d := by
    rw [txtI_msk]
    have he : ∀ o ∈ opL (shp d.K.toNat), four (mskI d 0) (mskI d 1) (mskI d 2) (mskI d 3) o = mskI d o := fun o ho => by
      have := ops_lt (shape_of k1 k2) o ho
      obtain rfl | rfl | rfl | rfl : o = 0 ∨ o = 1 ∨ o = 2 ∨ o = 3 := by omega
      all_goals rfl
    have e2 : txs d.K.toNat (four (mskI d 0) (mskI d 1) (mskI d 2) (mskI d 3)) (itoa (mskI d 3)) = txs d.K.toNat (mskI d) (itoa (mskI d 3)) := by
      unfold txs
      refine List.map_congr_left fun o ho => ?_
      unfold tx
      rw [he o ho]
    unfold wr
    rw [e2]
  have he2 : encK d.K.toNat (four (mskI d 0) (mskI d 1) (mskI d 2) (mskI d 3)) = some y := by
    rw [enc_four k1 k2]
    unfold mskI
    rw [enc_msk k1 k2]
    exact hA.enc
  refine ⟨fun W hW => ?_, fun W hW => ?_, fun W hW => ?_, fun W hW => ?_, fun W hW => ?_, ?_, ?_⟩
  · have := enc_yes d.K.toNat k1 k2 d.a d.b d.c d.m hd.a hd.b hd.c hd.m W hW.words
    rw [hA.enc, hk] at this
    exact this
  · have := text_yes d.K.toNat k1 k2 d.a d.b d.c d.m hd.a hd.b hd.c hd.m y hA.enc W hW
    rw [hk] at this
    exact this
  · have := parse_yes d.K.toNat (mskI d) y ok ⟨b1, b2⟩ W hW
    rw [← txtI_msk] at this
    unfold mskV instV at this
    have e : ∀ o, msk d.K.toNat (mskI d) o = mskI d o := fun o => msk_msk _ _ o
    rw [e, e, e, e, hk] at this
    exact this
  · have := enc_yes d.K.toNat k1 k2 (mskI d 0) (mskI d 1) (mskI d 2) (mskI d 3) (hR 0) (hR 1) (hR 2) (hR 3) W hW.words
    rw [he2, hk] at this
    exact this
  · have := text_yes d.K.toNat k1 k2 (mskI d 0) (mskI d 1) (mskI d 2) (mskI d 3) (hR 0) (hR 1) (hR 2) (hR 3) y he2 W hW
    rw [hk, ht] at this
    exact this
  · rw [txtI_msk]
    exact (wr_plain ok.lo (by have := ok.hi; omega) ok.last).ne
  · rw [txtI_msk]
    exact wr_short ok (by have := itoa_len (n := mskI d 3) ⟨b1, b2⟩; omega)
/-- What it answers to one that has none. -/
structure NoI (d : InD) : Prop where
  e1 : ∀ W, G W → Calls Tryz.prog 6 #[.agg #[.int .i64 d.K, .int .i64 d.a, .int .i64 d.b, .int .i64 d.c, .int .i64 d.m]] W (Makes (.tuple #[.int .u32 0, .bool false]) W)
  t1 : ∀ W, G W → Calls Tryz.prog 7 #[.agg #[.int .i64 d.K, .int .i64 d.a, .int .i64 d.b, .int .i64 d.c, .int .i64 d.m]] W (Makes (.string ⟨#[]⟩) W)
theorem no_i {d : InD} (h : encI d = none) (hd : d.Ok) : NoI d := by
  have e1 : ∀ W, G W → Calls Tryz.prog 6 #[.agg #[.int .i64 d.K, .int .i64 d.a, .int .i64 d.b, .int .i64 d.c, .int .i64 d.m]] W (Makes (.tuple #[.int .u32 0, .bool false]) W) := fun W hW => by
    unfold encI at h
    by_cases hk : 1 ≤ d.K ∧ d.K ≤ 69
    · rw [if_pos hk] at h
      have := enc_yes d.K.toNat (by omega) (by omega) d.a d.b d.c d.m hd.a hd.b hd.c hd.m W hW.words
      rw [h, show ((d.K.toNat : Nat) : Int) = d.K by omega] at this
      exact this
    · exact enc_no d.K d.a d.b d.c d.m hk W
  exact ⟨e1, text_none d.K d.a d.b d.c d.m e1⟩
/-- Those that have a word, with it. -/
def accL (l : List InD) : List (InD × BitVec 64) := l.filterMap (fun d => (encI d).map (fun y => (d, y)))
theorem acc_snoc (l : List InD) (d : InD) : accL (l ++ [d]) = accL l ++ (match encI d with | some y => [(d, y)] | none => []) := by
  unfold accL
  rw [List.filterMap_append]
  cases h : encI d <;> simp [h]
theorem acc_len (l : List InD) : (accL l).length ≤ l.length := List.length_filterMap_le _ _
theorem acc_mem {l : List InD} {p : InD × BitVec 64} (h : p ∈ accL l) : p.1 ∈ l ∧ encI p.1 = some p.2 := by
  obtain ⟨d, h1, h2⟩ := List.mem_filterMap.1 h
  obtain ⟨y, h3, rfl⟩ := Option.map_eq_some_iff.1 h2
  exact ⟨h1, h3⟩
/-- The program of them. -/
def bodyB (A : List (InD × BitVec 64)) : List UInt8 := A.flatMap (fun p => [32, 32] ++ txtI p.1 ++ [10])
theorem body_snoc (A : List (InD × BitVec 64)) (p : InD × BitVec 64) : bodyB (A ++ [p]) = bodyB A ++ ([32, 32] ++ txtI p.1 ++ [10]) := by unfold bodyB; simp
theorem body_len : ∀ (A : List (InD × BitVec 64)), (∀ p ∈ A, (txtI p.1).length ≤ 65) → (bodyB A).length ≤ A.length * 68
  | [], _ => by simp [bodyB]
  | p :: r, h => by
    have h1 := h p (by simp)
    have h2 := body_len r (fun q hq => h q (List.mem_cons_of_mem _ hq))
    unfold bodyB at h2 ⊢
    rw [List.flatMap_cons]
    simp only [List.length_append, List.length_cons, List.length_nil] at h2 ⊢
    omega
theorem back_asm (A : List (InD × BitVec 64)) (hlen : A.length ≤ 200) (hA : ∀ p ∈ A, p.1.Ok ∧ encI p.1 = some p.2) (W : World) (hW : G W) :
    Calls Tryz.prog 9 #[.string (str (bodyB A))] W (Assembled A.length (fun n => (A.map (·.2)).getD n 0#64) W) := by
  have hY : ∀ p ∈ A, YesI p.1 p.2 := fun p hp => yes_i (hA p hp).2 (hA p hp).1
  have hB := body_len A (fun p hp => (hY p hp).len)
  obtain ⟨M, hM⟩ : ∃ M, M = A.map (fun p => lnI p.1) := ⟨_, rfl⟩
  have hMl : M.length = A.length := by rw [hM]; simp
  have hc2 : ∀ l ∈ M, l.cls = 2 := fun l hl => by
    rw [hM] at hl
    obtain ⟨p, _, rfl⟩ := List.mem_map.1 hl
    rfl
  have hat : ∀ j l, (M ++ [(⟨0, [], []⟩ : Ln)])[j]? = some l → l.cls = 2 → ∃ (h : j < A.length), l = lnI A[j].1 := fun j l hj hc => by
    have hlt : j < (M ++ [(⟨0, [], []⟩ : Ln)]).length := (List.getElem?_eq_some_iff.1 hj).1
    by_cases h : j < A.length
    · refine ⟨h, ?_⟩
      rw [List.getElem?_append_left (by omega), hM, List.getElem?_map, List.getElem?_eq_getElem h] at hj
      simpa using hj.symm
    · exfalso
      simp at hlt
      obtain rfl : j = M.length := by omega
      simp at hj
      subst hj
      cases hc
  have hmk : marksOf (M ++ [(⟨0, [], []⟩ : Ln)]) = fun _ => none := mk_none _ _ _ (fun l hl => by
    rcases List.mem_append.1 hl with hl | hl
    · rw [hc2 l hl]; omega
    · simp at hl; subst hl; simp)
  have hjoin : joinS [10] ((M ++ [(⟨0, [], []⟩ : Ln)]).map (·.raw)) = bodyB A := by
    rw [List.map_append]
    show joinS [10] (M.map (·.raw) ++ [[]]) = _
    rw [join_nl, hM]
    unfold bodyB lnI
    rw [List.map_map, List.flatMap_map]
    simp [List.replicate]
  have hcnt : cntL (M ++ [(⟨0, [], []⟩ : Ln)]) = A.length := by
    rw [cnt_snoc, cnt_all M hc2, hMl]
    simp [isI]
  have htake : ∀ j, j < A.length → cntL ((M ++ [(⟨0, [], []⟩ : Ln)]).take j) = j := fun j hj => by
    rw [List.take_append_of_le_length (by omega), cnt_all _ (fun l hl => hc2 l (List.mem_of_mem_take hl)), List.length_take]
    omega
  have c := assemble_any (M ++ [(⟨0, [], []⟩ : Ln)]) (fun n => (A.map (·.2)).getD n 0#64) (by simp) (fun l hl => by
      rcases List.mem_append.1 hl with hl | hl
      · rw [hM] at hl
        obtain ⟨p, hp, rfl⟩ := List.mem_map.1 hl
        have hAc := encI_some (hA p hp).2
        have ok := (hAc.ok (hA p hp).1).1
        have := plain_ln ok.lo ok.hi ok.rg ok.last 2
        rw [← txtI_msk] at this
        exact .inr (.inr this)
      · simp at hl
        subst hl
        exact .inl ⟨rfl, .inl rfl⟩) (fun l hl => by
      rcases List.mem_append.1 hl with hl | hl
      · rw [hM] at hl
        obtain ⟨p, hp, rfl⟩ := List.mem_map.1 hl
        have hAc := encI_some (hA p hp).2
        have ok := (hAc.ok (hA p hp).1).1
        have h10 := wr_10 (show p.1.K.toNat < 70 by have := ok.hi; omega) ok.last (F := mskI p.1)
        rw [← txtI_msk] at h10
        unfold lnI
        simp [List.replicate, h10]
      · simp at hl
        subst hl
        simp) (by rw [hjoin]; omega) (by rw [hcnt]; omega) (by simp; omega) (fun j l hj hc => by
      rw [show marksOf ((M ++ [(⟨0, [], []⟩ : Ln)]).take j) = fun _ => none from mk_none _ _ _ (fun l hl => by
        rcases List.mem_append.1 (List.mem_of_mem_take hl) with hl | hl
        · rw [hc2 l hl]; omega
        · simp at hl; subst hl; simp)]) (fun j l hj hc => by
      obtain ⟨h, rfl⟩ := hat j l hj hc
      have hp := List.getElem_mem h
      have hAc := encI_some (hA _ hp).2
      obtain ⟨ok, b1, b2⟩ := hAc.ok (hA _ hp).1
      rw [htake j h, hmk]
      refine ⟨A[j].1.K.toNat, mskI A[j].1, itoa (mskI A[j].1 3), txtI_msk _, ?_, .inr ⟨rfl, rfl, b1, b2⟩⟩
      have e : (A.map (·.2)).getD j 0#64 = A[j].2 := by
        rw [List.getD_eq_getElem?_getD, List.getElem?_map, List.getElem?_eq_getElem h]
        rfl
      rw [e]
      exact ok) W hW
  rw [hjoin, hcnt] at c
  exact c
end Go.Proofs.YtlommbeokbicjaaGreatDoor
