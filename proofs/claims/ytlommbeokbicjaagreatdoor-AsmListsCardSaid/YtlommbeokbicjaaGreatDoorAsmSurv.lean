/-
  Lines of a program; what survey keeps of them, and how it lies in memory.
-/
import Derived.Test.YtlommbeokbicjaaGreatDoorGWord
namespace Go.Proofs.YtlommbeokbicjaaGreatDoor
open Go.RowKit InstMath AsmMath
open Go.Lib (itoa)

/-- A block of cells of a type. -/
def Typ (W : World) (b : Nat) (t : TypeId) : Prop := ∃ c f, W.heap[b]? = some (.cells c t f)
theorem Typ.lt {W : World} {b : Nat} {t : TypeId} (h : Typ W b t) : b < W.heap.size := by
  obtain ⟨c, f, h⟩ := h
  exact (Array.getElem?_eq_some_iff.1 h).1
theorem typ_be {W W' : World} {b : Nat} {t : TypeId} (hb : Below W.heap.size W W') (h : Typ W b t) : Typ W' b t := by
  have hl := h.lt
  obtain ⟨c, f, h⟩ := h
  exact ⟨c, f, (hb.block b hl).trans h⟩
theorem typ_al {W : World} {b : Nat} {t : TypeId} (o : Obj) (h : Typ W b t) : Typ (W.alloc o) b t := typ_be (below_alloc (Below.refl _ _) (Nat.le_refl _) o) h
theorem typ_dr {W : World} {b : Nat} {t : TypeId} (n : Nat) (h : Typ W b t) : Typ (W.drewN n) b t := h
theorem typ_d1 {W : World} {b : Nat} {t : TypeId} (h : Typ W b t) : Typ W.drew b t := h
theorem typ_ob {N : Nat} {W W' : World} {b : Nat} {t : TypeId} (ho : OutB N W W') (hne : b ≠ N) (h : Typ W b t) : Typ W' b t := by
  have hl := h.lt
  obtain ⟨c, f, h⟩ := h
  exact ⟨c, f, (ho.block b hl hne).trans h⟩
theorem typ_set {W : World} {b : Nat} {t : TypeId} {p : Addr} {u : Value} (h : Typ W b t) : Typ (W.setCell p u) b t := by
  obtain ⟨c, f, h⟩ := h
  unfold Typ World.setCell
  dsimp only
  rw [Array.getElem?_modify]
  split
  · rw [h]
    exact ⟨_, _, rfl⟩
  · exact ⟨c, f, h⟩
theorem typ_new {W : World} {cs : Array Value} {t : TypeId} {b : Nat} (hb : b = W.heap.size) : Typ (W.alloc (.cells cs t)) b t := by
  subst hb
  refine ⟨cs, (0, 0), ?_⟩
  exact (MapKept.heap_alloc W _).1
theorem owns_ne {W : World} {base n size : Nat} {e t : TypeId} {v : Value} {xs : List Value} {b : Nat} (h : W.ownsRow base e size v n xs) (ht : Typ W b t) (hne : t ≠ e) : v.ownBlock ≠ some b := by
  intro e1
  rcases h.2 with ⟨rfl, _⟩ | ⟨g, cap, cur, rfl, _, h4, _⟩
  · simp [Value.ownBlock] at e1
  · obtain rfl : g = b := by simpa [Value.ownBlock] using e1
    obtain ⟨c, f, hb⟩ := ht
    rw [h4] at hb
    injection hb with hb
    injection hb with _ h2 _
    exact hne h2.symm
theorem ms_ne {W : World} {b mb k : Nat} {t : TypeId} {h : List UInt8 → Option (Int × Int)} (hm : MapS W mb k h) (ht : Typ W b t) : b ≠ mb := by
  rintro rfl
  obtain ⟨D, ⟨es, cl, h1, _⟩, _⟩ := hm
  obtain ⟨c, f, hb⟩ := ht
  rw [h1] at hb
  injection hb with hb
  cases hb
/-- Blocks of texts stay. -/
def SK (W W' : World) : Prop := ∀ (N : Nat) (c : Array Value) (f : Nat × Nat), W.heap[N]? = some (Obj.cells c 9 f) → W'.heap[N]? = some (Obj.cells c 9 f)
theorem sk_refl (W : World) : SK W W := fun _ _ _ h => h
theorem sk_trans {a b c : World} (h : SK a b) (k : SK b c) : SK a c := fun N cs f hN => k N cs f (h N cs f hN)
theorem sk_be {W W' : World} (hb : Below W.heap.size W W') : SK W W' := fun N _ _ h => (hb.block N (Array.getElem?_eq_some_iff.1 h).1).trans h
theorem sk_al (W : World) (o : Obj) : SK W (W.alloc o) := sk_be (below_alloc (Below.refl _ _) (Nat.le_refl _) o)
theorem sk_set {W : World} {p : Addr} {u : Value} {t : TypeId} (ht : Typ W p.block t) (hne : t ≠ 9) : SK W (W.setCell p u) := fun N c f h => by
  have hN : N ≠ p.block := fun e => by
    obtain ⟨c', f', h'⟩ := ht
    rw [← e, h] at h'
    injection h' with h'
    injection h' with _ h2 _
    exact hne h2.symm
  exact (Below.heap_setCell _ _ _ _ hN).trans h
theorem sk_ob {mb k : Nat} {h : List UInt8 → Option (Int × Int)} {W W' : World} (hm : MapS W mb k h) (ho : OutB mb W W') : SK W W' := fun N c f hN =>
  (ho.block N (Array.getElem?_eq_some_iff.1 hN).1 (ms_ne hm ⟨c, f, hN⟩)).trans hN
theorem sk_grown {W W' : World} {base n size : Nat} {e : TypeId} {v : Value} {xs : List Value} (h : W.ownsRow base e size v n xs) (hne : e ≠ 9) (hg : W.grownBy W' v.ownBlock) : SK W W' := fun N c f hN =>
  (hg.block N (Array.getElem?_eq_some_iff.1 hN).1 (fun e1 => owns_ne h ⟨c, f, hN⟩ (fun e2 => hne e2.symm) e1.symm)).trans hN
/-- A block whose first cell is a text. -/
def StrBlk (W : World) (N : Nat) (s : List UInt8) : Prop := ∃ c f, W.heap[N]? = some (Obj.cells c 9 f) ∧ c[0]? = some (.string (str s))
theorem StrBlk.keep {W W' : World} {N : Nat} {s : List UInt8} (h : StrBlk W N s) (k : SK W W') : StrBlk W' N s := by
  obtain ⟨c, f, h1, h2⟩ := h
  exact ⟨c, f, k _ _ _ h1, h2⟩
theorem StrBlk.cell {W : World} {N : Nat} {s : List UInt8} (h : StrBlk W N s) : W.cell? ⟨N, 0, none⟩ = some (.string (str s)) := by
  obtain ⟨c, f, h1, h2⟩ := h
  simp [World.cell?, h1, h2]
/-- Rows of texts in a block of texts. -/
def StrsT (W : World) (b : Nat) (l : List (List UInt8)) : Prop := Typ W b 9 ∧ Strs W b l
theorem StrsT.keep {W W' : World} {b : Nat} {l : List (List UInt8)} (h : StrsT W b l) (k : SK W W') : StrsT W' b l := by
  obtain ⟨⟨c, f, h1⟩, h2⟩ := h
  have h3 := k _ _ _ h1
  refine ⟨⟨c, f, h3⟩, fun j s hs => ?_⟩
  have := h2 j s hs
  unfold World.cell? at this ⊢
  rw [h1] at this
  rw [h3]
  exact this

/-- A line: 0 skipped, 1 a mark, 2 an instruction; as it stands; the mark's name, the instruction's text. -/
structure Ln where
  cls : Nat
  raw : List UInt8
  txt : List UInt8
structure SkipOk (l : Ln) : Prop where
  cls : l.cls = 0
  trim : Lib.trimLeftB l.raw 32 = [] ∨ ∃ r, Lib.trimLeftB l.raw 32 = 35 :: r
structure MarkOk (l : Ln) : Prop where
  cls : l.cls = 1
  trim : Lib.trimLeftB l.raw 32 = l.txt ++ [58]
  name : NameOk l.txt
structure InsLn (l : Ln) : Prop where
  cls : l.cls = 2
  trim : Lib.trimLeftB l.raw 32 = l.txt
  plain : Plain l.txt
  len : l.txt.length ≤ 1000
def LnOk (l : Ln) : Prop := SkipOk l ∨ MarkOk l ∨ InsLn l
def isI (l : Ln) : Nat := if l.cls = 2 then 1 else 0
def cntL : List Ln → Nat
  | [] => 0
  | l :: r => isI l + cntL r
theorem cnt_snoc (L : List Ln) (l : Ln) : cntL (L ++ [l]) = cntL L + isI l := by
  induction L with
  | nil => simp [cntL]
  | cons a r ih => simp [cntL, ih]; omega
theorem cnt_le (L : List Ln) : cntL L ≤ L.length := by
  induction L with
  | nil => simp [cntL]
  | cons a r ih =>
    simp only [cntL, List.length_cons, isI]
    split <;> omega
/-- The marks: name by name, how many instructions are ahead. -/
def mkF (c : Nat) (h : List UInt8 → Option (Int × Int)) : List Ln → List UInt8 → Option (Int × Int)
  | [] => h
  | l :: r => mkF (c + isI l) (if l.cls = 1 then updS h l.txt ((c : Int), 1) else h) r
theorem mk_snoc (L : List Ln) (l : Ln) : ∀ (c : Nat) (h : List UInt8 → Option (Int × Int)), mkF c h (L ++ [l]) = if l.cls = 1 then updS (mkF c h L) l.txt (((c + cntL L : Nat) : Int), 1) else mkF c h L := by
  induction L with
  | nil => intro c h; simp [mkF, cntL]
  | cons a r ih =>
    intro c h
    simp only [List.cons_append, mkF, cntL]
    rw [ih, Nat.add_assoc]
def marksOf (L : List Ln) : List UInt8 → Option (Int × Int) := mkF 0 (fun _ => none) L
/-- What is kept of a line: its number, how many instructions are ahead, its text (none: a mark). -/
structure Kp where
  num : Nat
  at' : Nat
  txt : Option (List UInt8)
def kpL (n c : Nat) : List Ln → List Kp
  | [] => []
  | l :: r => (if l.cls = 0 then [] else [⟨n + 1, c, if l.cls = 2 then some l.txt else none⟩]) ++ kpL (n + 1) (c + isI l) r
theorem kp_snoc (L : List Ln) (l : Ln) : ∀ (n c : Nat), kpL n c (L ++ [l]) = kpL n c L ++ (if l.cls = 0 then [] else [⟨n + L.length + 1, c + cntL L, if l.cls = 2 then some l.txt else none⟩]) := by
  induction L with
  | nil => intro n c; simp [kpL, cntL]
  | cons a r ih =>
    intro n c
    simp only [List.cons_append, kpL, cntL, List.length_cons]
    rw [ih, List.append_assoc]
    congr 3
    · congr 1
      · congr 1
        congr 1
        · omega
        · omega
theorem kp_le (n c : Nat) (L : List Ln) : (kpL n c L).length ≤ L.length := by
  induction L generalizing n c with
  | nil => simp [kpL]
  | cons a r ih =>
    simp only [kpL, List.length_append, List.length_cons]
    have := ih (n + 1) (c + isI a)
    split
    · simp; omega
    · simp; omega
/-- The value of a kept line's texts. -/
def TxtV (W : World) (t : Value) : Option (List UInt8) → Prop
  | none => t = .slice none 0 0
  | some s => ∃ N, t = .slice (some ⟨N, 0, none⟩) 1 1 ∧ StrBlk W N s
theorem TxtV.keep {W W' : World} {t : Value} {s : Option (List UInt8)} (h : TxtV W t s) (k : SK W W') : TxtV W' t s := by
  cases s with
  | none => exact h
  | some s =>
    obtain ⟨N, h1, h2⟩ := h
    exact ⟨N, h1, h2.keep k⟩
def KpRel (W : World) : List Kp → List Value → Prop
  | [], [] => True
  | k :: r, a :: b :: t :: g :: xs => a = .int .i64 (k.num : Int) ∧ b = .int .i64 (k.at' : Int) ∧ TxtV W t k.txt ∧ g = .bool false ∧ KpRel W r xs
  | _, _ => False
theorem KpRel.keep {W W' : World} (k : SK W W') : ∀ {K : List Kp} {xs : List Value}, KpRel W K xs → KpRel W' K xs
  | [], [], _ => trivial
  | _ :: _, _ :: _ :: _ :: _ :: _, ⟨h1, h2, h3, h4, h5⟩ => ⟨h1, h2, h3.keep k, h4, KpRel.keep k h5⟩
  | [], _ :: _, h => h.elim
  | _ :: _, [], h => h.elim
  | _ :: _, [_], h => h.elim
  | _ :: _, [_, _], h => h.elim
  | _ :: _, [_, _, _], h => h.elim
theorem KpRel.snoc {W : World} {k : Kp} {t : Value} (ht : TxtV W t k.txt) : ∀ {K : List Kp} {xs : List Value}, KpRel W K xs → KpRel W (K ++ [k]) (xs ++ [.int .i64 (k.num : Int), .int .i64 (k.at' : Int), t, .bool false])
  | [], [], _ => ⟨rfl, rfl, ht, rfl, trivial⟩
  | _ :: _, _ :: _ :: _ :: _ :: _, ⟨h1, h2, h3, h4, h5⟩ => ⟨h1, h2, h3, h4, KpRel.snoc ht h5⟩
  | [], _ :: _, h => h.elim
  | _ :: _, [], h => h.elim
  | _ :: _, [_], h => h.elim
  | _ :: _, [_, _], h => h.elim
  | _ :: _, [_, _, _], h => h.elim
theorem KpRel.len {W : World} : ∀ {K : List Kp} {xs : List Value}, KpRel W K xs → xs.length = K.length * 4
  | [], [], _ => rfl
  | _ :: r, _ :: _ :: _ :: _ :: xs, ⟨_, _, _, _, h5⟩ => by have := KpRel.len h5; simp; omega
  | [], _ :: _, h => h.elim
  | _ :: _, [], h => h.elim
  | _ :: _, [_], h => h.elim
  | _ :: _, [_, _], h => h.elim
  | _ :: _, [_, _, _], h => h.elim
/-- The cells of the j-th kept line. -/
theorem KpRel.at {W : World} : ∀ {K : List Kp} {xs : List Value}, KpRel W K xs → ∀ (j : Nat) (k : Kp), K[j]? = some k → ∃ t, TxtV W t k.txt ∧ xs[j * 4]? = some (.int .i64 (k.num : Int)) ∧ xs[j * 4 + 1]? = some (.int .i64 (k.at' : Int)) ∧ xs[j * 4 + 2]? = some t ∧ xs[j * 4 + 3]? = some (.bool false)
  | [], [], _, j, k, hj => by simp at hj
  | k0 :: r, _ :: _ :: t :: _ :: xs, ⟨h1, h2, h3, h4, h5⟩, 0, k, hj => by
    obtain rfl := Option.some.inj hj
    exact ⟨t, h3, by rw [h1]; rfl, by rw [h2]; rfl, rfl, by rw [h4]; rfl⟩
  | k0 :: r, _ :: _ :: _ :: _ :: xs, ⟨h1, h2, h3, h4, h5⟩, j + 1, k, hj => by
    obtain ⟨t, a, b, c, d, e⟩ := KpRel.at h5 j k (by simpa using hj)
    refine ⟨t, a, ?_, ?_, ?_, ?_⟩
    · rw [show (j + 1) * 4 = j * 4 + 4 by omega]; simpa using b
    · rw [show (j + 1) * 4 + 1 = (j * 4 + 1) + 4 by omega]; simpa using c
    · rw [show (j + 1) * 4 + 2 = (j * 4 + 2) + 4 by omega]; simpa using d
    · rw [show (j + 1) * 4 + 3 = (j * 4 + 3) + 4 by omega]; simpa using e
  | [], _ :: _, h, _, _, _ => h.elim
  | _ :: _, [], h, _, _, _ => h.elim
  | _ :: _, [_], h, _, _, _ => h.elim
  | _ :: _, [_, _], h, _, _, _ => h.elim
  | _ :: _, [_, _, _], h, _, _, _ => h.elim
end Go.Proofs.YtlommbeokbicjaaGreatDoor
