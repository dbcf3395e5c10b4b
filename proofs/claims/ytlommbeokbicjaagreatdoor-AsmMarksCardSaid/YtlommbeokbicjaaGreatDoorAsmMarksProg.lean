/-
  AsmMarks' program: its lines, its marks and its words.
-/
import Derived.Test.YtlommbeokbicjaaGreatDoorAsmMarksMath
namespace Go.Proofs.YtlommbeokbicjaaGreatDoor
open Go.RowKit InstMath AsmMath
open Go.Lib (itoa)

theorem t_addi1 : wr 22 (four 1 1 0 1) (itoa 1) = [97, 100, 100, 105, 32, 99, 49, 44, 32, 99, 49, 44, 32, 49] := by
  have e : opL (shp 22) = [0, 1, 3] := by decide +kernel
  have n : nameL 22 = [97, 100, 100, 105] := by decide +kernel
  unfold wr txs
  rw [e, n, itoa_1]
  simp [tx, joinS, four, itoa_1]
theorem t_beq (x : Int) : wr 5 (four 0 1 2 x) [98] = [98, 101, 113, 32, 99, 49, 44, 32, 99, 50, 44, 32, 98] := by
  have e : opL (shp 5) = [1, 2, 3] := by decide +kernel
  have n : nameL 5 = [98, 101, 113] := by decide +kernel
  unfold wr txs
  rw [e, n]
  simp [tx, joinS, four, itoa_1, itoa_2]
theorem t_jal (x : Int) : wr 3 (four 3 0 0 x) [97] = [106, 97, 108, 32, 99, 51, 44, 32, 97] := by
  have e : opL (shp 3) = [0, 3] := by decide +kernel
  have n : nameL 3 = [106, 97, 108] := by decide +kernel
  unfold wr txs
  rw [e, n]
  simp [tx, joinS, four, itoa_3]
def lnT (t : List UInt8) : Ln := ⟨2, List.replicate 0 32 ++ t, t⟩
def lnA : Ln := lnT (wr 22 (four 1 1 0 1) (itoa 1))
def exL : Nat → List Ln
  | 0 => []
  | 1 => [⟨0, [], []⟩]
  | 2 => [⟨0, [35, 32, 120], []⟩]
  | _ => [⟨0, [32, 32], []⟩]
def extL (l : List Int) (i : Nat) : List Ln := match l[i]? with | some x => exL (lo2 x) | none => []
def layL (l : List Int) (n : Nat) : List Ln := (List.range n).flatMap (fun i => lnA :: extL l i)
theorem layL_succ (l : List Int) (n : Nat) : layL l (n + 1) = layL l n ++ (lnA :: extL l n) := by
  unfold layL
  rw [List.range_succ, List.flatMap_append]
  simp
/-- The text of lines. -/
def fl (L : List Ln) : List UInt8 := L.flatMap (fun r => r.raw ++ [10])
theorem fl_app (a b : List Ln) : fl (a ++ b) = fl a ++ fl b := by unfold fl; rw [List.flatMap_append]
theorem fl_join (L : List Ln) : joinS [10] ((L ++ [(⟨0, [], []⟩ : Ln)]).map (·.raw)) = fl L := by
  rw [List.map_append]
  show joinS [10] (L.map (·.raw) ++ [[]]) = _
  rw [join_nl, List.flatMap_map]
  rfl
theorem fl_ex : ∀ c, fl (exL c) = exB c
  | 0 => rfl
  | 1 => rfl
  | 2 => rfl
  | _ + 3 => rfl
theorem fl_ext (l : List Int) (i : Nat) : fl (extL l i) = extB l i := by
  unfold extL extB
  cases l[i]? with
  | none => rfl
  | some x => exact fl_ex (lo2 x)
theorem fl_a : fl [lnA] = addiB := by
  unfold lnA lnT fl
  rw [t_addi1]
  rfl
theorem fl_lay (l : List Int) : ∀ n, fl (layL l n) = layB l n
  | 0 => rfl
  | n + 1 => by
    rw [layL_succ, fl_app, fl_lay l n, layB_succ, ← fl_a, ← fl_ext, ← fl_app]
    rfl
theorem ex_cls (c : Nat) : ∀ x ∈ exL c, x.cls = 0 ∧ SkipOk x ∧ (10 : UInt8) ∉ x.raw := by
  intro x hx
  unfold exL at hx
  split at hx
  · simp at hx
  · simp at hx; subst hx; exact ⟨rfl, ⟨rfl, .inl rfl⟩, by decide⟩
  · simp at hx; subst hx; exact ⟨rfl, ⟨rfl, .inr ⟨[32, 120], rfl⟩⟩, by decide⟩
  · simp at hx; subst hx; exact ⟨rfl, ⟨rfl, .inl rfl⟩, by decide⟩
theorem ext_cls (l : List Int) (i : Nat) : ∀ x ∈ extL l i, x.cls = 0 ∧ SkipOk x ∧ (10 : UInt8) ∉ x.raw := by
  unfold extL
  split
  · exact ex_cls _
  · intro x hx; simp at hx
theorem a_ok : InsOk 22 (four 1 1 0 1) (itoa 1) 1081491#64 := by
  refine ⟨by omega, by omega, four_rng (rng_small (by omega)) (rng_small (by omega)) (rng_small (by omega)) (rng_small (by omega)), ?_, last_itoa (rng_small (by omega)), by decide +kernel⟩
  rw [show opL (shp 22) = [0, 1, 3] by decide +kernel]
  decide
theorem lnA_ok : LnOk lnA ∧ (10 : UInt8) ∉ lnA.raw := by
  refine ⟨.inr (.inr (plain_ln a_ok.lo a_ok.hi a_ok.rg a_ok.last 0)), ?_⟩
  unfold lnA lnT
  rw [t_addi1]
  decide
theorem lay_mem (l : List Int) (n : Nat) : ∀ x ∈ layL l n, (x = lnA ∨ x.cls = 0) ∧ LnOk x ∧ (10 : UInt8) ∉ x.raw := by
  intro x hx
  unfold layL at hx
  obtain ⟨i, _, hx⟩ := List.mem_flatMap.1 hx
  rcases List.mem_cons.1 hx with rfl | hx
  · exact ⟨.inl rfl, lnA_ok⟩
  · obtain ⟨h1, h2, h3⟩ := ext_cls l i x hx
    exact ⟨.inr h1, .inl h2, h3⟩
theorem lay_ne (l : List Int) (n : Nat) : ∀ x ∈ layL l n, x.cls ≠ 1 := fun x hx => by
  rcases (lay_mem l n x hx).1 with rfl | h
  · simp [lnA, lnT]
  · omega
theorem cnt_app : ∀ (a b : List Ln), cntL (a ++ b) = cntL a + cntL b
  | [], b => by simp [cntL]
  | x :: a, b => by
    have := cnt_app a b
    simp only [List.cons_append, cntL]
    omega
theorem cnt_0 : ∀ (L : List Ln), (∀ x ∈ L, x.cls = 0) → cntL L = 0
  | [], _ => rfl
  | x :: r, h => by
    have := cnt_0 r (fun y hy => h y (List.mem_cons_of_mem _ hy))
    unfold cntL isI
    rw [if_neg (by rw [h x (by simp)]; omega), this]
theorem cnt_lay (l : List Int) : ∀ n, cntL (layL l n) = n
  | 0 => rfl
  | n + 1 => by
    have h0 := cnt_0 (extL l n) (fun x hx => (ext_cls l n x hx).1)
    rw [layL_succ, cnt_app, cnt_lay l n]
    show n + (isI lnA + cntL (extL l n)) = _
    rw [h0]
    rfl
theorem lay_count (l : List Int) : ∀ n, (layL l n).length ≤ 2 * n
  | 0 => by simp [layL]
  | n + 1 => by
    have h1 := lay_count l n
    have h2 : (extL l n).length ≤ 1 := by
      unfold extL
      split
      · unfold exL
        split <;> simp
      · simp
    rw [layL_succ, List.length_append, List.length_cons]
    omega
theorem mk_app : ∀ (a b : List Ln) (c : Nat) (h : List UInt8 → Option (Int × Int)), mkF c h (a ++ b) = mkF (c + cntL a) (mkF c h a) b
  | [], b, c, h => by simp [cntL, mkF]
  | x :: a, b, c, h => by
    simp only [List.cons_append, mkF, cntL]
    rw [mk_app a b, Nat.add_assoc]
/-- Each instruction's text, at its place: its word. -/
def AllW (M : List UInt8 → Option (Int × Int)) (Y : Nat → BitVec 64) (c : Nat) (L : List Ln) : Prop := ∀ (j : Nat) (l : Ln), L[j]? = some l → l.cls = 2 → WordOk M (c + cntL (L.take j)) l.txt (Y (c + cntL (L.take j)))
theorem allW_app {M : List UInt8 → Option (Int × Int)} {Y : Nat → BitVec 64} {c : Nat} {a b : List Ln} (h1 : AllW M Y c a) (h2 : AllW M Y (c + cntL a) b) : AllW M Y c (a ++ b) := by
  intro j l hj hc
  by_cases h : j < a.length
  · rw [List.getElem?_append_left h] at hj
    rw [List.take_append_of_le_length (by omega)]
    exact h1 j l hj hc
  · rw [List.getElem?_append_right (by omega)] at hj
    have := h2 (j - a.length) l hj hc
    rw [List.take_append, List.take_of_length_le (by omega), cnt_app, ← Nat.add_assoc]
    exact this
theorem allW_one {M : List UInt8 → Option (Int × Int)} {Y : Nat → BitVec 64} {c : Nat} {x : Ln} (h : x.cls = 2 → WordOk M c x.txt (Y c)) : AllW M Y c [x] := by
  intro j l hj hc
  match j, hj with
  | 0, hj =>
    simp at hj
    subst hj
    exact h hc
  | j + 1, hj => simp at hj
theorem allW_0 {M : List UInt8 → Option (Int × Int)} {Y : Nat → BitVec 64} {c : Nat} {L : List Ln} (h : ∀ x ∈ L, x.cls = 0) : AllW M Y c L := by
  intro j l hj hc
  have := h l (List.mem_of_getElem? hj)
  omega
theorem allW_lay {M : List UInt8 → Option (Int × Int)} {Y : Nat → BitVec 64} {c : Nat} (l : List Int) : ∀ n, (∀ i, i < n → WordOk M (c + i) lnA.txt (Y (c + i))) → AllW M Y c (layL l n)
  | 0, _ => allW_0 (fun x hx => by simp [layL] at hx)
  | n + 1, h => by
    rw [layL_succ]
    refine allW_app (allW_lay l n (fun i hi => h i (by omega))) ?_
    rw [cnt_lay]
    exact allW_app (a := [lnA]) (allW_one (fun _ => h n (by omega))) (allW_0 (fun x hx => (ext_cls l n x hx).1))
/-- No mark has the name of one before. -/
def Uniq (c : Nat) (h : List UInt8 → Option (Int × Int)) (L : List Ln) : Prop := ∀ (j : Nat) (l : Ln), L[j]? = some l → l.cls = 1 → mkF c h (L.take j) l.txt = none
theorem uniq_app {c : Nat} {h : List UInt8 → Option (Int × Int)} {a b : List Ln} (h1 : Uniq c h a) (h2 : Uniq (c + cntL a) (mkF c h a) b) : Uniq c h (a ++ b) := by
  intro j l hj hc
  by_cases hh : j < a.length
  · rw [List.getElem?_append_left hh] at hj
    rw [List.take_append_of_le_length (by omega)]
    exact h1 j l hj hc
  · rw [List.getElem?_append_right (by omega)] at hj
    have := h2 (j - a.length) l hj hc
    rw [List.take_append, List.take_of_length_le (by omega), mk_app]
    exact this
theorem uniq_one {c : Nat} {h : List UInt8 → Option (Int × Int)} {x : Ln} (hx : x.cls = 1 → h x.txt = none) : Uniq c h [x] := by
  intro j l hj hc
  match j, hj with
  | 0, hj =>
    simp at hj
    subst hj
    exact hx hc
  | j + 1, hj => simp at hj
theorem uniq_none {c : Nat} {h : List UInt8 → Option (Int × Int)} {L : List Ln} (hL : ∀ x ∈ L, x.cls ≠ 1) : Uniq c h L := by
  intro j l hj hc
  exact absurd hc (hL l (List.mem_of_getElem? hj))

def beqF (B : Nat) : Nat → Int := four 0 1 2 (4 * ((B : Int) + 2))
def jalF (A : Nat) : Nat → Int := four 3 0 0 (-4 * ((A : Int) + 1))
theorem beq_some : ∀ B, B < 64 → (encK 5 (beqF B)).isSome = true := by decide +kernel
theorem jal_some : ∀ A, A < 64 → (encK 3 (jalF A)).isSome = true := by decide +kernel
theorem beq_ok {B : Nat} (hB : B < 64) {y : BitVec 64} (h : encK 5 (beqF B) = some y) : InsOk 5 (beqF B) [98] y := by
  refine ⟨by omega, by omega, four_rng (rng_small (by omega)) (rng_small (by omega)) (rng_small (by omega)) (rng_small (by omega)), ?_, last_name (name_one 98 (by decide)), ?_⟩
  · rw [show opL (shp 5) = [1, 2, 3] by decide +kernel]
    intro o ho h3
    simp at ho
    unfold beqF
    rcases ho with rfl | rfl | rfl
    · exact (show (0 : Int) ≤ 1 ∧ (1 : Int) < 32 by decide)
    · exact (show (0 : Int) ≤ 2 ∧ (2 : Int) < 32 by decide)
    · exact absurd rfl h3
  · rw [enc_four (by omega) (by omega), enc_msk (by omega) (by omega)]
    exact h
theorem jal_ok {A : Nat} (hA : A < 64) {y : BitVec 64} (h : encK 3 (jalF A) = some y) : InsOk 3 (jalF A) [97] y := by
  refine ⟨by omega, by omega, four_rng (rng_small (by omega)) (rng_small (by omega)) (rng_small (by omega)) (rng_small (by omega)), ?_, last_name (name_one 97 (by decide)), ?_⟩
  · rw [show opL (shp 3) = [0, 3] by decide +kernel]
    intro o ho h3
    simp at ho
    unfold jalF
    rcases ho with rfl | rfl
    · exact (show (0 : Int) ≤ 3 ∧ (3 : Int) < 32 by decide)
    · exact absurd rfl h3
  · rw [enc_four (by omega) (by omega), enc_msk (by omega) (by omega)]
    exact h
/-- The program's lines, without the last, empty one. -/
def pL (l : List Int) (A B : Nat) : List Ln := [(⟨1, [97, 58], [97]⟩ : Ln)] ++ layL l A ++ [lnT (wr 5 (beqF B) [98])] ++ [lnT (wr 3 (jalF A) [97])] ++ layL l B ++ [(⟨1, [98, 58], [98]⟩ : Ln)]
def pT (l : List Int) (A B : Nat) : List UInt8 := [97, 58, 10] ++ layB l A ++ [98, 101, 113, 32, 99, 49, 44, 32, 99, 50, 44, 32, 98, 10, 106, 97, 108, 32, 99, 51, 44, 32, 97, 10] ++ layB l B ++ [98, 58, 10]
theorem fl_p (l : List Int) (A B : Nat) : fl (pL l A B) = pT l A B := by
  unfold pL pT
  rw [fl_app, fl_app, fl_app, fl_app, fl_app, fl_lay, fl_lay]
  unfold beqF jalF
  rw [t_beq, t_jal]
  simp [fl, lnT]
def pY (A : Nat) (y1 y2 : BitVec 64) (n : Nat) : BitVec 64 := if n = A then y1 else if n = A + 1 then y2 else 1081491#64
theorem cnt_p (l : List Int) (A B : Nat) : cntL (pL l A B) = A + B + 2 := by
  unfold pL
  rw [cnt_app, cnt_app, cnt_app, cnt_app, cnt_app, cnt_lay, cnt_lay]
  simp [cntL, isI, lnT]
  omega
theorem mk_p (l : List Int) (A B : Nat) : mkF 0 (fun _ => none) (pL l A B) = updS (updS (fun _ => none) [97] (((0 : Nat) : Int), 1)) [98] (((A + B + 2 : Nat) : Int), 1) := by
  have e : cntL ([(⟨1, [97, 58], [97]⟩ : Ln)] ++ layL l A ++ [lnT (wr 5 (beqF B) [98])] ++ [lnT (wr 3 (jalF A) [97])] ++ layL l B) = A + B + 2 := by
    rw [cnt_app, cnt_app, cnt_app, cnt_app, cnt_lay, cnt_lay]
    simp [cntL, isI, lnT]
    omega
  unfold pL
  rw [mk_app, e, mk_app, mk_none (layL l B) _ _ (lay_ne l B), mk_app, mk_app, mk_app, mk_none (layL l A) _ _ (lay_ne l A)]
  simp [mkF, lnT]
theorem marks_asm (l : List Int) (A B : Nat) (hA : A < 64) (hB : B < 64) (y1 y2 : BitVec 64) (h1 : encK 5 (beqF B) = some y1) (h2 : encK 3 (jalF A) = some y2) (W : World) (hW : G W) :
    Calls Tryz.prog 9 #[.string (str (pT l A B))] W (Assembled (A + B + 2) (pY A y1 y2) W) := by
  have b1 := beq_ok hB h1
  have b2 := jal_ok hA h2
  have hM : marksOf (pL l A B ++ [(⟨0, [], []⟩ : Ln)]) = updS (updS (fun _ => none) [97] (((0 : Nat) : Int), 1)) [98] (((A + B + 2 : Nat) : Int), 1) := by
    unfold marksOf
    rw [mk_app, mk_p]
    rfl
  have hcnt : cntL (pL l A B ++ [(⟨0, [], []⟩ : Ln)]) = A + B + 2 := by
    rw [cnt_app, cnt_p]
    rfl
  have wA : ∀ n, n < 20000 → n ≠ A → n ≠ A + 1 → WordOk (marksOf (pL l A B ++ [(⟨0, [], []⟩ : Ln)])) n lnA.txt (pY A y1 y2 n) := fun n hn e1 e2 => by
    unfold pY
    rw [if_neg e1, if_neg e2, hM]
    refine ⟨22, four 1 1 0 1, itoa 1, rfl, a_ok, .inr ⟨?_, rfl, by decide, by decide⟩⟩
    rw [itoa_1]
    simp [updS]
  have hall : AllW (marksOf (pL l A B ++ [(⟨0, [], []⟩ : Ln)])) (pY A y1 y2) 0 (pL l A B ++ [(⟨0, [], []⟩ : Ln)]) := by
    generalize hMM : marksOf (pL l A B ++ [(⟨0, [], []⟩ : Ln)]) = M at *
    refine allW_app ?_ (allW_0 (fun x hx => by simp at hx; subst hx; rfl))
    unfold pL
    refine allW_app (allW_app (allW_app (allW_app (allW_app (allW_one (fun h => by cases h)) ?_) ?_) ?_) ?_) (allW_one (fun h => by cases h))
    · refine allW_lay l A (fun i hi => ?_)
      rw [show 0 + cntL [(⟨1, [97, 58], [97]⟩ : Ln)] + i = i by simp [cntL, isI]]
      exact wA i (by omega) (by omega) (by omega)
    · refine allW_one (fun _ => ?_)
      rw [show 0 + cntL ([(⟨1, [97, 58], [97]⟩ : Ln)] ++ layL l A) = A by rw [cnt_app, cnt_lay]; simp [cntL, isI]]
      unfold pY
      rw [if_pos rfl]
      refine ⟨5, beqF B, [98], rfl, b1, .inl ⟨A + B + 2, ?_, by omega, by decide +kernel, ?_⟩⟩
      · rw [hM]; simp [updS]
      · unfold beqF four
        simp
        omega
    · refine allW_one (fun _ => ?_)
      rw [show 0 + cntL ([(⟨1, [97, 58], [97]⟩ : Ln)] ++ layL l A ++ [lnT (wr 5 (beqF B) [98])]) = A + 1 by rw [cnt_app, cnt_app, cnt_lay]; simp [cntL, isI, lnT]]
      unfold pY
      rw [if_neg (by omega), if_pos rfl]
      refine ⟨3, jalF A, [97], rfl, b2, .inl ⟨0, ?_, by omega, by decide +kernel, ?_⟩⟩
      · rw [hM]; simp [updS]
      · unfold jalF four
        simp
        omega
    · refine allW_lay l B (fun i hi => ?_)
      rw [show 0 + cntL ([(⟨1, [97, 58], [97]⟩ : Ln)] ++ layL l A ++ [lnT (wr 5 (beqF B) [98])] ++ [lnT (wr 3 (jalF A) [97])]) + i = A + 2 + i by rw [cnt_app, cnt_app, cnt_app, cnt_lay]; simp [cntL, isI, lnT]]
      exact wA _ (by omega) (by omega) (by omega)
  have huq : Uniq 0 (fun _ => none) (pL l A B ++ [(⟨0, [], []⟩ : Ln)]) := by
    refine uniq_app ?_ (uniq_none (fun x hx => by simp at hx; subst hx; simp))
    unfold pL
    refine uniq_app (uniq_app (uniq_app (uniq_app (uniq_app (uniq_one (fun _ => rfl)) (uniq_none (lay_ne l A))) (uniq_none (fun x hx => by simp at hx; subst hx; simp [lnT]))) (uniq_none (fun x hx => by simp at hx; subst hx; simp [lnT]))) (uniq_none (lay_ne l B))) (uniq_one (fun _ => ?_))
    rw [mk_app, mk_none (layL l B) _ _ (lay_ne l B), mk_app, mk_app, mk_app, mk_none (layL l A) _ _ (lay_ne l A)]
    simp [mkF, lnT, updS]
  have hmem : ∀ x ∈ pL l A B ++ [(⟨0, [], []⟩ : Ln)], LnOk x ∧ (10 : UInt8) ∉ x.raw := by
    intro x hx
    unfold pL at hx
    simp only [List.mem_append, List.mem_singleton] at hx
    rcases hx with (((((rfl | hx) | rfl) | rfl) | hx) | rfl) | rfl
    · exact ⟨.inr (.inl ⟨rfl, by decide, name_one 97 (by decide)⟩), by decide⟩
    · exact (lay_mem l A x hx).2
    · refine ⟨.inr (.inr (plain_ln b1.lo b1.hi b1.rg b1.last 0)), ?_⟩
      unfold lnT beqF
      rw [t_beq]
      decide
    · refine ⟨.inr (.inr (plain_ln b2.lo b2.hi b2.rg b2.last 0)), ?_⟩
      unfold lnT jalF
      rw [t_jal]
      decide
    · exact (lay_mem l B x hx).2
    · exact ⟨.inr (.inl ⟨rfl, by decide, name_one 98 (by decide)⟩), by decide⟩
    · exact ⟨.inl ⟨rfl, .inl rfl⟩, by decide⟩
  have hlen : (pL l A B).length ≤ 300 := by
    have h1 := lay_count l A
    have h2 := lay_count l B
    unfold pL
    simp
    omega
  have htl : (pT l A B).length ≤ 3000 := by
    have h1 := layB_len l A
    have h2 := layB_len l B
    unfold pT
    simp
    omega
  have c := assemble_any (pL l A B ++ [(⟨0, [], []⟩ : Ln)]) (pY A y1 y2) (by simp) (fun x hx => (hmem x hx).1) (fun x hx => (hmem x hx).2) (by rw [fl_join, fl_p]; omega) (by rw [hcnt]; omega) (by simp; omega) huq (fun j x hj hc => by
    have := hall j x hj hc
    rw [Nat.zero_add] at this
    exact this) W hW
  rw [fl_join, fl_p, hcnt] at c
  exact c
/-- What Decode answers to a word that Encode has answered. -/
theorem dec_of {k : Nat} (h1 : 1 ≤ k) (h2 : k ≤ 69) {F : Nat → Int} (hF : ∀ o, rng (F o)) {y : BitVec 64} (h : encK k F = some y) (W : World) (hW : G W) :
    Calls Tryz.prog 13 #[.int .u32 (y.toNat : Int)] W (Makes (.tuple #[.agg #[.int .i64 (k : Int), .int .i64 (if has (shp k) 0 then F 0 else 0), .int .i64 (if has (shp k) 1 then F 1 else 0), .int .i64 (if has (shp k) 2 then F 2 else 0), .int .i64 (if has (shp k) 3 then F 3 else 0)], .bool true]) W) := by
  have hy := enc_match h1 h2 h
  have q : Calls Tryz.prog 13 #[.int .u32 (y.toNat : Int)] W (Makes (.tuple #[.agg #[.int .i64 (k : Int), .int .i64 (opsI k y 0), .int .i64 (opsI k y 1), .int .i64 (opsI k y 2), .int .i64 (opsI k y 3)], .bool true]) W) := dec_any y hy.1 (some k) ⟨h1, h2, hy.2⟩ W hW.words
  rw [read_enc h1 h2 h hF 0, read_enc h1 h2 h hF 1, read_enc h1 h2 h hF 2, read_enc h1 h2 h hF 3] at q
  exact q
end Go.Proofs.YtlommbeokbicjaaGreatDoor
