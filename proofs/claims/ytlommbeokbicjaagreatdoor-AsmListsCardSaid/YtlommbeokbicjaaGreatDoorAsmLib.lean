/-
  What the library's functions answer, over lists of bytes: what was there stays.
-/
import Derived.Test.YtlommbeokbicjaaGreatDoorGAsm
import Derived.Test.YtlommbeokbicjaaGreatDoorShelf
import Derived.Lib.AtoiErrMem
import Derived.Sort.Grow
import Derived.Maps.Own
namespace Go.Proofs.YtlommbeokbicjaaGreatDoor
open Go.RowKit InstMath AsmMath
open Go.Lib (itoa)

theorem grown (w : World) (q : Nat) (os : Array Obj) : Below w.heap.size w (Sort.grow (w.drewN q) os) :=
  ⟨rfl, rfl, rfl, by first | (simp [Sort.grow]; done) | (simp [Sort.grow]; omega), fun i hi => by
    show ((w.drewN q).heap ++ os)[i]? = _
    rw [Array.getElem?_append_left (by show i < w.heap.size; omega)]
    rfl⟩
theorem makes_grow {w w' : World} {v : Value} {e : Ending} (h : e = .returned v ∧ ∃ k os, w' = Sort.grow (w.drewN k) os) : Makes v w e w' := by
  obtain ⟨he, k, os, rfl⟩ := h
  exact ⟨he, grown _ _ _⟩
theorem makes_same {w w' : World} {v : Value} {e : Ending} (h : e = .returned v ∧ w' = w) : Makes v w e w' := ⟨h.1, h.2 ▸ Below.refl _ _⟩
theorem makes_drew {w w' : World} {v : Value} {e : Ending} (h : e = .returned v ∧ ∃ n, w' = w.drewN n) : Makes v w e w' := by
  obtain ⟨he, n, rfl⟩ := h
  exact ⟨he, below_drewN (Below.refl _ _) n⟩

theorem format_any (n : Int) (h : rng n) (W : World) (hG : G W) : Calls Tryz.prog 48 #[.int .i64 n, .int .i64 10] W (Makes (.string (str (itoa n))) W) :=
  (Tryz.strconv_FormatInt_10 n h.1 (by have := h.2; omega) W hG.pow).mono fun _ _ h => makes_grow h
theorem itoa_any (n : Int) (h : rng n) (W : World) (hG : G W) : Calls Tryz.prog 64 #[.int .i64 n] W (Makes (.string (str (itoa n))) W) :=
  (Tryz.strconv_Itoa n h.1 (by have := h.2; omega) W hG.pow).mono fun _ _ h => makes_grow h
theorem trimPrefix_any (s p : List UInt8) (W : World) : Calls Tryz.prog 54 #[.string (str s), .string (str p)] W (Makes (.string (str (Lib.trimPrefix s p))) W) := by
  refine (Tryz.strings_TrimPrefix (str s) (str p) W).mono fun _ _ h => makes_same ?_
  rw [str_data, str_data] at h
  exact h
theorem cutPrefix_any (s p : List UInt8) (W : World) : Calls Tryz.prog 78 #[.string (str s), .string (str p)] W (Makes (.tuple #[.string (str (Lib.trimPrefix s p)), .bool (Lib.hasPrefix s p)]) W) := by
  refine (Tryz.strings_CutPrefix (str s) (str p) W).mono fun _ _ h => makes_same ?_
  rw [str_data, str_data] at h
  exact h
theorem cutSuffix_any (s p : List UInt8) (hs : s.length ≤ 1000000000) (W : World) : Calls Tryz.prog 86 #[.string (str s), .string (str p)] W (Makes (.tuple #[.string (str (Lib.trimSuffix s p)), .bool (Lib.hasSuffix s p)]) W) := by
  refine (Tryz.strings_CutSuffix (str s) (str p) W (by rw [str_size]; omega)).mono fun _ _ h => makes_same ?_
  rw [str_data, str_data] at h
  exact h
theorem cutPre_yes (p t : List UInt8) (W : World) : Calls Tryz.prog 78 #[.string (str (p ++ t)), .string (str p)] W (Makes (.tuple #[.string (str t), .bool true]) W) := by
  have h := cutPrefix_any (p ++ t) p W
  have e : Lib.hasPrefix (p ++ t) p = true := by unfold Lib.hasPrefix; rw [List.isPrefixOf_iff_prefix]; exact List.prefix_append _ _
  unfold Lib.trimPrefix at h
  rw [e, if_pos rfl, List.drop_left] at h
  exact h
theorem cutPre_no (s p : List UInt8) (e : Lib.hasPrefix s p = false) (W : World) : Calls Tryz.prog 78 #[.string (str s), .string (str p)] W (Makes (.tuple #[.string (str s), .bool false]) W) := by
  have h := cutPrefix_any s p W
  unfold Lib.trimPrefix at h
  rw [e, if_neg (by simp)] at h
  exact h
theorem cutSuf_yes (s p : List UInt8) (hs : (s ++ p).length ≤ 1000000000) (W : World) : Calls Tryz.prog 86 #[.string (str (s ++ p)), .string (str p)] W (Makes (.tuple #[.string (str s), .bool true]) W) := by
  have h := cutSuffix_any (s ++ p) p hs W
  have e : Lib.hasSuffix (s ++ p) p = true := by unfold Lib.hasSuffix; rw [List.isSuffixOf_iff_suffix]; exact List.suffix_append _ _
  unfold Lib.trimSuffix at h
  rw [e, if_pos rfl, List.length_append, Nat.add_sub_cancel, List.take_left] at h
  exact h
theorem cutSuf_no (s p : List UInt8) (hs : s.length ≤ 1000000000) (e : Lib.hasSuffix s p = false) (W : World) : Calls Tryz.prog 86 #[.string (str s), .string (str p)] W (Makes (.tuple #[.string (str s), .bool false]) W) := by
  have h := cutSuffix_any s p hs W
  unfold Lib.trimSuffix at h
  rw [e, if_neg (by simp)] at h
  exact h
theorem cut_any (s p : List UInt8) (hs : s.length ≤ 1000000000) (W : World) (hG : G W) :
    Calls Tryz.prog 49 #[.string (str s), .string (str p)] W (Makes (.tuple #[.string (str (Lib.cut s p).1), .string (str (Lib.cut s p).2.1), .bool (Lib.cut s p).2.2]) W) := by
  obtain ⟨m, hm⟩ := hG.most
  refine (Tryz.strings_Cut (str s) (str p) m W (by rw [str_size]; omega) hm).mono fun _ _ h => makes_drew ?_
  rw [str_data, str_data] at h
  exact h
theorem trimLeft_any (s : List UInt8) (W : World) : Calls Tryz.prog 57 #[.string (str s), .string (str [32])] W (Makes (.string (str (Lib.trimLeftB s 32))) W) := by
  refine (Tryz.strings_TrimLeft_one (str s) 32 (by decide) W).mono fun _ _ h => makes_same ?_
  rw [str_data] at h
  exact h
theorem parse_any (n : Int) (h : rng n) (W : World) : Calls Tryz.prog 55 #[.string (str (itoa n)), .int .i64 10, .int .i64 64] W (Makes (.tuple #[.int .i64 n, .nilIface]) W) := by
  refine (Tryz.strconv_ParseInt_10_at64_ok (str (itoa n)) (by rw [str_size]; have := Lib.itoa_length_le n h.1 (by have := h.2; omega); omega) n (by rw [str_data]; exact parse_itoa h) W).mono fun e w' h => ⟨h.1, ?_⟩
  rcases h.2 with rfl | ⟨t, rfl⟩
  · exact Below.refl _ _
  · exact Lib.bytesWorld_below _ _ _
theorem heap_new {W : World} {o : Obj} {N : Nat} (h : N = W.heap.size) : (W.alloc o).heap[N]? = some o := by
  subst h
  exact (MapKept.heap_alloc W _).1
/-- Cells of texts. -/
def Strs (W : World) (b : Nat) (l : List (List UInt8)) : Prop := ∀ j s, l[j]? = some s → W.cell? ⟨b, j, none⟩ = some (.string (str s))
theorem join_any (b c : Nat) (l : List (List UInt8)) (sep : List UInt8) (hl : (joinS sep l).length ≤ 1000000000) (hn : l.length ≤ 1000000000) (hc : l.length ≤ c) (W : World) (h : Strs W b l) (hb : b < W.heap.size) :
    Calls Tryz.prog 47 #[.slice (some ⟨b, 0, none⟩) l.length c, .string (str sep)] W (Makes (.string (str (joinS sep l))) W) := by
  have e : (l.map str).map (fun s => s.data.toList) = l := by
    rw [List.map_map]
    conv => rhs; rw [← List.map_id l]
    exact List.map_congr_left fun s _ => str_data s
  have c := Tryz.strings_Join b 0 c (l.map str) (str sep) W (fun j x hx => by
    rw [List.getElem?_map] at hx
    cases hj : l[j]? with
    | none => rw [hj] at hx; cases hx
    | some s =>
      rw [hj] at hx
      obtain rfl := Option.some.inj hx
      rw [Nat.zero_add]
      exact h j s hj) hb (by simpa using (by omega)) (by simpa using hc) (by rw [e, str_data, joinS_is]; omega)
  rw [e, str_data, joinS_is, List.length_map] at c
  exact c
theorem split_any (c0 : UInt8) (l : List (List UInt8)) (hl : l ≠ []) (h : ∀ r ∈ l, c0 ∉ r) (hs : (joinS [c0] l).length ≤ 1000000000) (W : World) (hG : G W) :
    Calls Tryz.prog 56 #[.string (str (joinS [c0] l)), .string (str [c0])] W fun e w' => e = .returned (.slice (some ⟨W.heap.size, 0, none⟩) l.length l.length) ∧ Below W.heap.size W w' ∧ Strs w' W.heap.size l ∧ W.heap.size < w'.heap.size ∧ ∃ c f, w'.heap[W.heap.size]? = some (.cells c 9 f) := by
  obtain ⟨m, hm⟩ := hG.most
  have c := Tryz.strings_Split (str (joinS [c0] l)) (str [c0]) m W (by rw [str_size]; omega) hm (by rw [str_size]; simp)
  rw [count_pieces hl h, split_pieces _ hl h (by have := count_pieces hl h (tl := []); omega)] at c
  refine c.mono fun e w' hw => ?_
  obtain ⟨he, rfl⟩ := hw
  refine ⟨he, bw_alloc (Below.refl _ _) _, ?_, by simp, _, _, heap_new rfl⟩
  intro j s hj
  simp [go_sem, hj]
theorem splitN_any (c0 : UInt8) (tl : List UInt8) (l : List (List UInt8)) (n : Nat) (hl : l ≠ []) (h : ∀ r ∈ l, c0 ∉ r) (hn : l.length < n) (hn2 : n ≤ 100) (hs : (joinS (c0 :: tl) l).length ≤ 1000000000) (hs2 : l.length ≤ (joinS (c0 :: tl) l).length + 1) (W : World) (hG : G W) :
    Calls Tryz.prog 51 #[.string (str (joinS (c0 :: tl) l)), .string (str (c0 :: tl)), .int .i64 (n : Int)] W fun e w' => ∃ c, e = .returned (.slice (some ⟨W.heap.size, 0, none⟩) l.length c) ∧ Below W.heap.size W w' ∧ Strs w' W.heap.size l ∧ W.heap.size < w'.heap.size := by
  obtain ⟨m, hm⟩ := hG.most
  have c := Tryz.strings_SplitN (str (joinS (c0 :: tl) l)) (str (c0 :: tl)) n m W (by rw [str_size]; omega) hm (by rw [str_size]; simp) (by omega) (by omega)
  rw [str_size] at c
  rw [split_pieces _ hl h (by omega)] at c
  refine c.mono fun e w' hw => ⟨min n ((joinS (c0 :: tl) l).length + 1), hw.1.trans (by rw [List.length_map]), hw.2 ▸ bw_alloc (Below.refl _ _) _, ?_, by rw [hw.2]; simp⟩
  rw [hw.2]
  intro j s hj
  have hj2 : j < l.length := (List.getElem?_eq_some_iff.1 hj).1
  have hc : (Lib.cellsOf (l.map str) (min n ((joinS (c0 :: tl) l).length + 1)))[j]? = some (.string (str s)) := by
    unfold Lib.cellsOf
    rw [List.getElem?_toArray, List.getElem?_append_left (by simpa using hj2), List.map_map, List.getElem?_map, hj]
    rfl
  generalize Lib.cellsOf (l.map str) (min n ((joinS (c0 :: tl) l).length + 1)) = cs at *
  rw [World.cell?_alloc_at _ _ _ _ rfl]
  exact hc
end Go.Proofs.YtlommbeokbicjaaGreatDoor
