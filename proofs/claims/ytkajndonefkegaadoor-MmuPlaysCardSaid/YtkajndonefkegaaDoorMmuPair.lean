/-
  What a step does to the document's memory, sets and entries; the program's memory and buffer are turned in the same way. No program text here.
-/
import Derived.Test.YtkajndonefkegaaDoorGTr
import Derived.Test.YtkajndonefkegaaDoorGOne
import Derived.Test.YtkajndonefkegaaDoorGMath
import Derived.Test.YtkajndonefkegaaDoorWalkLaid
set_option maxRecDepth 100000
set_option maxHeartbeats 64000000
namespace Go.Proofs.YtkajndonefkegaaDoor
open Go.RowKit Words FieldMath PteMath

def fd0 : Fd := ⟨false, false, false, false, false, false, false, false, false, false, false, false, 0, 0⟩
def gE (E : List Fd) (x : Int) : Fd := (E[x.toNat]?).getD fd0
theorem ge_more (E : List Fd) (X : Fd) (x : Int) (h0 : 0 ≤ x) (h : x < (E.length : Int)) : gE E x = gE (E ++ [X]) x := by
  unfold gE
  rw [List.getElem?_append_left (by omega)]
theorem ge_last (E : List Fd) (X : Fd) : gE (E ++ [X]) (E.length : Int) = X := by
  unfold gE
  rw [Int.toNat_natCast, List.getElem?_append_right (Nat.le_refl _), Nat.sub_self]
  rfl
theorem ge_at {E : List Fd} {x : Int} (h0 : 0 ≤ x) (h : x < (E.length : Int)) : ∃ i : Nat, x = (i : Int) /\ i < E.length /\ E[i]? = some (gE E x) := by
  refine ⟨x.toNat, by omega, by omega, ?_⟩
  have hi : x.toNat < E.length := by omega
  unfold gE
  rw [List.getElem?_eq_getElem hi]
  rfl
def mkL (a : Nat) (x : BitVec 64) (k : Int) (t : Bool) : LayD := ⟨((a / 4096 : Nat) : Int), ((a % 4096 / 8 : Nat) : Int), (x.getLsbD 0), (x.getLsbD 1), (x.getLsbD 2), (x.getLsbD 3), (x.getLsbD 4), (x.getLsbD 5), true, markD (x.getLsbD 7) k, (x.getLsbD 58), (x.getLsbD 59), markC (x.getLsbD 60) k t, (x.getLsbD 61), getB x 10 44⟩
theorem mkL_word (a : Nat) (x : BitVec 64) (k : Int) (t : Bool) : (mkL a x k t).word = mkW x k t := rfl
theorem mkL_page (a : Nat) (x : BitVec 64) (k : Int) (t : Bool) (h : a < 32768) : (mkL a x k t).page = a / 4096 := by
  show (((a / 4096 : Nat) : Int) % 8).toNat = _
  omega
theorem mkL_idx (a : Nat) (x : BitVec 64) (k : Int) (t : Bool) : (mkL a x k t).idx = a % 4096 / 8 := by
  show (((a % 4096 / 8 : Nat) : Int) % 512).toNat = _
  omega
def markL (ls : List LayD) (a : Nat) (x : BitVec 64) (k : Int) (t : Bool) : List LayD := if sameW x k t = true then ls else ls ++ [mkL a x k t]
theorem markL_laid (ls : List LayD) (a : Nat) (x : BitVec 64) (k : Int) (t : Bool) (h : a < 32768) : laidM (markL ls a x k t) = putW (laidM ls) a x k t := by
  unfold markL putW
  by_cases hs : sameW x k t = true
  · rw [if_pos hs, if_pos hs]
  · rw [if_neg hs, if_neg hs, laidM_add, mkL_word, mkL_page a x k t h, mkL_idx]
theorem markL_length (ls : List LayD) (a : Nat) (x : BitVec 64) (k : Int) (t : Bool) : (markL ls a x k t).length ≤ ls.length + 1 := by
  unfold markL
  split
  · omega
  · rw [List.length_append]; exact Nat.le_refl _
abbrev ResD := (Int × Bool × Int) × List LayD × (Nat -> List (LnX Int)) × List Fd
def findD (ls : List LayD) (K : Nat -> List (LnX Int)) (E : List Fd) (A : Int) (v : Nat) (k : Int) (t G : Bool) : ResD := match walkM (laidM ls) 8 0 v with
  | none => ((0, false, 1), ls, dropM K A ((v / 4096 : Nat) : Int), E)
  | some (x, a) => if ckW x k t G = 0 then ((accA ((getB x 10 44).toNat : Int) (v : Int) 0, accS k (x.getLsbD 59) 0, 0), markL ls a x k t, lputM K (v / 4096 % 4) (A, ((v / 4096 : Nat) : Int), (E.length : Int)), E ++ [fdW x k t (a : Int)]) else ((0, false, ckW x k t G), ls, K, E)
def transD (ls : List LayD) (K : Nat -> List (LnX Int)) (E : List Fd) (A : Int) (v : Nat) (k : Int) (t G : Bool) : ResD :=
  if v < 274877906944 then
    match (K (v / 4096 % 4)).find? (pageQ A ((v / 4096 : Nat) : Int)) with
    | none => findD ls K E A v k t G
    | some l => if lineQ (gE E l.2.2) k t G = 0 /\ sameX (gE E l.2.2) k t = false then findD ls K E A v k t G else ((accA (gE E l.2.2).f (v : Int) (lineQ (gE E l.2.2) k t G), accS k (gE E l.2.2).e9 (lineQ (gE E l.2.2) k t G), lineQ (gE E l.2.2) k t G), ls, K, E)
  else ((0, false, 1), ls, K, E)
theorem walk_lt {Mm : Nat -> Nat -> BitVec 64} {P v : Nat} {x : BitVec 64} {a : Nat} (h : walkM Mm 8 P v = some (x, a)) : a < 32768 /\ a % 8 = 0 := by
  obtain ⟨p, i, hp, hi, ha, _⟩ := walk_put Mm 8 P v 0#64 x a h
  omega
theorem find_same (ls : List LayD) (K : Nat -> List (LnX Int)) (E : List Fd) (A : Int) (v : Nat) (k : Int) (t G : Bool) (hK : Idx K E.length) :
    findR (laidM ls) (keptM (gE E) K) 8 0 A v k t G = ((findD ls K E A v k t G).1, laidM (findD ls K E A v k t G).2.1, keptM (gE (findD ls K E A v k t G).2.2.2) (findD ls K E A v k t G).2.2.1) := by
  unfold findR findD
  cases hw : walkM (laidM ls) 8 0 v with
  | none =>
    dsimp only
    rw [drop_map]
  | some y =>
    obtain ⟨x, a⟩ := y
    have ha := (walk_lt hw).1
    dsimp only
    by_cases hQ : ckW x k t G = 0
    · rw [if_pos hQ, if_pos hQ, if_pos hQ, hQ]
      dsimp only
      rw [markL_laid ls a x k t ha, ← lput_map, ge_last, map_congr hK (fun y h0 h1 => ge_more E (fdW x k t (a : Int)) y h0 h1)]
    · rw [if_neg hQ, if_neg hQ, if_neg hQ]
      dsimp only
      unfold accA accS
      rw [if_neg hQ, if_neg hQ]
theorem trans_same (ls : List LayD) (K : Nat -> List (LnX Int)) (E : List Fd) (A : Int) (v : Nat) (k : Int) (t G : Bool) (hK : Idx K E.length) :
    transR (laidM ls) (keptM (gE E) K) 8 0 A v k t G = ((transD ls K E A v k t G).1, laidM (transD ls K E A v k t G).2.1, keptM (gE (transD ls K E A v k t G).2.2.2) (transD ls K E A v k t G).2.2.1) := by
  unfold transR transD
  by_cases hv : v < 274877906944
  · rw [if_pos hv, if_pos hv, find_map]
    cases hl : (K (v / 4096 % 4)).find? (pageQ A ((v / 4096 : Nat) : Int)) with
    | none => exact find_same ls K E A v k t G hK
    | some l =>
      show (if lineQ (gE E l.2.2) k t G = 0 /\ sameX (gE E l.2.2) k t = false then _ else _) = _
      dsimp only
      by_cases hQ : lineQ (gE E l.2.2) k t G = 0 /\ sameX (gE E l.2.2) k t = false
      · rw [if_pos hQ, if_pos hQ]
        exact find_same ls K E A v k t G hK
      · rw [if_neg hQ, if_neg hQ]
        rfl
  · rw [if_neg hv, if_neg hv]
structure Kept (ls : List LayD) (K : Nat -> List (LnX Int)) (E : List Fd) (n : Nat) : Prop where
  inv : InvL K
  idx : Idx K E.length
  wf : ∀ X ∈ E, ∃ F : BitVec 64, X.f = (F.toNat : Int)
  ll : ls.length ≤ n + 2
  el : E.length ≤ n
theorem Kept.wfl {ls : List LayD} {K : Nat -> List (LnX Int)} {E : List Fd} {n : Nat} (h : Kept ls K E n) : WfL (keptM (gE E) K) := fun q _ l hl => by
  obtain ⟨y, hy, rfl⟩ := List.mem_map.1 hl
  have h1 := h.idx q y hy
  obtain ⟨i, _, _, hi⟩ := ge_at h1.1 h1.2
  exact h.wf _ (List.mem_of_getElem? hi)
theorem Kept.more {ls : List LayD} {K : Nat -> List (LnX Int)} {E : List Fd} {n : Nat} (h : Kept ls K E n) : Kept ls K E (n + 1) := ⟨h.inv, h.idx, h.wf, by have := h.ll; omega, by have := h.el; omega⟩
theorem Kept.sub {ls : List LayD} {K K' : Nat -> List (LnX Int)} {E : List Fd} {n : Nat} (h : Kept ls K E n) (hi : InvL K') (hs : ∀ q, ∀ l ∈ K' q, l ∈ K q) : Kept ls K' E (n + 1) := ⟨hi, idx_sub h.idx hs, h.wf, by have := h.ll; omega, by have := h.el; omega⟩
theorem Kept.drop {ls : List LayD} {K : Nat -> List (LnX Int)} {E : List Fd} {n : Nat} (h : Kept ls K E n) (a m : Int) : Kept ls (dropM K a m) E (n + 1) := h.sub (invl_drop _ _ h.inv) (fun _ _ hl => (List.mem_filter.1 hl).1)
theorem Kept.flush {ls : List LayD} {K : Nat -> List (LnX Int)} {E : List Fd} {n : Nat} (h : Kept ls K E n) (a : Int) : Kept ls (flushM K a) E (n + 1) := h.sub (invl_flush _ h.inv) (fun _ _ hl => (List.mem_filter.1 hl).1)
theorem Kept.clear {ls : List LayD} {K : Nat -> List (LnX Int)} {E : List Fd} {n : Nat} (h : Kept ls K E n) : Kept ls (clearM K) E (n + 1) := h.sub (invl_filter _ h.inv) (fun _ _ hl => (List.mem_filter.1 hl).1)
theorem Kept.evict {ls : List LayD} {K : Nat -> List (LnX Int)} {E : List Fd} {n : Nat} (h : Kept ls K E n) (p : Int) : Kept ls (evictM K p) E (n + 1) := h.sub (invl_evict _ h.inv) (fun q l hl => by
  rcases evict_ways K p with e | ⟨y, e⟩
  · rw [e] at hl; exact hl
  · rw [e] at hl; exact (List.mem_filter.1 hl).1)
theorem Kept.lay {ls : List LayD} {K : Nat -> List (LnX Int)} {E : List Fd} {n : Nat} (h : Kept ls K E n) (d : LayD) : Kept (ls ++ [d]) K E (n + 1) := ⟨h.inv, h.idx, h.wf, by have := h.ll; simp; omega, by have := h.el; omega⟩
theorem Kept.find {ls : List LayD} {K : Nat -> List (LnX Int)} {E : List Fd} {n : Nat} (hn : n ≤ 1000) (h : Kept ls K E n) {A : Int} (hA : Wf A) (v : Nat) (hv : v < 18446744073709551616) (k : Int) (t G : Bool) : Kept (findD ls K E A v k t G).2.1 (findD ls K E A v k t G).2.2.1 (findD ls K E A v k t G).2.2.2 (n + 1) := by
  unfold findD
  split
  · exact h.drop _ _
  · rename_i x a hw
    split
    · dsimp only
      refine ⟨invl_put h.inv (by show ((v / 4096 : Nat) : Int) % 4 = _; omega) ⟨hA, ⟨by show (0 : Int) ≤ ((v / 4096 : Nat) : Int); omega, by show ((v / 4096 : Nat) : Int) < _; omega⟩, ⟨by show (0 : Int) ≤ (E.length : Int); omega, ?_⟩⟩, fun q l hl => ?_, fun X hX => ?_, Nat.le_trans (markL_length ls a x k t) (by have := h.ll; omega), by have := h.el; rw [List.length_append]; show E.length + 1 ≤ _; omega⟩
      · show (E.length : Int) < _
        have := h.el
        omega
      · rw [List.length_append]
        rcases mem_put hl with hl | ⟨_, rfl⟩
        · have := h.idx q l hl
          show _ /\ _ < ((E.length + 1 : Nat) : Int)
          omega
        · show (0 : Int) ≤ (E.length : Int) /\ (E.length : Int) < ((E.length + 1 : Nat) : Int)
          omega
      · rcases List.mem_append.1 hX with hX | hX
        · exact h.wf X hX
        · rw [List.mem_singleton.1 hX]
          exact ⟨_, rfl⟩
    · exact h.more
theorem Kept.trans {ls : List LayD} {K : Nat -> List (LnX Int)} {E : List Fd} {n : Nat} (hn : n ≤ 1000) (h : Kept ls K E n) {A : Int} (hA : Wf A) (v : Nat) (hv : v < 18446744073709551616) (k : Int) (t G : Bool) : Kept (transD ls K E A v k t G).2.1 (transD ls K E A v k t G).2.2.1 (transD ls K E A v k t G).2.2.2 (n + 1) := by
  unfold transD
  split
  · split
    · exact Kept.find hn h hA v hv k t G
    · split
      · exact Kept.find hn h hA v hv k t G
      · exact h.more
  · exact h.more
theorem kept_start : Kept (setupL 2) (fun _ => []) [] 0 := ⟨invl_nil, idx_nil 0, fun X hX => by simp at hX, by rw [setupL_length]; omega, Nat.le_refl _⟩
end Go.Proofs.YtkajndonefkegaaDoor
