/-
  What field.Lay answers for any list of parts: each is put, one after the other, into the word 0; nothing that was there turns.
-/
import Derived.Test.YtnbfjaocakghkaaDoorFieldWalks
import Derived.OneCell
import Derived.Test.YtnbfjaocakghkaaDoorLawFrame
namespace Go.Proofs.YtnbfjaocakghkaaDoor
open Go.RowKit Words FieldMath

abbrev Part3 := Int × Int × BitVec 64
def layB (l : List Part3) : BitVec 64 := l.foldl (fun w p => putB w p.1 p.2.1 p.2.2) 0
theorem layB_snoc (l : List Part3) (p : Part3) : layB (l ++ [p]) = putB (layB l) p.1 p.2.1 p.2.2 := by simp [layB]
theorem layB_take (l : List Part3) (k : Nat) (h : k < l.length) : layB (l.take (k + 1)) = putB (layB (l.take k)) l[k].1 l[k].2.1 l[k].2.2 := by
  rw [List.take_succ_eq_append_getElem h, layB_snoc]

set_option maxHeartbeats 400000 in
theorem lay1_any (a b : Int) (v x : BitVec 64) (Bw : Nat) (w : World) (hb : w.heap[Bw]? = some (.cells #[.int .u64 (x.toNat : Int)] 22 (0, 0))) :
    Calls Tryd.prog 53 #[.agg #[.int .i64 a, .int .i64 b, .int .u64 (v.toNat : Int)], .pointer (some ⟨Bw, 0, none⟩)] w
      fun e w' => e = .returned (.tuple #[]) ∧ w'.heap[Bw]? = some (.cells #[.int .u64 ((putB x a b v).toNat : Int)] 22 (0, 0)) ∧ Below Bw w w' := by
  have hc := cell_of_one hb
  have hf := free_of_one hb
  have hlt := lt_of_block hb
  have HB := hide hb
  clear hb
  go_enter Tryd.func53, Tryd.ntmps53
  go_wp2_with (go_at_call 54; refine (put_any _ _ _ _ _).mono ?_; rintro e w' ⟨rfl, n1, rfl⟩)
  go_end0
  refine ⟨rfl, one_setCell (v := .int .u64 (x.toNat : Int)) ?_, ?_⟩
  · exact (Below.heap_alloc w _ Bw hlt).trans HB.out
  · exact (below_drewN ((Below.refl _ _).alloc (Nat.le_of_lt hlt) _) n1).setCell (Nat.le_refl _) _

set_option maxHeartbeats 400000 in
theorem lay_any (ad : Addr) (l : List Part3) (cap : Nat) (w : World) (hl : l.length ≤ 9223372036854775807)
    (hc : ∀ k (h : k < l.length), w.cell? (ad.add (k * 3)) = some (.int .i64 l[k].1) ∧ w.cell? (ad.add (k * 3 + 1)) = some (.int .i64 l[k].2.1) ∧ w.cell? (ad.add (k * 3 + 2)) = some (.int .u64 (l[k].2.2.toNat : Int))) :
    Calls Tryd.prog 51 #[.slice (some ad) l.length cap] w
      fun e w' => e = .returned (.int .u64 ((layB l).toNat : Int)) ∧ Below w.heap.size w w' := by
  have HC := hide hc
  clear hc
  go_enter Tryd.func51, Tryd.ntmps51
  go_wp2
  go_loopw [10] (fun i wr => ∃ k : Nat, k ≤ l.length ∧ i = .int .i64 k ∧ wr.heap[w.heap.size]? = some (.cells #[.int .u64 ((layB (l.take k)).toNat : Int)] 22 (0, 0)) ∧ Below w.heap.size w wr) (fun i _ => l.length - (intOf i).toNat)
  case atStart => exact ⟨0, Nat.zero_le _, rfl, heap_alloc_new w _, (Below.refl _ _).alloc (Nat.le_refl _) _⟩
  case round =>
    obtain ⟨k, hk, rfl, hh, hbel⟩ := hrel
    by_cases hlt : k < l.length
    · obtain ⟨h0, h1, h2⟩ := HC.out k hlt
      have hb : ad.block < w.heap.size := by
        have := World.block_lt_of_cell? _ _ h0
        unfold Addr.add at this
        split at this <;> exact this
      obtain ⟨b, off, spot⟩ := ad
      have hspot : spot = none := by
        have := World.cell?_spot (HC.out 0 (by omega)).1
        simpa [Addr.add] using this
      subst hspot
      have e : ∀ j, (⟨b, off, none⟩ : Addr).add j = ⟨b, off + j, none⟩ := fun j => by unfold Addr.add; split <;> simp_all
      rw [e, ← hbel.cell (by exact hb)] at h0 h1 h2
      rw [← Nat.add_assoc] at h1 h2
      have ht := layB_take l k hlt
      have HT := hide ht
      have HH := hide hh
      generalize l[k].1 = p1 at *
      generalize l[k].2.1 = p2 at *
      generalize l[k].2.2 = p3 at *
      clear hh ht e
      have hsz := hbel.size
      have hA : ∀ o : Obj, (wr.alloc o).heap[w.heap.size]? = some (.cells #[.int .u64 ((layB (l.take k)).toNat : Int)] 22 (0, 0)) := fun o => (Below.heap_alloc wr o _ (lt_of_block HH.out)).trans HH.out
      have HA := hide hA
      clear hA
      go_wp2_with (go_at_call 53; refine (lay1_any p1 p2 p3 _ w.heap.size _ (HA.out _)).mono ?_; rintro e w' ⟨rfl, hh', hb'⟩)
      go_roundw
      case rel => exact ⟨k + 1, by omega, by go_num, by rw [HT.out]; exact hh', (hbel.alloc (by omega) _).trans hb'⟩
      case measure => simp [intOf]; omega
    · have : k = l.length := by omega
      subst this
      have hc0 := cell_of_one hh
      rw [List.take_length] at hc0
      have HH := hide hh
      clear hh
      go_wp2
      go_ret
      exact ⟨rfl, hbel⟩

set_option maxHeartbeats 400000 in
theorem lay_nil (w : World) : Calls Tryd.prog 51 #[.slice none 0 0] w fun e w' => e = .returned (.int .u64 0) ∧ Below w.heap.size w w' := by
  go_enter Tryd.func51, Tryd.ntmps51
  go_wp2
  refine wp_loop_rounds 1 ?_
  rw [rounds_succ]
  go_wp2
  go_ret
  exact ⟨rfl, (Below.refl _ _).alloc (Nat.le_refl _) _⟩
theorem lay_one (a b : Int) (v : BitVec 64) (Bk : Nat) (w : World) (h : w.heap[Bk]? = some (.cells #[.int .i64 a, .int .i64 b, .int .u64 (v.toNat : Int)] 95 (0, 0))) :
    Calls Tryd.prog 51 #[.slice (some ⟨Bk, 0, none⟩) 1 1] w fun e w' => e = .returned (.int .u64 ((putB 0 a b v).toNat : Int)) ∧ Below w.heap.size w w' := by
  have := lay_any ⟨Bk, 0, none⟩ [(a, b, v)] 1 w (by simp) (fun k hk => by
    have : k = 0 := by simpa using hk
    subst this
    simp [World.cell?, Addr.add, h])
  exact this
end Go.Proofs.YtnbfjaocakghkaaDoor
