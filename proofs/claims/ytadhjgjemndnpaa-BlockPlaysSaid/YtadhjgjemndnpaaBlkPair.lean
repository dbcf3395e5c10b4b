/-
  Write and Read of a device and of the document's, side by side.
-/
import Derived.Test.YtadhjgjemndnpaaBlkRef3
import Derived.Test.YtadhjgjemndnpaaBlkArg
namespace Go.Proofs.Ytadhjgjemndnpaa
open Go.RowKit

/-- Nothing but blocks b and m has turned. -/
structure Out2 (b m : Nat) (w W : World) : Prop where
  os : W.os = w.os
  tape : W.tape = w.tape
  output : W.output = w.output
  size : w.heap.size ≤ W.heap.size
  block : ∀ k, k < w.heap.size → k ≠ b → k ≠ m → W.heap[k]? = w.heap[k]?
section
variable {b m n : Nat} {a w W : World}
theorem Out2.of_b (h : OutB b w W) : Out2 b m w W := ⟨h.os, h.tape, h.output, h.size, fun k hk hb _ => h.block k hk hb⟩
theorem Out2.of_m (h : OutB m w W) : Out2 b m w W := ⟨h.os, h.tape, h.output, h.size, fun k hk _ hm => h.block k hk hm⟩
theorem Out2.of_below (h : Below w.heap.size w W) : Out2 b m w W := Out2.of_b (OutB.of_below h)
theorem Out2.below (hb : Below n a w) (h1 : n ≤ b) (h2 : n ≤ m) (hs : n ≤ w.heap.size) (h : Out2 b m w W) : Below n a W :=
  ⟨h.os.trans hb.os, h.tape.trans hb.tape, h.output.trans hb.output, Nat.le_trans hb.size h.size, fun i hi => (h.block i (by omega) (by omega) (by omega)).trans (hb.block i hi)⟩
theorem o2_cell {p : Addr} {v : Value} (h : Out2 b m w W) (h1 : p.block ≠ b) (h2 : p.block ≠ m) (hc : w.cell? p = some v) : W.cell? p = some v := by
  have hlt := World.block_lt_of_cell? _ _ hc
  unfold World.cell? at hc ⊢
  rw [h.block _ hlt h1 h2]
  exact hc
theorem o2_own {g k : Nat} (h : Out2 b m w W) (h1 : g ≠ b) (h2 : g ≠ m) (ho : Own w g k) : Own W g k := fun i hi => by
  obtain ⟨v, hv⟩ := ho.val i hi
  have hlt : g < w.heap.size := World.block_lt_of_cell? _ _ hv
  refine ⟨by rw [o2_cell h h1 h2 hv]; rfl, ?_⟩
  have hf := ho.free i hi
  unfold World.frozen? at hf ⊢
  dsimp only at hf ⊢
  rw [h.block _ hlt h1 h2]
  exact hf
theorem o2_row {g : Nat} {l : List Value} (h : Out2 b m w W) (h1 : g ≠ b) (h2 : g ≠ m) (hr : Row w g l) : Row W g l := fun j v hv => o2_cell h h1 h2 (hr j v hv)
end
theorem nil_text (W : World) : (convert 33 9 (.slice none 0 0)).run Try.prog W = .ok (.string (str [])) W := by
  rw [run_convert_bytes_string W 33 9 5 none 0 0 Try.underlying33 Try.underlying5 Try.underlying9]
  rfl

/-- Is there such a block? -/
theorem in_or (n : Nat) (i : Int) : (i < 0 ∨ (n : Int) ≤ i) ∨ ∃ j : Nat, i = (j : Int) ∧ j < n := by
  by_cases h : i < 0 ∨ (n : Int) ≤ i
  · exact .inl h
  · refine .inr ⟨i.toNat, by omega, by omega⟩
theorem begin_out (b m n : Nat) (f i l : Int) (hn : 1 ≤ n) (hi : i < 0 ∨ (n : Int) ≤ i) (W : World) (h : DevAt W b n m f) : Calls Try.prog 17 #[.pointer (some ⟨b, 0, none⟩), .int .i64 i, .int .i64 l] W (Quiet (.int .i64 2) W) := by
  by_cases h1 : i < 0
  · exact begin_neg b m n f i l (by omega) h1 W h
  · exact begin_far b m n f i l (by omega) (by omega) (by omega) W h

theorem write_pair (b m n g cap k : Nat) (C : Nat → List UInt8) (f i : Int) (hn : 1 ≤ n) (hn2 : n ≤ 64) (hk : k < 500) (hC : ∀ j, (C j).length = 4096) (hbm : b ≠ m) (s : Option Addr) (L : List UInt8) (sc : Nat) :
    ∃ (x f' : Int) (C' : Nat → List UInt8), (∀ j, (C' j).length = 4096) ∧
      (∀ W, DevAt W b n m f → MapB W m k C → (L.length = 4096 → ∃ sb so, s = some ⟨sb, so, none⟩ ∧ W.rangeAt sb so (cellsB L)) → Calls Try.prog 10 #[.pointer (some ⟨b, 0, none⟩), .int .i64 i, .slice s L.length sc] W fun e w' => e = .returned (.int .i64 x) ∧ DevAt w' b n m f' ∧ MapB w' m (k + 1) C' ∧ Out2 b m W w') ∧
      (∀ W, Row W g (strsL n C) → g < W.heap.size → Calls Try.prog 11 #[refV (some ⟨g, 0, none⟩) n cap f, .int .i64 i, .string (str L)] W fun e w' => ∃ g' c', e = .returned (.tuple #[refV (some ⟨g', 0, none⟩) n c' f', .int .i64 x]) ∧ (g' = g ∨ W.heap.size ≤ g') ∧ g' < w'.heap.size ∧ Row w' g' (strsL n C') ∧ Below W.heap.size W w') := by
  have hq : ∀ (e : Ending) (W w' : World) (x : Int), DevAt W b n m f → MapB W m k C → Quiet (.int .i64 x) W e w' → e = .returned (.int .i64 x) ∧ DevAt w' b n m f ∧ MapB w' m (k + 1) C ∧ Out2 b m W w' := fun e W w' x hd hm ⟨he, q, hw⟩ => by
    subst hw
    exact ⟨he, dev_dr q hd, (mb_dr q hm).mono (by omega), Out2.of_below (below_drewN (Below.refl _ _) q)⟩
  have hr : ∀ (e : Ending) (W w' : World) (x f' : Int), Row W g (strsL n C) → g < W.heap.size → Makes (.tuple #[refV (some ⟨g, 0, none⟩) n cap f', .int .i64 x]) W e w' → ∃ g' c', e = .returned (.tuple #[refV (some ⟨g', 0, none⟩) n c' f', .int .i64 x]) ∧ (g' = g ∨ W.heap.size ≤ g') ∧ g' < w'.heap.size ∧ Row w' g' (strsL n C) ∧ Below W.heap.size W w' := fun e W w' x f' hw hg ⟨he, hb⟩ =>
    ⟨g, cap, he, .inl rfl, Nat.lt_of_lt_of_le hg hb.size, k_be hb hw, hb⟩
  rcases in_or n i with hi | ⟨j, rfl, hj⟩
  · refine ⟨2, f, C, hC, fun W hd hm _ => (write_bad _ i 2 (.inr rfl) s L.length sc W (begin_out b m n f i _ hn hi W hd)).mono fun e w' h => hq e W w' 2 hd hm h, fun W hw hg => (rwrite_bad _ n cap f i (str L) (by omega) W).mono fun e w' h => hr e W w' 2 f hw hg h⟩
  by_cases hL : L.length = 4096
  · have hS : (((str L).size : Int) != 4096) = false := by rw [str_size, hL]; rfl
    by_cases hf : 0 < f
    · refine ⟨17, wrap64 (f - 1), C, hC, fun W hd hm _ => ?_, fun W hw hg => (rwrite_fails _ n cap f _ (j : Int) (str L) (by omega) (by omega) hS (by omega) rfl W).mono fun e w' h => hr e W w' 17 _ hw hg h⟩
      rw [hL]
      refine (write_fails b m n f j (by omega) (by omega) (by omega) hf _ rfl s sc W hd).mono ?_
      rintro e w' ⟨he, hd', ho⟩
      exact ⟨he, hd', (mb_out ho (Ne.symm hbm) hm).mono (by omega), Out2.of_b ho⟩
    · refine ⟨0, f, setC C j L, fun q => ?_, fun W hd hm hs => ?_, fun W hw hg => ?_⟩
      · unfold setC
        split
        · exact hL
        · exact hC q
      · obtain ⟨sb, so, rfl, hra⟩ := hs hL
        rw [hL]
        refine (write_let b m n f j k sb so sc C L hL (by omega) (by omega) (by omega) (by omega) (by omega) W hd hm hra).mono ?_
        rintro e w' ⟨he, hm', ho⟩
        exact ⟨he, dev_out ho hbm hd, hm', Out2.of_m ho⟩
      · refine (rwrite_ok g n cap j f C L hL hn2 hj (by omega) W hw).mono ?_
        rintro e w' ⟨g', c', he, h1, h2, h3, h4⟩
        exact ⟨g', c', he, .inr h1, h2, h3, h4⟩
  · have hS : (((str L).size : Int) != 4096) = true := by rw [str_size]; simp; omega
    have hl2 : (((L.length : Nat) : Int) != 4096) = true := by simp; omega
    refine ⟨2, f, C, hC, fun W hd hm _ => (write_bad _ j 2 (.inr rfl) s L.length sc W (begin_len b m n f j _ (by omega) (by omega) (by omega) hl2 W hd)).mono fun e w' h => hq e W w' 2 hd hm h, fun W hw hg => (rwrite_bad _ n cap f j (str L) (.inr (.inr hS)) W).mono fun e w' h => hr e W w' 2 f hw hg h⟩

theorem read_pair (b m n g cap k : Nat) (C : Nat → List UInt8) (f i : Int) (hn : 1 ≤ n) (hn2 : n ≤ 64) (hC : ∀ j, (C j).length = 4096) (hbm : b ≠ m) :
    ∃ (x f' : Int) (T : List UInt8),
      (∀ W, DevAt W b n m f → MapB W m k C → Calls Try.prog 12 #[.pointer (some ⟨b, 0, none⟩), .int .i64 i] W fun e w' => ∃ s q c, e = .returned (.tuple #[.slice s q c, .int .i64 x]) ∧ (∀ w2, Below w'.heap.size w' w2 → (convert 33 9 (.slice s q c)).run Try.prog w2 = .ok (.string (str T)) w2) ∧ DevAt w' b n m f' ∧ MapB w' m k C ∧ Out2 b m W w') ∧
      (∀ W, Row W g (strsL n C) → Calls Try.prog 13 #[refV (some ⟨g, 0, none⟩) n cap f, .int .i64 i] W (Makes (.tuple #[refV (some ⟨g, 0, none⟩) n cap f', .string (str T), .int .i64 x]) W)) := by
  rcases in_or n i with hi | ⟨j, rfl, hj⟩
  · refine ⟨2, f, [], fun W hd hm => (read_bad _ i 2 (.inr rfl) W (begin_out b m n f i _ hn hi W hd)).mono ?_, fun W _ => rread_bad _ n cap f i (by omega) W⟩
    rintro e w' ⟨he, q, rfl⟩
    exact ⟨_, _, _, he, fun w2 _ => nil_text w2, dev_dr q hd, mb_dr q hm, Out2.of_below (below_drewN (Below.refl _ _) q)⟩
  by_cases hf : 0 < f
  · refine ⟨17, wrap64 (f - 1), [], fun W hd hm => (read_fails b m n f j (by omega) (by omega) (by omega) hf _ rfl W hd).mono ?_, fun W _ => rread_fails _ n cap f _ j (by omega) (by omega) (by omega) rfl W⟩
    rintro e w' ⟨he, hd', ho⟩
    exact ⟨_, _, _, he, fun w2 _ => nil_text w2, hd', mb_out ho (Ne.symm hbm) hm, Out2.of_b ho⟩
  · refine ⟨0, f, C j, fun W hd hm => (read_let b m n f j k C (hC j) (by omega) (by omega) (by omega) (by omega) W hd hm).mono ?_, fun W hw => rread_ok g n cap j f C hj (by omega) W hw⟩
    rintro e w' ⟨g', he, h1, h2, h3⟩
    exact ⟨_, _, _, he, fun w2 hb => text_of (hC j) (row_range (k_be hb h2)), dev_be h3 hd, mb_be h3 hm, Out2.of_below h3⟩
end Go.Proofs.Ytadhjgjemndnpaa
