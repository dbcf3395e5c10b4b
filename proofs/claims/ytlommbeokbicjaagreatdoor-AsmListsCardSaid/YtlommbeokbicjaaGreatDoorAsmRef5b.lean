/-
  The document's text of a word that was decoded, of any shape.
-/
import Derived.Test.YtlommbeokbicjaaGreatDoorAsmRef5
namespace Go.Proofs.YtlommbeokbicjaaGreatDoor
open Go.RowKit InstMath AsmMath
open Go.Lib (itoa)

theorem goes_br {k : Nat} {m : Int} {j n t : Nat} (h : goesQ k m j n = some t) : brB (shp k) = true := by
  unfold goesQ at h
  split at h
  · rename_i hc
    exact hc.1
  · cases h
/-- What is so of the operands of a word that is an instruction. -/
theorem dec_ops {k : Nat} (h1 : 1 ≤ k) (h2 : k ≤ 69) {y : BitVec 64} (hy : y.toNat < 4294967296) (hm : matchB k y = true) (o : Nat) (ho : o < 4) : -4294967296 ≤ opsI k y o ∧ opsI k y o < 4294967296 := by
  by_cases h3 : o = 3
  · subst h3
    exact dec_imm h1 h2 hy hm
  · have he := enc_read h1 h2 hy hm
    by_cases hin : o ∈ opL (shp k)
    · have := enc_reg h1 h2 he hin h3
      omega
    · have hr := read_enc h1 h2 he (fun o => opsI_rng k y o) o
      have hh : has (shp k) o = false := by
        have : ∀ {s : Nat}, IsShape s → ((List.range 4).all fun o => decide (o ∈ opL s) || !has s o) = true := fun hs => each_shape (P := fun s => ((List.range 4).all fun o => decide (o ∈ opL s) || !has s o) = true) (by decide) hs
        have h4 := List.all_eq_true.1 (this (shape_of h1 h2)) o (by simpa using ho)
        simpa [hin] using h4
      rw [hh] at hr
      have hr : opsI k y o = 0 := hr
      omega
theorem name_len (k : Nat) (h : k < 70) (h1 : 1 ≤ k) : (nameL k).length ≤ 20 := (name_long k h h1).2
theorem rtext_any (j : Nat) (hj : j < 69) {y : BitVec 64} (hy : y.toNat < 4294967296) (hm : matchB (j + 1) y = true) (w : World) :
    Calls Tryz.prog 35 #[.agg #[.int .i64 ((j : Int) + 1), .int .i64 (opsI (j + 1) y 0), .int .i64 (opsI (j + 1) y 1), .int .i64 (opsI (j + 1) y 2), .int .i64 (opsI (j + 1) y 3)]] w (Makes (.string (str (wr (j + 1) (opsI (j + 1) y) (itoa (opsI (j + 1) y 3))))) w) := by
  have he := enc_read (k := j + 1) (by omega) (by omega) hy hm
  obtain ⟨V, hV, _⟩ := doc_any j hj (opsI (j + 1) y 0) (opsI (j + 1) y 1) (opsI (j + 1) y 2) (opsI (j + 1) y 3) (opsI_rng (j + 1) y 3)
  rw [enc_four (by omega) (by omega) (opsI (j + 1) y), he] at hV
  have hV : ∀ W, Calls Tryz.prog 69 #[.agg #[.int .i64 ((j : Int) + 1), .int .i64 (opsI (j + 1) y 0), .int .i64 (opsI (j + 1) y 1), .int .i64 (opsI (j + 1) y 2), .int .i64 (opsI (j + 1) y 3)]] W (Makes (.tuple #[.int .u32 V, .bool true]) W) := hV
  have b0 := dec_ops (k := j + 1) (by omega) (by omega) hy hm 0 (by omega)
  have b1 := dec_ops (k := j + 1) (by omega) (by omega) hy hm 1 (by omega)
  have b2 := dec_ops (k := j + 1) (by omega) (by omega) hy hm 2 (by omega)
  have b3 := dec_ops (k := j + 1) (by omega) (by omega) hy hm 3 (by omega)
  have ca := fun W => rregt_any (opsI (j + 1) y 0) (by omega) W
  have cb := fun W => rregt_any (opsI (j + 1) y 1) (by omega) W
  have cc := fun W => rregt_any (opsI (j + 1) y 2) (by omega) W
  have cm := fun W => rnum_any (opsI (j + 1) y 3) (by omega) W
  have l0 := itoa_len (n := opsI (j + 1) y 0) (by omega)
  have l1 := itoa_len (n := opsI (j + 1) y 1) (by omega)
  have l2 := itoa_len (n := opsI (j + 1) y 2) (by omega)
  have l3 := itoa_len (n := opsI (j + 1) y 3) (by omega)
  have ln := name_len (j + 1) (by omega) (by omega)
  have hsh := shape_of (k := j + 1) (by omega) (by omega)
  simp only [IsShape, List.mem_cons, List.not_mem_nil, or_false] at hsh
  have hwr : ∀ L, opL (shp (j + 1)) = L → wr (j + 1) (opsI (j + 1) y) (itoa (opsI (j + 1) y 3)) = nameL (j + 1) ++ (if L = [] then [] else 32 :: joinS [44, 32] (L.map (tx (opsI (j + 1) y) (itoa (opsI (j + 1) y 3))))) := fun L hL => by
    unfold wr txs
    rw [hL]
  generalize opsI (j + 1) y = F at *
  rcases hsh with h | h | h | h | h | h | h | h | h | h
  · have hw := hwr [0, 1, 2] (by rw [h]; decide)
    have hc := rtext_R j hj (F 0) (F 1) (F 2) (F 3) V h (str (nameL (j + 1))) (str (99 :: itoa (F 0))) (str (99 :: itoa (F 1))) (str (99 :: itoa (F 2))) (str (itoa (F 3))) _ _ _ _ _ _ rfl hV ca cb cc cm (text_add (a := _) (b := [32]) (by simp; omega)) (text_add (a := _) (b := 99 :: itoa (F 0)) (by simp; omega)) (text_add (a := _) (b := [44, 32]) (by simp; omega)) (text_add (a := _) (b := 99 :: itoa (F 1)) (by simp; omega)) (text_add (a := _) (b := [44, 32]) (by simp; omega)) (text_add (a := _) (b := 99 :: itoa (F 2)) (by simp; omega)) w
    rw [hw]
    simp [joinS, tx] at hc ⊢
    exact hc
  · have hw := hwr [0, 1] (by rw [h]; decide)
    have hc := rtext_G j hj (F 0) (F 1) (F 2) (F 3) V h (str (nameL (j + 1))) (str (99 :: itoa (F 0))) (str (99 :: itoa (F 1))) (str (99 :: itoa (F 2))) (str (itoa (F 3))) _ _ _ _ rfl hV ca cb cc cm (text_add (a := _) (b := [32]) (by simp; omega)) (text_add (a := _) (b := 99 :: itoa (F 0)) (by simp; omega)) (text_add (a := _) (b := [44, 32]) (by simp; omega)) (text_add (a := _) (b := 99 :: itoa (F 1)) (by simp; omega)) w
    rw [hw]
    simp [joinS, tx] at hc ⊢
    exact hc
  · have hw := hwr [0, 1, 3] (by rw [h]; decide)
    have hc := rtext_I j hj (F 0) (F 1) (F 2) (F 3) V h (str (nameL (j + 1))) (str (99 :: itoa (F 0))) (str (99 :: itoa (F 1))) (str (99 :: itoa (F 2))) (str (itoa (F 3))) _ _ _ _ _ _ rfl hV ca cb cc cm (text_add (a := _) (b := [32]) (by simp; omega)) (text_add (a := _) (b := 99 :: itoa (F 0)) (by simp; omega)) (text_add (a := _) (b := [44, 32]) (by simp; omega)) (text_add (a := _) (b := 99 :: itoa (F 1)) (by simp; omega)) (text_add (a := _) (b := [44, 32]) (by simp; omega)) (text_add (a := _) (b := itoa (F 3)) (by simp; omega)) w
    rw [hw]
    simp [joinS, tx] at hc ⊢
    exact hc
  · have hw := hwr [0, 1, 3] (by rw [h]; decide)
    have hc := rtext_C j hj (F 0) (F 1) (F 2) (F 3) V h (str (nameL (j + 1))) (str (99 :: itoa (F 0))) (str (99 :: itoa (F 1))) (str (99 :: itoa (F 2))) (str (itoa (F 3))) _ _ _ _ _ _ rfl hV ca cb cc cm (text_add (a := _) (b := [32]) (by simp; omega)) (text_add (a := _) (b := 99 :: itoa (F 0)) (by simp; omega)) (text_add (a := _) (b := [44, 32]) (by simp; omega)) (text_add (a := _) (b := 99 :: itoa (F 1)) (by simp; omega)) (text_add (a := _) (b := [44, 32]) (by simp; omega)) (text_add (a := _) (b := itoa (F 3)) (by simp; omega)) w
    rw [hw]
    simp [joinS, tx] at hc ⊢
    exact hc
  · have hw := hwr [0, 1, 3] (by rw [h]; decide)
    have hc := rtext_H j hj (F 0) (F 1) (F 2) (F 3) V h (str (nameL (j + 1))) (str (99 :: itoa (F 0))) (str (99 :: itoa (F 1))) (str (99 :: itoa (F 2))) (str (itoa (F 3))) _ _ _ _ _ _ rfl hV ca cb cc cm (text_add (a := _) (b := [32]) (by simp; omega)) (text_add (a := _) (b := 99 :: itoa (F 0)) (by simp; omega)) (text_add (a := _) (b := [44, 32]) (by simp; omega)) (text_add (a := _) (b := 99 :: itoa (F 1)) (by simp; omega)) (text_add (a := _) (b := [44, 32]) (by simp; omega)) (text_add (a := _) (b := itoa (F 3)) (by simp; omega)) w
    rw [hw]
    simp [joinS, tx] at hc ⊢
    exact hc
  · have hw := hwr [2, 1, 3] (by rw [h]; decide)
    have hc := rtext_S j hj (F 0) (F 1) (F 2) (F 3) V h (str (nameL (j + 1))) (str (99 :: itoa (F 0))) (str (99 :: itoa (F 1))) (str (99 :: itoa (F 2))) (str (itoa (F 3))) _ _ _ _ _ _ rfl hV ca cb cc cm (text_add (a := _) (b := [32]) (by simp; omega)) (text_add (a := _) (b := 99 :: itoa (F 2)) (by simp; omega)) (text_add (a := _) (b := [44, 32]) (by simp; omega)) (text_add (a := _) (b := 99 :: itoa (F 1)) (by simp; omega)) (text_add (a := _) (b := [44, 32]) (by simp; omega)) (text_add (a := _) (b := itoa (F 3)) (by simp; omega)) w
    rw [hw]
    simp [joinS, tx] at hc ⊢
    exact hc
  · have hw := hwr [1, 2, 3] (by rw [h]; decide)
    have hc := rtext_B j hj (F 0) (F 1) (F 2) (F 3) V h (str (nameL (j + 1))) (str (99 :: itoa (F 0))) (str (99 :: itoa (F 1))) (str (99 :: itoa (F 2))) (str (itoa (F 3))) _ _ _ _ _ _ rfl hV ca cb cc cm (text_add (a := _) (b := [32]) (by simp; omega)) (text_add (a := _) (b := 99 :: itoa (F 1)) (by simp; omega)) (text_add (a := _) (b := [44, 32]) (by simp; omega)) (text_add (a := _) (b := 99 :: itoa (F 2)) (by simp; omega)) (text_add (a := _) (b := [44, 32]) (by simp; omega)) (text_add (a := _) (b := itoa (F 3)) (by simp; omega)) w
    rw [hw]
    simp [joinS, tx] at hc ⊢
    exact hc
  · have hw := hwr [0, 3] (by rw [h]; decide)
    have hc := rtext_U j hj (F 0) (F 1) (F 2) (F 3) V h (str (nameL (j + 1))) (str (99 :: itoa (F 0))) (str (99 :: itoa (F 1))) (str (99 :: itoa (F 2))) (str (itoa (F 3))) _ _ _ _ rfl hV ca cb cc cm (text_add (a := _) (b := [32]) (by simp; omega)) (text_add (a := _) (b := 99 :: itoa (F 0)) (by simp; omega)) (text_add (a := _) (b := [44, 32]) (by simp; omega)) (text_add (a := _) (b := itoa (F 3)) (by simp; omega)) w
    rw [hw]
    simp [joinS, tx] at hc ⊢
    exact hc
  · have hw := hwr [0, 3] (by rw [h]; decide)
    have hc := rtext_J j hj (F 0) (F 1) (F 2) (F 3) V h (str (nameL (j + 1))) (str (99 :: itoa (F 0))) (str (99 :: itoa (F 1))) (str (99 :: itoa (F 2))) (str (itoa (F 3))) _ _ _ _ rfl hV ca cb cc cm (text_add (a := _) (b := [32]) (by simp; omega)) (text_add (a := _) (b := 99 :: itoa (F 0)) (by simp; omega)) (text_add (a := _) (b := [44, 32]) (by simp; omega)) (text_add (a := _) (b := itoa (F 3)) (by simp; omega)) w
    rw [hw]
    simp [joinS, tx] at hc ⊢
    exact hc
  · have hw := hwr [] (by rw [h]; decide)
    have hc := rtext_N j hj (F 0) (F 1) (F 2) (F 3) V h (str (nameL (j + 1))) (str (99 :: itoa (F 0))) (str (99 :: itoa (F 1))) (str (99 :: itoa (F 2))) (str (itoa (F 3)))  rfl hV ca cb cc cm  w
    rw [hw]
    simp at hc ⊢
    exact hc

end Go.Proofs.YtlommbeokbicjaaGreatDoor
