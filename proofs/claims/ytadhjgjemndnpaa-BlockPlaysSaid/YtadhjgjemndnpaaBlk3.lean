/-
  A block that is full of a byte, but for one; Read and Write that do not fail.
-/
import Derived.Test.YtadhjgjemndnpaaBlk2
import Derived.Test.YtadhjgjemndnpaaTail2
import Derived.Laws.MakeOwn
namespace Go.Proofs.Ytadhjgjemndnpaa
open Go.RowKit Go.Maps

theorem info_byte : (Try.prog.info? 5).map (fun i => (i.zero, i.size, i.bytes)) = some (some (.int .u8 0), 1, 1) := by kernel_rfl
/-- make([]byte, 4096). -/
theorem make_bytes : ∃ Z : Array Value, Z.toList = cellsB zeroB ∧ ∀ W, (Instr.makeSlice 33 (.int .i64 4096) (.int .i64 4096)).run Try.prog W = .ok (.slice (some ⟨W.heap.size, 0, none⟩) 4096 4096) (W.alloc (.cells Z 5)) := by
  obtain ⟨i, hi, hz, hs, hb⟩ : ∃ i, Try.prog.info? 5 = some i ∧ i.zero = some (.int .u8 0) ∧ i.size = 1 ∧ i.bytes = 1 := by
    have h := info_byte
    cases hq : Try.prog.info? 5 with
    | none => rw [hq] at h; cases h
    | some i =>
      rw [hq] at h
      simp only [Option.map_some, Option.some.injEq, Prod.mk.injEq] at h
      exact ⟨i, rfl, h.1, h.2.1, h.2.2⟩
  refine ⟨madeCells (Value.int .u8 0).cells (4096 * 1), ?_, fun W => ?_⟩
  · apply List.ext_getElem?
    intro k
    unfold cellsB zeroB
    rw [List.map_replicate, List.getElem?_replicate]
    unfold madeCells
    by_cases hk : k < 4096
    · rw [if_pos hk]
      simp [Value.cells, hk]
      rw [Nat.mod_one]
      rfl
    · rw [if_neg hk]
      simp [Value.cells, hk]
  · have hr := run_make (P := Try.prog) W 33 5 i (.int .u8 0) Try.underlying33 hi hz .i64 .i64 4096 4096 (by omega) (by omega) (by rw [hb]; omega) (by omega)
    rw [hs] at hr
    exact hr

/-- k times b, then zeros. -/
def mixB (b : UInt8) (k : Nat) : List UInt8 := List.replicate k b ++ List.replicate (4096 - k) 0
/-- Full of b, but for place q. -/
def fullL (b : UInt8) (q : Nat) : List UInt8 := (List.replicate 4096 b).set q (b + 1)
theorem fullL_length (b : UInt8) (q : Nat) : (fullL b q).length = 4096 := by unfold fullL; rw [List.length_set, List.length_replicate]
theorem mix_zero (b : UInt8) : mixB b 0 = zeroB := by unfold mixB zeroB; rw [List.replicate_zero, List.nil_append]
theorem mix_all (b : UInt8) : mixB b 4096 = List.replicate 4096 b := by unfold mixB; rw [show 4096 - 4096 = 0 from rfl, List.replicate_zero, List.append_nil]
theorem mix_at {b : UInt8} {k j : Nat} {u : UInt8} (hk : k ≤ 4096) (h : (mixB b k)[j]? = some u) : j < 4096 ∧ u = if j < k then b else 0 := by
  unfold mixB at h
  rcases Nat.lt_or_ge j k with hj | hj
  · rw [List.getElem?_append_left (by simpa using hj), List.getElem?_replicate, if_pos hj] at h
    rw [if_pos hj]
    exact ⟨by omega, by simpa using h.symm⟩
  · rw [List.getElem?_append_right (by simpa using hj), List.getElem?_replicate] at h
    rw [if_neg (by omega)]
    split at h
    · rename_i h2
      rw [List.length_replicate] at h2
      exact ⟨by omega, by simpa using h.symm⟩
    · cases h
theorem mix_get {b : UInt8} {k j : Nat} (hk : k ≤ 4096) (hj : j < 4096) : (mixB b k)[j]? = some (if j < k then b else 0) := by
  unfold mixB
  rcases Nat.lt_or_ge j k with h | h
  · rw [List.getElem?_append_left (by simpa using h), List.getElem?_replicate, if_pos h, if_pos h]
  · rw [List.getElem?_append_right (by simpa using h), List.getElem?_replicate, List.length_replicate, if_pos (by omega), if_neg (by omega)]
/-- One byte more. -/
theorem mix_store {W : World} {g k : Nat} {b : UInt8} (hk : k < 4096) (h : Row W g (cellsB (mixB b k))) (ho : Own W g 4096) : Row (W.setCell ⟨g, k, none⟩ (.int .u8 (b.toNat : Int))) g (cellsB (mixB b (k + 1))) := by
  intro j v hv
  obtain ⟨u, hu, rfl⟩ := cellsB_at hv
  obtain ⟨hj, rfl⟩ := mix_at (by omega) hu
  refine set_at ho hk ?_
  by_cases e : k = j
  · subst e
    rw [if_pos rfl, if_pos (by omega)]
  · rw [if_neg e]
    have : (mixB b k)[j]? = some (if j < k + 1 then b else 0) := by
      rw [mix_get (by omega) hj]
      by_cases h2 : j < k
      · rw [if_pos h2, if_pos (by omega)]
      · rw [if_neg h2, if_neg (by omega)]
    exact h j _ (cellsB_get this)
theorem full_store {W : World} {g q : Nat} {b : UInt8} (hq : q < 4096) (h : Row W g (cellsB (mixB b 4096))) (ho : Own W g 4096) : Row (W.setCell ⟨g, q, none⟩ (.int .u8 ((b + 1).toNat : Int))) g (cellsB (fullL b q)) := by
  intro j v hv
  obtain ⟨u, hu, rfl⟩ := cellsB_at hv
  unfold fullL at hu
  refine set_at ho hq ?_
  rw [List.getElem?_set] at hu
  by_cases e : q = j
  · subst e
    rw [if_pos rfl] at hu
    rw [if_pos rfl]
    split at hu
    · obtain rfl : b + 1 = u := by simpa using hu
      rfl
    · cases hu
  · rw [if_neg e] at hu
    rw [if_neg e]
    exact h j _ (cellsB_get (by rw [mix_all]; exact hu))
theorem and_4095 (x : Int) : ∃ n : Nat, n < 4096 ∧ bits .and .i64 x 4095 = (n : Int) := by
  have h2 : (BitVec.ofInt 64 (4095 : Int)).toNat = 4095 := by decide
  have h3 : (BitVec.ofInt 64 x &&& BitVec.ofInt 64 (4095 : Int)).toNat ≤ 4095 := by
    rw [BitVec.toNat_and, h2]
    exact Nat.and_le_right
  refine ⟨_, Nat.lt_of_le_of_lt h3 (by omega), ?_⟩
  show IntKind.i64.wrap ((BitVec.ofInt 64 x &&& BitVec.ofInt 64 (4095 : Int)).toNat : Int) = _
  rw [IntKind.wrap_i64]
  omega

set_option maxRecDepth 100000 in
set_option maxHeartbeats 4000000 in
theorem full_let (K N A : Int) (B : UInt8) (rp : Option Addr) (rl rc q : Nat) (hq : bits .and .i64 A 4095 = (q : Int)) (hq2 : q < 4096) (w : World) :
    Calls Try.prog 9 #[.agg #[.int .i64 K, .int .i64 N, .int .i64 A, .int .u8 (B.toNat : Int), .slice rp rl rc]] w fun e w' => ∃ g, e = .returned (.slice (some ⟨g, 0, none⟩) 4096 4096) ∧ w.heap.size ≤ g ∧ Row w' g (cellsB (fullL B q)) ∧ Below w.heap.size w w' := by
  obtain ⟨Z, hZ, hmk⟩ := make_bytes
  have hZs : Z.size = 4096 := by rw [← Array.length_toList, hZ, cellsB_length, zeroB_length]
  have hB1 : IntKind.u8.wrap ((B.toNat : Int) + 1) = ((B + 1).toNat : Int) := by
    rw [IntKind.wrap_u8', UInt8.toNat_add]
    simp
  go_enter Try.func9, Try.ntmps9
  go_wp2
  have hZ2 : Z = (cellsB (mixB B 0)).toArray := by rw [mix_zero, ← hZ]
  go_loopw [4] (fun i wr => ∃ k : Nat, k ≤ 4096 ∧ i = .int .i64 k ∧ wr.cell? ⟨w.heap.size, 2, none⟩ = some (.int .i64 A) ∧ wr.cell? ⟨w.heap.size, 3, none⟩ = some (.int .u8 (B.toNat : Int)) ∧ Row wr (w.heap.size + 1) (cellsB (mixB B k)) ∧ Own wr (w.heap.size + 1) 4096 ∧ Below w.heap.size w wr) (fun i _ => 4096 - (intOf i).toNat)
  case atStart =>
    exact ⟨0, by omega, rfl, by simp [go_sem], by simp [go_sem], row_new (by simp) (by rw [hZ2]), o_new (by simp) (by omega), bw_alloc (bw_alloc (Below.refl _ _) _) _⟩
  case round =>
    obtain ⟨k, hk, rfl, hA, hB, hR, hO, hbel⟩ := hrel
    by_cases h2 : k < 4096
    · have hk0 : (0 : Int) ≤ (k : Int) := by omega
      have hk2 : (k : Int) < 4096 := by omega
      obtain ⟨u, hu⟩ := hO.val k h2
      have hfz := hO.free k h2
      have HA := hide hA
      have HB := hide hB
      have HR := hide hR
      have HO := hide hO
      clear hA hR hO hmk hZ hZs hZ2
      go_wp2
      go_roundw
      case rel => exact ⟨k + 1, by omega, by go_num, c_set (by simp) HA.out, c_set (by simp) HB.out, mix_store h2 HR.out HO.out, o_set HO.out, bw_set (by simp) hbel _⟩
      case measure => simp [intOf]; omega
    · obtain rfl : k = 4096 := by omega
      obtain ⟨u, hu⟩ := hO.val q hq2
      have hfz := hO.free q hq2
      have hq0 : (0 : Int) ≤ (q : Int) := by omega
      have hq3 : (q : Int) < 4096 := by omega
      have HR := hide hR
      have HO := hide hO
      clear hR hO hmk hZ hZs hZ2
      go_wp2
      go_ret
      exact ⟨_, rfl, by simp, full_store hq2 HR.out HO.out, bw_set (by simp) hbel _⟩
end Go.Proofs.Ytadhjgjemndnpaa
