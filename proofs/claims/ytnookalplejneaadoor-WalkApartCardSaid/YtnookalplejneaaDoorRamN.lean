/-
  What Frames, find, New, Load and Store answer, and turn, in a memory of C frames, C from 1 to 64.
-/
import Derived.Test.YtnookalplejneaaDoorRam2
namespace Go.Proofs.YtnookalplejneaaDoor
open Go.RowKit Words

set_option maxRecDepth 100000 in
set_option maxHeartbeats 400000 in
theorem frames_n (R N C : Nat) (w : World) (h : w.cell? ⟨R, 0, none⟩ = some (.slice (some ⟨N, 0, none⟩) C C)) : Calls Tryd.prog 50 #[.pointer (some ⟨R, 0, none⟩)] w (Quiet (.int .i64 (C : Int)) w) := by
  go_enter Tryd.func50, Tryd.ntmps50
  go_wp2
  go_ret
  exact ⟨rfl, 0, rfl⟩

set_option maxRecDepth 100000 in
set_option maxHeartbeats 1000000 in
theorem findn_1 (R N p C : Nat) (A O : Int) (hp : p < C) (_hC : ((C : Int) == 0) = false) (_hW : IntKind.u64.wrap (C : Int) = (C : Int)) (_h0 : 0 ≤ A) (_hk : ¬ ((C : Int) ≤ (p : Int))) (_h1 : (p : Int) < (C : Int)) (_h2 : 0 ≤ (p : Int)) (_hA : A / 4096 = (p : Int)) (_hq : IntKind.u64.wrap (A.tdiv 4096) = (p : Int)) (_hO : A % 4096 = O) (_hw : RowKit.wrap64 O = O) (_hn : A % 1 = 0) (w : World) (h : w.cell? ⟨R, 0, none⟩ = some (.slice (some ⟨N, 0, none⟩) C C)) : Calls Tryd.prog 40 #[.pointer (some ⟨R, 0, none⟩), .int .u64 A, .int .i64 1, .bool true] w (Quiet (.tuple #[.pointer (some ⟨N, p * 4100, none⟩), .int .i64 O, .int .i64 0]) w) := by
  have C1 := hide (frames_n R N C)
  go_enter Tryd.func40, Tryd.ntmps40
  go_wp2_with (first | (go_at_call 50; (with_reducible refine (C1.out _ ?_).mono ?_); (focus (repeat (first | with_reducible assumption | with_reducible refine c_dr _ ?_ | with_reducible refine c_d1 ?_ | with_reducible refine c_al _ ?_ | (with_reducible refine c_set ?_ ?_; focus (dsimp only; omega)) | (with_reducible apply c_be; with_reducible assumption)))); rintro e w' ⟨rfl, n1, rfl⟩))
  refine bodyPost_ret (v := .tuple #[.pointer (some ⟨N, p * 4100, none⟩), .int .i64 O, .int .i64 0]) (by simp (maxDischargeDepth := 4) [results, Tryd.results40, go_sem, *]) rfl ?_
  exact ⟨rfl, _, rfl⟩

set_option maxRecDepth 100000 in
set_option maxHeartbeats 1000000 in
theorem findn_2 (R N p C : Nat) (A O : Int) (hp : p < C) (_hC : ((C : Int) == 0) = false) (_hW : IntKind.u64.wrap (C : Int) = (C : Int)) (_h0 : 0 ≤ A) (_hk : ¬ ((C : Int) ≤ (p : Int))) (_h1 : (p : Int) < (C : Int)) (_h2 : 0 ≤ (p : Int)) (_hA : A / 4096 = (p : Int)) (_hq : IntKind.u64.wrap (A.tdiv 4096) = (p : Int)) (_hO : A % 4096 = O) (_hw : RowKit.wrap64 O = O) (_hn : A % 2 = 0) (w : World) (h : w.cell? ⟨R, 0, none⟩ = some (.slice (some ⟨N, 0, none⟩) C C)) : Calls Tryd.prog 40 #[.pointer (some ⟨R, 0, none⟩), .int .u64 A, .int .i64 2, .bool true] w (Quiet (.tuple #[.pointer (some ⟨N, p * 4100, none⟩), .int .i64 O, .int .i64 0]) w) := by
  have C1 := hide (frames_n R N C)
  go_enter Tryd.func40, Tryd.ntmps40
  go_wp2_with (first | (go_at_call 50; (with_reducible refine (C1.out _ ?_).mono ?_); (focus (repeat (first | with_reducible assumption | with_reducible refine c_dr _ ?_ | with_reducible refine c_d1 ?_ | with_reducible refine c_al _ ?_ | (with_reducible refine c_set ?_ ?_; focus (dsimp only; omega)) | (with_reducible apply c_be; with_reducible assumption)))); rintro e w' ⟨rfl, n1, rfl⟩))
  refine bodyPost_ret (v := .tuple #[.pointer (some ⟨N, p * 4100, none⟩), .int .i64 O, .int .i64 0]) (by simp (maxDischargeDepth := 4) [results, Tryd.results40, go_sem, *]) rfl ?_
  exact ⟨rfl, _, rfl⟩

set_option maxRecDepth 100000 in
set_option maxHeartbeats 1000000 in
theorem findn_4 (R N p C : Nat) (A O : Int) (hp : p < C) (_hC : ((C : Int) == 0) = false) (_hW : IntKind.u64.wrap (C : Int) = (C : Int)) (_h0 : 0 ≤ A) (_hk : ¬ ((C : Int) ≤ (p : Int))) (_h1 : (p : Int) < (C : Int)) (_h2 : 0 ≤ (p : Int)) (_hA : A / 4096 = (p : Int)) (_hq : IntKind.u64.wrap (A.tdiv 4096) = (p : Int)) (_hO : A % 4096 = O) (_hw : RowKit.wrap64 O = O) (_hn : A % 4 = 0) (w : World) (h : w.cell? ⟨R, 0, none⟩ = some (.slice (some ⟨N, 0, none⟩) C C)) : Calls Tryd.prog 40 #[.pointer (some ⟨R, 0, none⟩), .int .u64 A, .int .i64 4, .bool true] w (Quiet (.tuple #[.pointer (some ⟨N, p * 4100, none⟩), .int .i64 O, .int .i64 0]) w) := by
  have C1 := hide (frames_n R N C)
  go_enter Tryd.func40, Tryd.ntmps40
  go_wp2_with (first | (go_at_call 50; (with_reducible refine (C1.out _ ?_).mono ?_); (focus (repeat (first | with_reducible assumption | with_reducible refine c_dr _ ?_ | with_reducible refine c_d1 ?_ | with_reducible refine c_al _ ?_ | (with_reducible refine c_set ?_ ?_; focus (dsimp only; omega)) | (with_reducible apply c_be; with_reducible assumption)))); rintro e w' ⟨rfl, n1, rfl⟩))
  refine bodyPost_ret (v := .tuple #[.pointer (some ⟨N, p * 4100, none⟩), .int .i64 O, .int .i64 0]) (by simp (maxDischargeDepth := 4) [results, Tryd.results40, go_sem, *]) rfl ?_
  exact ⟨rfl, _, rfl⟩

set_option maxRecDepth 100000 in
set_option maxHeartbeats 1000000 in
theorem findn_8 (R N p C : Nat) (A O : Int) (hp : p < C) (_hC : ((C : Int) == 0) = false) (_hW : IntKind.u64.wrap (C : Int) = (C : Int)) (_h0 : 0 ≤ A) (_hk : ¬ ((C : Int) ≤ (p : Int))) (_h1 : (p : Int) < (C : Int)) (_h2 : 0 ≤ (p : Int)) (_hA : A / 4096 = (p : Int)) (_hq : IntKind.u64.wrap (A.tdiv 4096) = (p : Int)) (_hO : A % 4096 = O) (_hw : RowKit.wrap64 O = O) (_hn : A % 8 = 0) (w : World) (h : w.cell? ⟨R, 0, none⟩ = some (.slice (some ⟨N, 0, none⟩) C C)) : Calls Tryd.prog 40 #[.pointer (some ⟨R, 0, none⟩), .int .u64 A, .int .i64 8, .bool true] w (Quiet (.tuple #[.pointer (some ⟨N, p * 4100, none⟩), .int .i64 O, .int .i64 0]) w) := by
  have C1 := hide (frames_n R N C)
  go_enter Tryd.func40, Tryd.ntmps40
  go_wp2_with (first | (go_at_call 50; (with_reducible refine (C1.out _ ?_).mono ?_); (focus (repeat (first | with_reducible assumption | with_reducible refine c_dr _ ?_ | with_reducible refine c_d1 ?_ | with_reducible refine c_al _ ?_ | (with_reducible refine c_set ?_ ?_; focus (dsimp only; omega)) | (with_reducible apply c_be; with_reducible assumption)))); rintro e w' ⟨rfl, n1, rfl⟩))
  refine bodyPost_ret (v := .tuple #[.pointer (some ⟨N, p * 4100, none⟩), .int .i64 O, .int .i64 0]) (by simp (maxDischargeDepth := 4) [results, Tryd.results40, go_sem, *]) rfl ?_
  exact ⟨rfl, _, rfl⟩

set_option maxRecDepth 100000 in
set_option maxHeartbeats 1000000 in
theorem findn_16 (R N p C : Nat) (A O : Int) (hp : p < C) (_hC : ((C : Int) == 0) = false) (_hW : IntKind.u64.wrap (C : Int) = (C : Int)) (_h0 : 0 ≤ A) (_hk : ¬ ((C : Int) ≤ (p : Int))) (_h1 : (p : Int) < (C : Int)) (_h2 : 0 ≤ (p : Int)) (_hA : A / 4096 = (p : Int)) (_hq : IntKind.u64.wrap (A.tdiv 4096) = (p : Int)) (_hO : A % 4096 = O) (_hw : RowKit.wrap64 O = O) (_hn : A % 16 = 0) (w : World) (h : w.cell? ⟨R, 0, none⟩ = some (.slice (some ⟨N, 0, none⟩) C C)) : Calls Tryd.prog 40 #[.pointer (some ⟨R, 0, none⟩), .int .u64 A, .int .i64 16, .bool true] w (Quiet (.tuple #[.pointer (some ⟨N, p * 4100, none⟩), .int .i64 O, .int .i64 0]) w) := by
  have C1 := hide (frames_n R N C)
  go_enter Tryd.func40, Tryd.ntmps40
  go_wp2_with (first | (go_at_call 50; (with_reducible refine (C1.out _ ?_).mono ?_); (focus (repeat (first | with_reducible assumption | with_reducible refine c_dr _ ?_ | with_reducible refine c_d1 ?_ | with_reducible refine c_al _ ?_ | (with_reducible refine c_set ?_ ?_; focus (dsimp only; omega)) | (with_reducible apply c_be; with_reducible assumption)))); rintro e w' ⟨rfl, n1, rfl⟩))
  refine bodyPost_ret (v := .tuple #[.pointer (some ⟨N, p * 4100, none⟩), .int .i64 O, .int .i64 0]) (by simp (maxDischargeDepth := 4) [results, Tryd.results40, go_sem, *]) rfl ?_
  exact ⟨rfl, _, rfl⟩

def updP {α : Type} (f : Nat → α) (p : Nat) (x : α) : Nat → α := fun j => if j = p then x else f j
/-- Memory of C frames: its slice of pages, and the pages. -/
structure Mem (W : World) (R N C : Nat) (B : Nat → Nat → BitVec 8) (S : Nat → BitVec 256) : Prop where
  ram : W.cell? ⟨R, 0, none⟩ = some (.slice (some ⟨N, 0, none⟩) C C)
  ne : R ≠ N
  page : ∀ p, p < C → PageAt W N (p * 4100) (B p) (S p)
theorem mem_dr {W : World} {R N C : Nat} {B : Nat → Nat → BitVec 8} {S : Nat → BitVec 256} (n : Nat) (h : Mem W R N C B S) : Mem (W.drewN n) R N C B S := ⟨h.ram, h.ne, fun p hp => pg_dr n (h.page p hp)⟩
theorem mem_d1 {W : World} {R N C : Nat} {B : Nat → Nat → BitVec 8} {S : Nat → BitVec 256} (h : Mem W R N C B S) : Mem W.drew R N C B S := ⟨h.ram, h.ne, fun p hp => pg_d1 (h.page p hp)⟩
theorem mem_be {W W' : World} {R N C : Nat} {B : Nat → Nat → BitVec 8} {S : Nat → BitVec 256} (hb : Below W.heap.size W W') (h : Mem W R N C B S) : Mem W' R N C B S := ⟨c_be hb h.ram, h.ne, fun p hp => pg_be hb (h.page p hp)⟩
theorem mem_al {W : World} {R N C : Nat} {B : Nat → Nat → BitVec 8} {S : Nat → BitVec 256} (ob : Obj) (h : Mem W R N C B S) : Mem (W.alloc ob) R N C B S := mem_be (below_alloc (Below.refl _ _) (Nat.le_refl _) ob) h
theorem mem_set {W : World} {R N C : Nat} {B : Nat → Nat → BitVec 8} {S : Nat → BitVec 256} {p : Addr} {u : Value} (h1 : p.block ≠ N) (h2 : p.block ≠ R) (h : Mem W R N C B S) : Mem (W.setCell p u) R N C B S := ⟨c_set h2 h.ram, h.ne, fun q hq => pg_set h1 (h.page q hq)⟩
theorem mem_out {w w' : World} {R N p C : Nat} {B : Nat → Nat → BitVec 8} {S : Nat → BitVec 256} {B' : Nat → BitVec 8} {s' : BitVec 256} (h : Mem w R N C B S) (hp : p < C) (hq : PageAt w' N (p * 4100) B' s') (ho : Out N (p * 4100) w w') : Mem w' R N C (updP B p B') (updP S p s') := by
  refine ⟨ho.reads h.ne h.ram, h.ne, fun j hj => ?_⟩
  unfold updP
  by_cases e : j = p
  · subst e
    rw [if_pos rfl, if_pos rfl]
    exact hq
  · rw [if_neg e, if_neg e]
    exact pg_out ho (by omega) (h.page j hj)

theorem page_size : (Tryd.prog.info? 109).map (fun i => (i.size, i.bytes)) = some (4100, 4128) := by kernel_rfl
set_option maxRecDepth 100000 in
theorem page_zero : ((Tryd.prog.info? 109).bind (·.zero)).map (fun z => z.cells.toList) = some (List.replicate 4096 (.int .u8 0) ++ List.replicate 4 (.int .u64 0)) := by kernel_rfl
theorem pages_slice : Tryd.prog.underlying 92 = some (.slice 109) := by kernel_rfl
/-- What a new slice of C pages holds. -/
structure Zeros (C : Nat) (Z : Array Value) : Prop where
  byte : ∀ p k, p < C → k < 4096 → Z[p * 4100 + k]? = some (.int .u8 0)
  word : ∀ p q, p < C → q < 4 → Z[p * 4100 + 4096 + q]? = some (.int .u64 0)
theorem zeros_of {z : Array Value} {a b C : Nat} (ha : a = 4096) (hb : b = 4) (h2 : z.toList = List.replicate a (.int .u8 0) ++ List.replicate b (.int .u64 0)) : Zeros C (madeCells z (C * 4100)) := by
  have hsz : z.size = 4100 := by rw [← Array.length_toList, h2]; simp; omega
  have hat : ∀ j, j < C * 4100 → (madeCells z (C * 4100))[j]? = z.toList[j % 4100]? := fun j hj => by
    have hm : j % 4100 < z.size := by omega
    simp [madeCells, hj, hsz]
    rw [Array.getElem?_eq_getElem hm]
    simp [hm]
  constructor
  · intro p k hp hk
    rw [hat _ (by omega), h2, show (p * 4100 + k) % 4100 = k by omega, List.getElem?_append_left (by simp; omega)]
    simp [show k < a by omega]
  · intro p q hp hq
    rw [hat _ (by omega), h2, show (p * 4100 + 4096 + q) % 4100 = a + q by omega, List.getElem?_append_right (by simp)]
    simp [show q < b by omega]
theorem make_n (C : Nat) (hC : C ≤ 64) : ∃ Z, Zeros C Z ∧ ∀ W, (Instr.makeSlice 92 (.int .i64 (C : Int)) (.int .i64 (C : Int))).run Tryd.prog W = .ok (.slice (some ⟨W.heap.size, 0, none⟩) C C) (W.alloc (.cells Z 109)) := by
  obtain ⟨z, hz0, hl⟩ := Option.map_eq_some_iff.1 page_zero
  obtain ⟨i, hi, hz⟩ := Option.bind_eq_some_iff.1 hz0
  have h1 := page_size
  rw [hi] at h1
  have hs : i.size = 4100 := congrArg (fun x : Option (Nat × Nat) => (x.getD (0, 0)).1) h1
  have hb : i.bytes = 4128 := congrArg (fun x : Option (Nat × Nat) => (x.getD (0, 0)).2) h1
  refine ⟨madeCells z.cells (C * 4100), zeros_of rfl rfl hl, fun W => ?_⟩
  have hr := run_make (P := Tryd.prog) W 92 109 i z pages_slice hi hz .i64 .i64 C C (by omega) (by omega) (by rw [hb]; omega) (by omega)
  rw [hs] at hr
  exact hr
theorem pages_new {W : World} {C : Nat} {Z : Array Value} {t : TypeId} (hC : Zeros C Z) (p : Nat) (hp : p < C) : PageAt (W.alloc (.cells Z t)) W.heap.size (p * 4100) (fun _ => 0#8) 0#256 := by
  have hw : ∀ q, ((wd 0#256 q).toNat : Int) = 0 := fun q => by simp [wd]
  refine ⟨fun k hk => ?_, fun q hq => ?_, fun k _ => ?_⟩
  · simp [go_sem, hC.byte p k hp hk, byI]
  · simp [go_sem, hC.word p q hp hq, hw]
  · simp [go_sem]
set_option maxRecDepth 100000 in
set_option maxHeartbeats 1000000 in
theorem new_let (C : Nat) (Z : Array Value) (HC : Hid (Zeros C Z)) (hM : ∀ W, (Instr.makeSlice 92 (.int .i64 (C : Int)) (.int .i64 (C : Int))).run Tryd.prog W = .ok (.slice (some ⟨W.heap.size, 0, none⟩) C C) (W.alloc (.cells Z 109))) (_h1 : decide ((C : Int) < 1) = false) (_h2 : decide (64 < (C : Int)) = false) (w : World) :
    Calls Tryd.prog 24 #[.int .i64 (C : Int)] w fun e w' => e = .returned (.tuple #[.pointer (some ⟨w.heap.size + 1, 0, none⟩), .int .i64 0]) ∧ Mem w' (w.heap.size + 1) w.heap.size C (fun _ _ => 0#8) (fun _ => 0#256) ∧ Below w.heap.size w w' ∧ w'.heap.size = w.heap.size + 2 := by
  go_enter Tryd.func24, Tryd.ntmps24
  go_wp2
  refine bodyPost_ret (v := .tuple #[.pointer (some ⟨w.heap.size + 1, 0, none⟩), .int .i64 0]) (by simp (maxDischargeDepth := 4) [results, Tryd.results24, go_sem, *]) rfl ?_
  refine ⟨rfl, ⟨by simp [go_sem], by omega, fun p hp => pg_al _ (pages_new HC.out p hp)⟩, ?_, by simp⟩
  repeat (first | with_reducible assumption | with_reducible exact Below.refl _ _ | with_reducible refine Below.drew ?_ | with_reducible refine below_drewN ?_ _ | with_reducible refine bw_alloc ?_ _ | (with_reducible refine bw_set ?_ ?_ _; focus (dsimp only; omega)) | (with_reducible apply bw_behind; with_reducible assumption))
theorem new_n (C : Nat) (h0 : 1 ≤ C) (hC : C ≤ 64) (w : World) : Calls Tryd.prog 24 #[.int .i64 (C : Int)] w fun e w' => e = .returned (.tuple #[.pointer (some ⟨w.heap.size + 1, 0, none⟩), .int .i64 0]) ∧ Mem w' (w.heap.size + 1) w.heap.size C (fun _ _ => 0#8) (fun _ => 0#256) ∧ Below w.heap.size w w' ∧ w'.heap.size = w.heap.size + 2 := by
  obtain ⟨Z, hZ, hM⟩ := make_n C hC
  exact new_let C Z (hide hZ) hM (decide_eq_false (by omega)) (decide_eq_false (by omega)) w

/-- An address: of frame p, off bytes into it; it is a multiple of n. -/
structure At (A p off n C : Nat) : Prop where
  h1 : A = p * 4096 + off
  h2 : p < C
  h3 : off < 4096
  h4 : off % n = 0
  h5 : n = 1 ∨ n = 2 ∨ n = 4 ∨ n = 8 ∨ n = 16
  h6 : C ≤ 64
theorem At.fits {A p off n C : Nat} (h : At A p off n C) : off + n ≤ 4096 := by
  obtain ⟨h1, h2, h3, h4, h5, _⟩ := h
  rcases h5 with rfl | rfl | rfl | rfl | rfl <;> omega
theorem found {A p off n C : Nat} (h : At A p off n C) (R N : Nat) (w : World) (hc : w.cell? ⟨R, 0, none⟩ = some (.slice (some ⟨N, 0, none⟩) C C)) : Calls Tryd.prog 40 #[.pointer (some ⟨R, 0, none⟩), .int .u64 (A : Int), .int .i64 (n : Int), .bool true] w (Quiet (.tuple #[.pointer (some ⟨N, p * 4100, none⟩), .int .i64 (off : Int), .int .i64 0]) w) := by
  obtain ⟨h1, h2, h3, h4, h5, h6⟩ := h
  have hw : RowKit.wrap64 (off : Int) = (off : Int) := by unfold RowKit.wrap64; omega
  have hu : IntKind.u64.wrap (C : Int) = (C : Int) := by rw [IntKind.wrap_u64]; omega
  have hz : ((C : Int) == 0) = false := by simp; omega
  have hq : IntKind.u64.wrap ((A : Int).tdiv 4096) = (p : Int) := by rw [IntKind.wrap_u64, Int.tdiv_eq_ediv_of_nonneg (by omega)]; omega
  rcases h5 with rfl | rfl | rfl | rfl | rfl
  · exact findn_1 R N p C _ _ h2 hz hu (by omega) (by omega) (by omega) (by omega) (by omega) hq (by omega) hw (by omega) w hc
  · exact findn_2 R N p C _ _ h2 hz hu (by omega) (by omega) (by omega) (by omega) (by omega) hq (by omega) hw (by omega) w hc
  · exact findn_4 R N p C _ _ h2 hz hu (by omega) (by omega) (by omega) (by omega) (by omega) hq (by omega) hw (by omega) w hc
  · exact findn_8 R N p C _ _ h2 hz hu (by omega) (by omega) (by omega) (by omega) (by omega) hq (by omega) hw (by omega) w hc
  · exact findn_16 R N p C _ _ h2 hz hu (by omega) (by omega) (by omega) (by omega) (by omega) hq (by omega) hw (by omega) w hc
set_option maxRecDepth 100000 in
set_option maxHeartbeats 1000000 in
theorem load_let (R N C o : Nat) (A O n X : Int) (B : Nat → BitVec 8) (s : BitVec 256) (c1 : ∀ W, Calls Tryd.prog 41 #[.int .i64 n] W (Quiet (.bool true) W)) (c2 : ∀ W, W.cell? ⟨R, 0, none⟩ = some (.slice (some ⟨N, 0, none⟩) C C) → Calls Tryd.prog 40 #[.pointer (some ⟨R, 0, none⟩), .int .u64 A, .int .i64 n, .bool true] W (Quiet (.tuple #[.pointer (some ⟨N, o, none⟩), .int .i64 O, .int .i64 0]) W))
    (c3 : ∀ W, PageAt W N o B s → Calls Tryd.prog 59 #[.pointer (some ⟨N, o, none⟩), .int .i64 O, .int .i64 n] W (Quiet (.int .u64 X) W)) (w : World) (hc : w.cell? ⟨R, 0, none⟩ = some (.slice (some ⟨N, 0, none⟩) C C)) (hp : PageAt w N o B s) :
    Calls Tryd.prog 52 #[.pointer (some ⟨R, 0, none⟩), .int .u64 A, .int .i64 n] w (Quiet (.tuple #[.int .u64 X, .int .i64 0]) w) := by
  have C1 := hide c1
  have C2 := hide c2
  have C3 := hide c3
  clear c1 c2 c3
  go_enter Tryd.func52, Tryd.ntmps52
  go_wp2_with (first | (go_at_call 41; (with_reducible refine (C1.out _).mono ?_); rintro e w' ⟨rfl, n1, rfl⟩) | (go_at_call 40; (with_reducible refine (C2.out _ ?_).mono ?_); (focus (repeat (first | with_reducible assumption | with_reducible refine c_dr _ ?_ | with_reducible refine c_d1 ?_ | with_reducible refine c_al _ ?_ | (with_reducible refine c_set ?_ ?_; focus (dsimp only; omega)) | (with_reducible apply c_be; with_reducible assumption)))); rintro e w' ⟨rfl, n2, rfl⟩) | (go_at_call 59; (with_reducible refine (C3.out _ ?_).mono ?_); (focus (repeat (first | with_reducible assumption | with_reducible refine pg_dr _ ?_ | with_reducible refine pg_d1 ?_ | with_reducible refine pg_al _ ?_ | (with_reducible refine pg_set ?_ ?_; focus (dsimp only; omega)) | (with_reducible apply pg_be; with_reducible assumption)))); rintro e w' ⟨rfl, n3, rfl⟩))
  refine bodyPost_ret (v := .tuple #[.int .u64 X, .int .i64 0]) (by simp (maxDischargeDepth := 4) [results, Tryd.results52, go_sem, *]) rfl ?_
  exact ⟨rfl, _, rfl⟩
theorem load_any {A p off n C : Nat} (h : At A p off n C) (hn : n ≤ 8) (R N : Nat) (B : Nat → Nat → BitVec 8) (S : Nat → BitVec 256) (w : World) (hm : Mem w R N C B S) : Calls Tryd.prog 52 #[.pointer (some ⟨R, 0, none⟩), .int .u64 (A : Int), .int .i64 (n : Int)] w (Quiet (.tuple #[.int .u64 ((numB (fun i => B p (off + i)) n).toNat : Int), .int .i64 0]) w) :=
  load_let R N C (p * 4100) _ _ _ _ (B p) (S p) (fun W => size_yes _ (by have := h.h5; omega) W) (fun W hc => found h R N W hc) (fun W hp => bnumber_any N (p * 4100) off n (B p) (S p) hn h.fits W hp) w hm.ram (hm.page p h.h2)

set_option maxRecDepth 100000 in
set_option maxHeartbeats 1000000 in
theorem store_let (R N C o : Nat) (A O n V : Int) (B B' : Nat → BitVec 8) (s s' : BitVec 256) (c1 : ∀ W, Calls Tryd.prog 41 #[.int .i64 n] W (Quiet (.bool true) W)) (c2 : ∀ W, W.cell? ⟨R, 0, none⟩ = some (.slice (some ⟨N, 0, none⟩) C C) → Calls Tryd.prog 40 #[.pointer (some ⟨R, 0, none⟩), .int .u64 A, .int .i64 n, .bool true] W (Quiet (.tuple #[.pointer (some ⟨N, o, none⟩), .int .i64 O, .int .i64 0]) W))
    (c3 : ∀ W, PageAt W N o B s → Calls Tryd.prog 42 #[.pointer (some ⟨N, o, none⟩), .int .i64 O, .int .i64 n, .int .u64 V] W fun e w' => e = .returned (.tuple #[]) ∧ PageAt w' N o B' s' ∧ Out N o W w') (w : World) (hc : w.cell? ⟨R, 0, none⟩ = some (.slice (some ⟨N, 0, none⟩) C C)) (hp : PageAt w N o B s) :
    Calls Tryd.prog 19 #[.pointer (some ⟨R, 0, none⟩), .int .u64 A, .int .i64 n, .int .u64 V] w fun e w' => e = .returned (.int .i64 0) ∧ PageAt w' N o B' s' ∧ Out N o w w' := by
  have C1 := hide c1
  have C2 := hide c2
  have C3 := hide c3
  clear c1 c2 c3
  go_enter Tryd.func19, Tryd.ntmps19
  go_wp2_with (first | (go_at_call 41; (with_reducible refine (C1.out _).mono ?_); rintro e w' ⟨rfl, n1, rfl⟩) | (go_at_call 40; (with_reducible refine (C2.out _ ?_).mono ?_); (focus (repeat (first | with_reducible assumption | with_reducible refine c_dr _ ?_ | with_reducible refine c_d1 ?_ | with_reducible refine c_al _ ?_ | (with_reducible refine c_set ?_ ?_; focus (dsimp only; omega)) | (with_reducible apply c_be; with_reducible assumption)))); rintro e w' ⟨rfl, n2, rfl⟩) | (go_at_call 42; (with_reducible refine (C3.out _ ?_).mono ?_); (focus (repeat (first | with_reducible assumption | with_reducible refine pg_dr _ ?_ | with_reducible refine pg_d1 ?_ | with_reducible refine pg_al _ ?_ | (with_reducible refine pg_set ?_ ?_; focus (dsimp only; omega)) | (with_reducible apply pg_be; with_reducible assumption)))); rintro e w3 ⟨rfl, hq, ho⟩))
  refine bodyPost_ret (v := .int .i64 0) (by simp (maxDischargeDepth := 4) [results, Tryd.results19, go_sem, *]) rfl ?_
  exact ⟨rfl, hq, (out_dr _ (Out.refl _ _ _)).trans ho⟩
/-- The tags of a page where a byte at place off was stored. -/
def lessT (s : BitVec 256) (off : Nat) : BitVec 256 := withS s ((off / 16 : Nat) : Int) false
theorem store_any {A p off n C : Nat} (h : At A p off n C) (hn : n ≤ 8) (v : BitVec 64) (R N : Nat) (B : Nat → Nat → BitVec 8) (S : Nat → BitVec 256) (w : World) (hm : Mem w R N C B S) : Calls Tryd.prog 19 #[.pointer (some ⟨R, 0, none⟩), .int .u64 (A : Int), .int .i64 (n : Int), .int .u64 (v.toNat : Int)] w fun e w' => e = .returned (.int .i64 0) ∧ Mem w' R N C (updP B p (putB (B p) off v n)) (updP S p (lessT (S p) off)) ∧ Out N (p * 4100) w w' :=
  (store_let R N C (p * 4100) _ _ _ _ (B p) (putB (B p) off v n) (S p) (lessT (S p) off) (fun W => size_yes _ (by have := h.h5; omega) W) (fun W hc => found h R N W hc) (fun W hp => bput_any N (p * 4100) off n ((off / 16 : Nat) : Int) v (B p) (S p) hn h.fits (by omega) (by rw [Int.tdiv_eq_ediv_of_nonneg (by omega)]; omega) W hp) w hm.ram (hm.page p h.h2)).mono fun _ _ ⟨he, hq, ho⟩ => ⟨he, mem_out hm h.h2 hq ho, ho⟩
end Go.Proofs.YtnookalplejneaaDoor
