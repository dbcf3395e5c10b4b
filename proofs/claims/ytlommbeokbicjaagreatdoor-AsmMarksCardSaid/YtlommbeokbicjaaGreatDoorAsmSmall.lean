/-
  What texts are to a walk; letters, digits and names of marks; the operands of a shape.
-/
import Derived.Test.YtlommbeokbicjaaGreatDoorAsmMath
import Derived.Test.YtlommbeokbicjaaGreatDoorInst4
import Derived.Test.YtlommbeokbicjaaGreatDoorInst6
import Derived.Lib.AppendIntMem
namespace Go.Proofs.YtlommbeokbicjaaGreatDoor
open Go.RowKit InstMath AsmMath

/-- What a call finds: the tables of package inst, the powers of ten, and some number where the search for a text looks. -/
structure G (W : World) : Prop where
  names : TabN W
  words : TabW W
  pow : Lib.TabIs Tryz.prog W "internal/strconv.uint64pow10" .u64 Lib.pow10Tab
  most : ∃ m, W.cell? ⟨3, 0, none⟩ = some (.int .i64 m)
theorem G.behind {W W' : World} (h : G W) (hb : Below W.heap.size W W') : G W' :=
  ⟨h.names.behind hb, h.words.behind hb, Lib.tabBelow_of_tabIs h.pow W' hb, by obtain ⟨m, hm⟩ := h.most; exact ⟨m, c_be hb hm⟩⟩

theorem text_add {a b : List UInt8} (h : a.length + b.length ≤ 1000000000) (W : World) : (Op.stringOp .add (str a) (str b)).run Tryz.prog W = .ok (.string (str (a ++ b))) W := by
  rw [run_string_add_sum _ _ _ (by rw [str_size, str_size]; omega), str_add]
theorem index_text {l : List UInt8} {i : Nat} (h : i < l.length) (W : World) : (Instr.index 9 (.string (str l)) (.int .i64 (i : Int))).run Tryz.prog W = .ok (.int .u8 ((l[i].toNat : Nat) : Int)) W := by
  rw [run_index_string W _ _ _ _ Tryz.underlying9, dif_pos ⟨by omega, by rw [str_size]; omega⟩]
  have e : (str l)[(i : Int).toNat]'(by rw [str_size]; omega) = l[i] := by
    show (str l).data[i]'_ = l[i]
    simp [str]
  rw [e]

def ltrB (c : Nat) : Bool := decide (97 ≤ c ∧ c ≤ 122)
def digB (c : Nat) : Bool := decide (48 ≤ c ∧ c ≤ 57)
def nmB (c : Nat) : Bool := ltrB c || digB c || c == 95
/-- May a mark have this name? -/
structure NameOk (l : List UInt8) : Prop where
  ne : l ≠ []
  len : l.length ≤ 64
  head : ∀ (h : 0 < l.length), ltrB l[0].toNat = true
  all : ∀ b ∈ l, nmB b.toNat = true

set_option maxHeartbeats 400000 in
theorem isLetter_any (c : Nat) (w : World) : Calls Tryz.prog 118 #[.int .u8 (c : Int)] w (Quiet (.bool (ltrB c)) w) := by
  by_cases h1 : 97 ≤ c
  · by_cases h2 : c ≤ 122
    · have hR : ltrB c = true := by unfold ltrB; simp; omega
      have HR := hide hR
      clear hR
      go_enter Tryz.func118, Tryz.ntmps118
      go_wp2
      go_ret
      exact ⟨ret_bool (by rw [HR.out]; simp; omega), 0, rfl⟩
    · have hR : ltrB c = false := by unfold ltrB; simp; omega
      have HR := hide hR
      clear hR
      go_enter Tryz.func118, Tryz.ntmps118
      go_wp2
      go_ret
      exact ⟨ret_bool (by rw [HR.out]; simp; omega), 0, rfl⟩
  · have hR : ltrB c = false := by unfold ltrB; simp; omega
    have HR := hide hR
    clear hR
    go_enter Tryz.func118, Tryz.ntmps118
    go_wp2
    go_ret
    exact ⟨ret_bool (by rw [HR.out]), 0, rfl⟩

set_option maxHeartbeats 400000 in
theorem isDigit_any (c : Nat) (w : World) : Calls Tryz.prog 119 #[.int .u8 (c : Int)] w (Quiet (.bool (digB c)) w) := by
  by_cases h1 : 48 ≤ c
  · by_cases h2 : c ≤ 57
    · have hR : digB c = true := by unfold digB; simp; omega
      have HR := hide hR
      clear hR
      go_enter Tryz.func119, Tryz.ntmps119
      go_wp2
      go_ret
      exact ⟨ret_bool (by rw [HR.out]; simp; omega), 0, rfl⟩
    · have hR : digB c = false := by unfold digB; simp; omega
      have HR := hide hR
      clear hR
      go_enter Tryz.func119, Tryz.ntmps119
      go_wp2
      go_ret
      exact ⟨ret_bool (by rw [HR.out]; simp; omega), 0, rfl⟩
  · have hR : digB c = false := by unfold digB; simp; omega
    have HR := hide hR
    clear hR
    go_enter Tryz.func119, Tryz.ntmps119
    go_wp2
    go_ret
    exact ⟨ret_bool (by rw [HR.out]), 0, rfl⟩

set_option maxHeartbeats 1000000 in
theorem isName_yes (l : List UInt8) (h : NameOk l) (w : World) : Calls Tryz.prog 87 #[.string (str l)] w (Quiet (.bool true) w) := by
  have CL : Hid (∀ (c : Nat) W, Calls Tryz.prog 118 #[.int .u8 (c : Int)] W (Quiet (.bool (ltrB c)) W)) := hide isLetter_any
  have CD : Hid (∀ (c : Nat) W, Calls Tryz.prog 119 #[.int .u8 (c : Int)] W (Quiet (.bool (digB c)) W)) := hide isDigit_any
  obtain ⟨h1, h2, h3, h4⟩ := h
  have hp : 0 < l.length := List.length_pos_iff.2 h1
  have hh := h3 hp
  have hix := index_text hp
  have hsz := str_size l
  have he : ¬ (str l).toList = [] := by rw [str_toList]; exact h1
  have he2 : (str l).toList.isEmpty = false := by rw [str_toList]; simpa using h1
  have hn2 : ¬ 64 < (l.length : Int) := by omega
  have hn3 : (l.length : Int) ≤ 64 := by omega
  have HA := hide h4
  have CL0 := hide (CL.out l[0].toNat)
  have HI : Hid (∀ (i : Nat) (h : i < l.length) (W : World), (Instr.index 9 (.string (str l)) (.int .i64 (i : Int))).run Tryz.prog W = .ok (.int .u8 ((l[i].toNat : Nat) : Int)) W) := hide (fun i h => index_text h)
  rw [hh] at CL0
  generalize l[0].toNat = c0 at *
  clear h1 h3 h4
  have hix0 : ∀ W, (Instr.index 9 (.string (str l)) (.int .i64 0)).run Tryz.prog W = .ok (.int .u8 (c0 : Int)) W := hix
  clear hix
  generalize hS : str l = S at *
  have HS := hide hS
  clear hS
  go_enter Tryz.func87, Tryz.ntmps87
  go_wp2_with (first | (go_at_call 118; (with_reducible refine (CL0.out _).mono ?_); rintro e w' ⟨rfl, n1, rfl⟩))
  go_loopw [19] (fun i wr => ∃ j n : Nat, wr = w.drewN n ∧ i = .int .i64 (j : Int) ∧ j ≤ l.length) (fun i _ => l.length - (intOf i).toNat)
  case atStart => exact ⟨0, _, rfl, rfl, by omega⟩
  case round =>
    obtain ⟨j, n, rfl, rfl, hj⟩ := hrel
    by_cases h : j < l.length
    · have hb := HA.out l[j] (List.getElem_mem h)
      have hix := HI.out j h
      generalize l[j].toNat = c at *
      have CL1 := hide (CL.out c)
      have CD1 := hide (CD.out c)
      unfold nmB at hb
      cases e1 : ltrB c with
      | true =>
        rw [e1] at CL1
        clear hb
        go_wp2_with (first | (go_at_call 118; (with_reducible refine (CL1.out _).mono ?_); rintro e w' ⟨rfl, n1, rfl⟩))
        go_roundw
        case rel => exact ⟨j + 1, _, rfl, by go_num, by omega⟩
        case measure => simp [intOf]; omega
      | false =>
        rw [e1] at CL1 hb
        cases e2 : digB c with
        | true =>
          rw [e2] at CD1
          clear hb
          go_wp2_with (first | (go_at_call 118; (with_reducible refine (CL1.out _).mono ?_); rintro e w' ⟨rfl, n1, rfl⟩) | (go_at_call 119; (with_reducible refine (CD1.out _).mono ?_); rintro e w' ⟨rfl, n2, rfl⟩))
          go_roundw
          case rel => exact ⟨j + 1, _, rfl, by go_num, by omega⟩
          case measure => simp [intOf]; omega
        | false =>
          rw [e2] at CD1 hb
          have hc : ((c : Int) == 95) = true := by simp at hb ⊢; omega
          clear hb
          go_wp2_with (first | (go_at_call 118; (with_reducible refine (CL1.out _).mono ?_); rintro e w' ⟨rfl, n1, rfl⟩) | (go_at_call 119; (with_reducible refine (CD1.out _).mono ?_); rintro e w' ⟨rfl, n2, rfl⟩))
          go_roundw
          case rel => exact ⟨j + 1, _, rfl, by go_num, by omega⟩
          case measure => simp [intOf]; omega
    · obtain rfl : j = l.length := by omega
      go_wp2
      go_ret
      exact ⟨rfl, _, rfl⟩

/-! operands -/
/-- The operands of a shape, in the order of its text. -/
def opL : Nat → List Nat
  | 82 => [0, 1, 2]
  | 71 => [0, 1]
  | 73 => [0, 1, 3]
  | 67 => [0, 1, 3]
  | 72 => [0, 1, 3]
  | 83 => [2, 1, 3]
  | 66 => [1, 2, 3]
  | 85 => [0, 3]
  | 74 => [0, 3]
  | _ => []
/-- A slice of operands: nil, or a new block. -/
def OpsV (L : List Nat) (w : World) (e : Ending) (w' : World) : Prop :=
  (L = [] ∧ e = .returned (.slice none 0 0) ∧ w' = w) ∨ (L ≠ [] ∧ e = .returned (.slice (some ⟨w.heap.size, 0, none⟩) L.length L.length) ∧ w' = w.alloc (.cells (L.map (fun (k : Nat) => Value.int .i64 (k : Int))).toArray 3))

set_option maxHeartbeats 400000 in
theorem operands_R (w : World) : Calls Tryz.prog 44 #[.int .u8 82] w (OpsV (opL 82) w) := by
  go_enter Tryz.func44, Tryz.ntmps44
  go_wp2
  go_ret
  exact .inr ⟨by decide, rfl, rfl⟩

set_option maxHeartbeats 400000 in
theorem operands_G (w : World) : Calls Tryz.prog 44 #[.int .u8 71] w (OpsV (opL 71) w) := by
  go_enter Tryz.func44, Tryz.ntmps44
  go_wp2
  go_ret
  exact .inr ⟨by decide, rfl, rfl⟩

set_option maxHeartbeats 400000 in
theorem operands_I (w : World) : Calls Tryz.prog 44 #[.int .u8 73] w (OpsV (opL 73) w) := by
  go_enter Tryz.func44, Tryz.ntmps44
  go_wp2
  go_ret
  exact .inr ⟨by decide, rfl, rfl⟩

set_option maxHeartbeats 400000 in
theorem operands_C (w : World) : Calls Tryz.prog 44 #[.int .u8 67] w (OpsV (opL 67) w) := by
  go_enter Tryz.func44, Tryz.ntmps44
  go_wp2
  go_ret
  exact .inr ⟨by decide, rfl, rfl⟩

set_option maxHeartbeats 400000 in
theorem operands_H (w : World) : Calls Tryz.prog 44 #[.int .u8 72] w (OpsV (opL 72) w) := by
  go_enter Tryz.func44, Tryz.ntmps44
  go_wp2
  go_ret
  exact .inr ⟨by decide, rfl, rfl⟩

set_option maxHeartbeats 400000 in
theorem operands_S (w : World) : Calls Tryz.prog 44 #[.int .u8 83] w (OpsV (opL 83) w) := by
  go_enter Tryz.func44, Tryz.ntmps44
  go_wp2
  go_ret
  exact .inr ⟨by decide, rfl, rfl⟩

set_option maxHeartbeats 400000 in
theorem operands_B (w : World) : Calls Tryz.prog 44 #[.int .u8 66] w (OpsV (opL 66) w) := by
  go_enter Tryz.func44, Tryz.ntmps44
  go_wp2
  go_ret
  exact .inr ⟨by decide, rfl, rfl⟩

set_option maxHeartbeats 400000 in
theorem operands_U (w : World) : Calls Tryz.prog 44 #[.int .u8 85] w (OpsV (opL 85) w) := by
  go_enter Tryz.func44, Tryz.ntmps44
  go_wp2
  go_ret
  exact .inr ⟨by decide, rfl, rfl⟩

set_option maxHeartbeats 400000 in
theorem operands_J (w : World) : Calls Tryz.prog 44 #[.int .u8 74] w (OpsV (opL 74) w) := by
  go_enter Tryz.func44, Tryz.ntmps44
  go_wp2
  go_ret
  exact .inr ⟨by decide, rfl, rfl⟩

set_option maxHeartbeats 400000 in
theorem operands_N (w : World) : Calls Tryz.prog 44 #[.int .u8 78] w (OpsV (opL 78) w) := by
  go_enter Tryz.func44, Tryz.ntmps44
  go_wp2
  go_ret
  exact .inl ⟨rfl, rfl, rfl⟩

set_option maxHeartbeats 400000 in
theorem operands_0 (w : World) : Calls Tryz.prog 44 #[.int .u8 0] w (OpsV (opL 0) w) := by
  go_enter Tryz.func44, Tryz.ntmps44
  go_wp2
  go_ret
  exact .inl ⟨rfl, rfl, rfl⟩

theorem operands_any (s : Nat) (hs : IsShape s) (w : World) : Calls Tryz.prog 44 #[.int .u8 (s : Int)] w (OpsV (opL s) w) := by
  exact each_shape (P := fun (s : Nat) => Calls Tryz.prog 44 #[.int .u8 (s : Int)] w (OpsV (opL s) w)) ⟨operands_R w, operands_G w, operands_I w, operands_C w, operands_H w, operands_S w, operands_B w, operands_U w, operands_J w, operands_N w⟩ hs
end Go.Proofs.YtlommbeokbicjaaGreatDoor
