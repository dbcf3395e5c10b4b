/-
  What perm.permissionOf and perm.Text answer, and mintmarkref04.Text.
-/
import Derived.Test.YteakjajnaoiilaaDoorPermRef
import Derived.Laws.AppendOwn
namespace Go.Proofs.YteakjajnaoiilaaDoor
open Go.RowKit Words PermMath

def permI (c : Nat) : Int := if bitOf c = 9 then 0 else 2 ^ bitOf c
theorem permI_hit {c k : Nat} (h : k < 9) (e : letN k = c) : permI c = 2 ^ k := by
  unfold permI
  rw [bitOf_hit h e, if_neg (by omega)]
theorem permI_miss {c : Nat} (h : ∀ j, j < 9 → letN j ≠ c) : permI c = 0 := by
  unfold permI
  rw [bitOf_miss h, if_pos rfl]
theorem wrap_two (k : Nat) (h : k < 9) : IntKind.u64.wrap (2 ^ k) = 2 ^ k := by
  match k, h with
  | 0, _ => rfl
  | 1, _ => rfl
  | 2, _ => rfl
  | 3, _ => rfl
  | 4, _ => rfl
  | 5, _ => rfl
  | 6, _ => rfl
  | 7, _ => rfl
  | 8, _ => rfl
theorem index_let (k : Nat) (h : k < 9) (W : World) :
    (Instr.index 39 (.agg #[.int .i32 114, .int .i32 119, .int .i32 120, .int .i32 82, .int .i32 87, .int .i32 115, .int .i32 117, .int .i32 83, .int .i32 103]) (.int .i64 (k : Int))).run Tryd.prog W = .ok (.int .i32 (letN k : Int)) W := by
  match k, h with
  | 0, _ => rfl
  | 1, _ => rfl
  | 2, _ => rfl
  | 3, _ => rfl
  | 4, _ => rfl
  | 5, _ => rfl
  | 6, _ => rfl
  | 7, _ => rfl
  | 8, _ => rfl

set_option maxHeartbeats 1000000 in
theorem permissionOf_any (c : Nat) (w : World) (hT : TabL w) : Calls Tryd.prog 18 #[.int .i32 (c : Int)] w (Same (.int .u64 (permI c)) w) := by
  obtain ⟨c0, c1, c2, c3, c4, c5, c6, c7, c8⟩ := hT
  go_enter Tryd.func18, Tryd.ntmps18
  go_wp2
  go_loop [6] (fun i => ∃ k : Nat, k ≤ 9 ∧ i = .int .i64 k ∧ ∀ j, j < k → letN j ≠ c) (fun i => 9 - (intOf i).toNat)
  case atStart => exact ⟨0, by omega, rfl, fun j hj => by omega⟩
  case round =>
    obtain ⟨k, hk, rfl, hall⟩ := hrel
    have HA := hide hall
    clear hall
    by_cases h : k < 9
    · have hi := index_let k h
      by_cases he : letN k = c
      · have h1 : ((letN k : Int) == (c : Int)) = true := by rw [he]; simp
        have HV := hide (permI_hit h he)
        have hw := wrap_two k h
        clear he
        go_wp2
        go_ret
        exact ⟨ret_int (by rw [HV.out]), rfl⟩
      · have h1 : ((letN k : Int) == (c : Int)) = false := by simp; omega
        have HE := hide he
        clear he
        go_wp2
        go_round
        case rel => exact ⟨k + 1, by omega, by go_num, fun j hj => by
          by_cases hjk : j < k
          · exact HA.out j hjk
          · obtain rfl : j = k := by omega
            exact HE.out⟩
        case measure => simp [intOf]; omega
    · obtain rfl : k = 9 := by omega
      have HV := hide (permI_miss HA.out)
      go_wp2
      go_ret
      exact ⟨ret_int (by rw [HV.out]), rfl⟩

theorem within_bit (p : BitVec 64) (k : Nat) (h : k < 9) (w : World) : Calls Tryd.prog 9 #[.int .u64 (2 ^ k), .int .u64 (p.toNat : Int)] w (Same (.bool (p.toNat.testBit k)) w) := by
  have h1 := within_any (1#64 <<< k) p w
  have e1 : (((1#64 <<< k).toNat : Nat) : Int) = 2 ^ k := by
    rw [← shl_bv, show ((1#64).toNat : Int) = 1 by decide, Int.one_mul]
    exact wrap_two k h
  have e2 : withinB (1#64 <<< k) p = p.toNat.testBit k := by
    rw [Bool.eq_iff_iff, withinB_iff]
    constructor
    · intro hh
      exact hh k (by omega) (by rw [BitVec.getLsbD_shiftLeft, BitVec.getLsbD_one]; simp; omega)
    · intro hh i hi h2
      rw [BitVec.getLsbD_shiftLeft, BitVec.getLsbD_one] at h2
      simp at h2
      obtain rfl : i = k := by omega
      exact hh
  rw [e1, e2] at h1
  exact h1
theorem within_all (p : BitVec 64) (w : World) : Calls Tryd.prog 9 #[.int .u64 (p.toNat : Int), .int .u64 511] w (Same (.bool (decide (p.toNat < 512))) w) := by
  have h1 := within_any p 511#64 w
  have e2 : withinB p 511#64 = decide (p.toNat < 512) := by
    rw [Bool.eq_iff_iff, withinB_iff, decide_eq_true_eq]
    constructor
    · intro hh
      have : p = p &&& 511#64 := ext64 fun i hi => by
        rw [BitVec.getLsbD_and]
        cases hp : p.getLsbD i with
        | false => rfl
        | true => rw [hh i hi hp]; rfl
      rw [this, BitVec.toNat_and]
      exact Nat.lt_of_le_of_lt Nat.and_le_right (by decide)
    · intro hh i hi h2
      have h9 : i < 9 := by
        have : p.toNat.testBit i = true := h2
        have h3 := Nat.ge_two_pow_of_testBit this
        have : ¬ 9 ≤ i := fun h9 => by
          have := Nat.pow_le_pow_right (show 0 < 2 by decide) h9
          omega
        omega
      match i, h9 with
      | 0, _ => rfl
      | 1, _ => rfl
      | 2, _ => rfl
      | 3, _ => rfl
      | 4, _ => rfl
      | 5, _ => rfl
      | 6, _ => rfl
      | 7, _ => rfl
      | 8, _ => rfl
  rw [e2] at h1
  exact h1

theorem infoInt32 : (Tryd.prog.info? 21).map (fun i => (i.zero, i.size, i.bytes)) = some (some (.int .i32 0), 1, 4) := by kernel_rfl
def runesV (l : List Nat) : List Value := l.map fun c : Nat => Value.int .i32 (c : Int)
theorem base_of {W : World} {base : Nat} {e : TypeId} {size k : Nat} {v : Value} {xs : List Value} (h : W.ownsRow base e size v k xs) (j : Nat) (ej : v.ownBlock = some j) : base ≤ j := by
  rcases h.2 with ⟨rfl, _⟩ | ⟨g, cap, cur, rfl, hb, _, _⟩
  · simp [Value.ownBlock] at ej
  · obtain rfl : g = j := by simpa [Value.ownBlock] using ej
    exact hb
/-- The runes of a row of one's own, as a string. -/
theorem runes_out {W : World} {base : Nat} {v : Value} {l : List Nat} (h : W.ownsRow base 21 1 v l.length (runesV l)) (hl : ∀ c ∈ l, c < 128) :
    (convert 38 9 v).run Tryd.prog W = .ok (.string (bytesOf l)) W := by
  rcases h.2 with ⟨rfl, h0⟩ | ⟨g, cap, cur, rfl, hb, hg, hnc, hcm, hsz, htake⟩
  · have : l = [] := List.length_eq_zero_iff.1 h0
    subst this
    exact run_convert_runes_nil W _ _ 21 0 0 rfl rfl rfl
  · have := run_convert_runes (P := Tryd.prog) W 38 9 21 ⟨g, 0, none⟩ l.length cap (l.map fun c : Nat => (c : Int)) (by simp) rfl rfl rfl (fun j hj => by
      have hj' : j < l.length := by simpa using hj
      have := h.cells (g := g) rfl j (.int .i32 ((l[j] : Nat) : Int)) (by simp [runesV, hj'])
      rw [this]
      simp [hj'])
    rw [this, List.take_of_length_le (by simp), runesBytes_ascii l hl]

set_option maxHeartbeats 2000000 in
theorem text_any (p : BitVec 64) (w : World) (hT : TabL w) : Calls Tryd.prog 11 #[.int .u64 (p.toNat : Int)] w (Makes (.string (bytesOf (textN p.toNat))) w) := by
  obtain ⟨i0, hi, hz0, hz1, hz2⟩ := info_parts infoInt32
  have hT' := hide hT
  obtain ⟨c0, c1, c2, c3, c4, c5, c6, c7, c8⟩ := hT
  have CA := hide (fun W => within_all p W)
  have CB := hide (fun k h W => within_bit p k h W)
  obtain ⟨m, hm⟩ : ∃ m, p.toNat = m := ⟨_, rfl⟩
  rw [hm] at CA CB ⊢
  clear hm
  go_enter Tryd.func11, Tryd.ntmps11
  go_wp2
  go_loopw [3, 7] (fun s i wr => ∃ k : Nat, k ≤ 9 ∧ i = .int .i64 k ∧ wr.ownsRow w.heap.size 21 1 s (textTo m k).length (runesV (textTo m k)) ∧ Below w.heap.size w wr) (fun _ i _ => 9 - (intOf i).toNat)
  case atStart => exact ⟨0, by omega, rfl, (World.ownsRow_nil w w.heap.size 21 1 : _), Below.refl _ _⟩
  case round s =>
    obtain ⟨k, hk, rfl, hown, hbel⟩ := hrel
    have hsz := hbel.size
    by_cases h : k < 9
    · have hx := index_let k h
      have hw := wrap_two k h
      have hln := (textTo_lt m k hk).2
      have C1 := CB.out k h
      cases hb : m.testBit k with
      | true =>
        rw [hb] at C1
        have C2 := hide C1
        have HH := hide (textTo_hit hb)
        clear hb C1
        go_wp2_with (first | (go_at_call 9; (with_reducible refine (C2.out _).mono ?_); rintro e w' ⟨rfl, rfl⟩) | (at_builtin; refine wpList_append_own _ rfl _ _ 38 rfl w.heap.size 21 i0 (.int .i32 0) 1 4 Tryd.underlying38 hi hz0 hz1 hz2 rfl (by decide) _ _ _ rfl (hown.alloc _) ⟨wr.heap.size, 0, none⟩ 1 1 [.int .i32 (letN k : Int)] rfl rfl (cell_one_new _ _ _) (fun x hx => by simp at hx; subst hx; rfl) (by unfold maxLen; omega) (by omega) (by simp; omega) ?_; intro v' w3 hown' hgrow3 hnil3))
        go_roundw
        case rel => exact ⟨k + 1, by omega, by go_num, by rw [HH.out]; simpa [runesV] using hown', (hbel.alloc hsz _).grown hgrow3 (by simp; omega) (base_of hown)⟩
        case measure => simp [intOf]; omega
      | false =>
        rw [hb] at C1
        have C2 := hide C1
        have HH := hide (textTo_miss hb)
        clear hb C1
        go_wp2_with (first | (go_at_call 9; (with_reducible refine (C2.out _).mono ?_); rintro e w' ⟨rfl, rfl⟩))
        go_roundw
        case rel => exact ⟨k + 1, by omega, by go_num, by rw [HH.out]; exact hown, hbel⟩
        case measure => simp [intOf]; omega
    · obtain rfl : k = 9 := by omega
      have hln := (textTo_lt m 9 (by omega)).2
      have hlt := textN_lt m
      by_cases hm : m < 512
      · have C1 := CA.out
        rw [decide_eq_true hm] at C1
        have C2 := hide C1
        have ht : textN m = textTo m 9 := by unfold textN; rw [if_pos hm]; simp
        have HT := hide ht
        have hout := runes_out hown (by rw [← ht]; exact hlt.1)
        clear C1 hm ht
        go_wp2_with (first | (go_at_call 9; (with_reducible refine (C2.out _).mono ?_); rintro e w' ⟨rfl, rfl⟩))
        go_ret
        exact ⟨by rw [HT.out]; rfl, hbel⟩
      · have C1 := CA.out
        rw [decide_eq_false hm] at C1
        have C2 := hide C1
        have ht : textN m = textTo m 9 ++ [43] := by unfold textN; rw [if_neg hm]
        have HT := hide ht
        rw [ht] at hlt
        clear C1 hm ht
        go_wp2_with (first | (go_at_call 9; (with_reducible refine (C2.out _).mono ?_); rintro e w' ⟨rfl, rfl⟩) | (at_builtin; refine wpList_append_own _ rfl _ _ 38 rfl w.heap.size 21 i0 (.int .i32 0) 1 4 Tryd.underlying38 hi hz0 hz1 hz2 rfl (by decide) _ _ _ rfl (hown.alloc _) ⟨wr.heap.size, 0, none⟩ 1 1 [.int .i32 43] rfl rfl (cell_one_new _ _ _) (fun x hx => by simp at hx; subst hx; rfl) (by unfold maxLen; omega) (by omega) (by simp; omega) ?_; intro v' w3 hown' hgrow3 hnil3; have hout := runes_out (l := textTo m 9 ++ [43]) (by simpa [runesV] using hown') hlt.1))
        go_ret
        exact ⟨by rw [HT.out]; rfl, (hbel.alloc hsz _).grown hgrow3 (by simp; omega) (base_of hown)⟩

end Go.Proofs.YteakjajnaoiilaaDoor
