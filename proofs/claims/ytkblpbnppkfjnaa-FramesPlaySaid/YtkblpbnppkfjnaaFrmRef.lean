/-
  The document's pools: a row of bools, of each number whether it is taken; what New, with, Take, Give, All answer.
-/
import Derived.Test.YtkblpbnppkfjnaaFrm4
import Derived.Laws.AppendOwn
namespace Go.Proofs.Ytkblpbnppkfjnaa
open Go.RowKit Words ScaleMath FrmMath

theorem infoBool : (Try.prog.info? 4).map (fun i => (i.zero, i.size, i.bytes)) = some (some (.bool false), 1, 1) := by kernel_rfl
/-- Of the numbers below n, whether they are taken. -/
def BL (n : Nat) (T : BitVec 64) : List Value := (List.range n).map (fun i => Value.bool (T.getLsbD i))
theorem BL_length (n : Nat) (T : BitVec 64) : (BL n T).length = n := by simp [BL]
theorem BL_get (n : Nat) (T : BitVec 64) (i : Nat) (h : i < n) : (BL n T)[i]? = some (.bool (T.getLsbD i)) := by simp [BL, h]
theorem BL_one (n : Nat) (T : BitVec 64) : ∀ u ∈ BL n T, u.oneCell' = true := by
  intro u hu
  simp only [BL, List.mem_map] at hu
  obtain ⟨i, _, rfl⟩ := hu
  rfl
theorem BL_succ (n : Nat) (T : BitVec 64) : BL (n + 1) T = BL n T ++ [.bool (T.getLsbD n)] := by simp [BL, List.range_succ]
theorem BL_set (n : Nat) (T : BitVec 64) (k : Nat) (hn : n ≤ 64) : BL n (setW T k) = (BL n T).set k (.bool true) := by
  refine List.ext_getElem? fun i => ?_
  rw [List.getElem?_set]
  by_cases hi : i < n
  · rw [BL_get _ _ _ hi, BL_get _ _ _ hi, set_bit _ _ _ (by omega), BL_length, Int.toNat_natCast]
    by_cases e : k = i
    · subst e; simp [hi]
    · have e2 : ¬ i = k := fun x => e x.symm
      simp [e, e2]
  · rw [List.getElem?_eq_none (by rw [BL_length]; omega), List.getElem?_eq_none (by rw [BL_length]; omega), BL_length]
    split
    · split
      · omega
      · rfl
    · rfl
theorem BL_clr (n : Nat) (T : BitVec 64) (k : Nat) (hn : n ≤ 64) : BL n (clrW T k) = (BL n T).set k (.bool false) := by
  refine List.ext_getElem? fun i => ?_
  rw [List.getElem?_set]
  by_cases hi : i < n
  · rw [BL_get _ _ _ hi, BL_get _ _ _ hi, clr_bit _ _ _ (by omega), BL_length, Int.toNat_natCast]
    by_cases e : k = i
    · subst e; simp [hi]
    · have e2 : ¬ i = k := fun x => e x.symm
      simp [e, e2]
  · rw [List.getElem?_eq_none (by rw [BL_length]; omega), List.getElem?_eq_none (by rw [BL_length]; omega), BL_length]
    split
    · split
      · omega
      · rfl
    · rfl
theorem row_set {W : World} {g k : Nat} {l : List Value} {u : Value} (h : Row W g l) : Row (W.setCell ⟨g, k, none⟩ u) g (l.set k u) := by
  intro i v hv
  rw [List.getElem?_set] at hv
  split at hv
  · rename_i e
    subst e
    split at hv
    · rename_i hl
      injection hv with hv
      subst hv
      exact cell_same _ _ _ (by rw [h k l[k] (by simp [hl])]; rfl)
    · cases hv
  · rename_i e
    exact (World.cell?_setCell_other _ _ _ _ (fun x => e (congrArg Addr.off x))).trans (h i v hv)
theorem add_at (g j : Nat) : (⟨g, 0, none⟩ : Addr).add j = ⟨g, j, none⟩ := by unfold Addr.add; split <;> simp_all
theorem own_made {W : World} {e : TypeId} {base n : Nat} (h : W.heap.size = n) (hb : base ≤ n) : (W.alloc (.cells #[] e)).ownsRow base e 1 (.slice (some ⟨n, 0, none⟩) 0 0) 0 [] := by
  subst h
  exact World.ownsRow_made _ _ 0 hb (by unfold maxLen; omega) rfl
/-- 'append' onto a slice of the call's own: behind it the slice's row is told, that it may be written, and that nothing below 'base' has turned. -/
theorem wpList_append_row {P : Program} {w : World} {ops : Array Oper} {rest : List Oper} {o : Oper} {a : Act} {Q : Exit → Act → World → Prop} (hgd : o.guard = none) (s x : Operand) (t : TypeId)
    (ho : o.op = .call { callee := .builtin .append, args := #[s, x], argTypes := #[t, t] })
    (base : Nat) (e : TypeId) (i : TypeInfo) (z : Value) (bytes : Nat) (ht : P.underlying t = some (.slice e)) (hi : P.info? e = some i) (hz : i.zero = some z)
    (hsize : i.size = 1) (hby : i.bytes = bytes) (hzs : z.cells.size = 1)
    (v : Value) (n : Nat) (xs : List Value) (hs : a.eval s = v) (hown : w.ownsRow base e 1 v n xs)
    (g m c : Nat) (news : List Value) (hx : a.eval x = .slice (some ⟨g, 0, none⟩) m c) (hl : news.length = m) (hnews : Row w g news) (h1 : ∀ u ∈ news, u.oneCell' = true)
    (hm : 1 ≤ m) (h63 : n + m ≤ maxLen) (hbytes : (n + m) * bytes ≤ 140737488355328) (hbase : base ≤ w.heap.size)
    (h : ∀ g' c' w', base ≤ g' → g' < w'.heap.size → n + m ≤ c' → Row w' g' (xs ++ news) → (∀ i, w'.frozen? ⟨g', i, none⟩ = false) → Below base w w' → wpList P ops Q rest (a.put o.dst (.slice (some ⟨g', 0, none⟩) (n + m) c')) w') : wpList P ops Q (o :: rest) a w := by
  refine wpList_append_own _ hgd s x t ho base e i z 1 bytes ht hi hz hsize hby hzs (by omega) v n xs hs hown ⟨g, 0, none⟩ m c news hx (by omega) (fun j u hj => by rw [add_at]; exact hnews j u hj) h1 h63 hbytes hbase ?_
  intro v' w' hown' hgrow _
  have hbel : Below base w w' := (Below.refl base w).grown hgrow hbase (fun k hk => (hown.lt k hk).1)
  rcases hown'.2 with ⟨_, h0⟩ | ⟨g', c', cur, rfl, hb, hg, hc, _⟩
  · omega
  · exact h g' c' w' hb (hown'.lt g' rfl).2 hc (fun j u hj => by have := hown'.cells (g := g') rfl j u hj; rwa [add_at] at this) (fun i => by simp [World.frozen?, hg]) hbel

set_option maxHeartbeats 1000000 in
theorem rnew_bad (n : Int) (h : n < 1 ∨ 64 < n) (w : World) : Calls Try.prog 7 #[.int .i64 n] w (Makes (.tuple #[.slice none 0 0, .int .i64 2]) w) := by
  by_cases h1 : n < 1
  · go_enter Try.func7, Try.ntmps7
    go_wp2
    go_ret2
    exact ⟨rfl, Below.refl _ _⟩
  · have h2 : 64 < n := by omega
    go_enter Try.func7, Try.ntmps7
    go_wp2
    go_ret2
    exact ⟨rfl, Below.refl _ _⟩

/-- The document's pool: n numbers, of which T are taken. -/
def Doc (W : World) (base : Nat) (v : Value) (n : Nat) (T : BitVec 64) : Prop := ∃ g c, v = .slice (some ⟨g, 0, none⟩) n c ∧ base ≤ g ∧ g < W.heap.size ∧ Row W g (BL n T)

set_option maxRecDepth 100000 in
set_option maxHeartbeats 2000000 in
theorem rnew_at (n : Nat) (h1 : 1 ≤ n) (h2 : n ≤ 64) (w : World) : Calls Try.prog 7 #[.int .i64 (n : Int)] w fun e W' =>
    ∃ v, e = .returned (.tuple #[v, .int .i64 0]) ∧ Doc W' w.heap.size v n 0#64 ∧ Below w.heap.size w W' := by
  obtain ⟨i0, hi, hz0, hz1, hz2⟩ := info_parts infoBool
  go_enter Try.func7, Try.ntmps7
  go_wp2
  go_loopw [4, 5] (fun s i wr => ∃ k : Nat, k ≤ n ∧ i = .int .i64 k ∧ wr.ownsRow w.heap.size 4 1 s k (BL k 0#64) ∧ Below w.heap.size w wr) (fun _ i _ => n - (intOf i).toNat)
  case atStart => exact ⟨0, by omega, rfl, World.ownsRow_nil _ _ _ _, Below.refl _ _⟩
  case round s =>
    obtain ⟨k, hk, rfl, hown, hbel⟩ := hrel
    by_cases hl : k < n
    · have hsz := hbel.size
      have HH := hide (BL_succ k 0#64)
      go_wp2_with (at_builtin; refine wpList_append_own _ rfl _ _ 28 rfl w.heap.size 4 i0 (.bool false) 1 1 Try.underlying28 hi hz0 hz1 hz2 rfl (by decide) _ _ _ rfl (hown.alloc _) ⟨wr.heap.size, 0, none⟩ 1 1 [.bool false] rfl rfl (cell_one_new _ _ _) (fun x hx => by simp at hx; subst hx; rfl) (by unfold maxLen; omega) (by omega) (by simp; omega) ?_; intro v' w3 hown' hgrow3 hnil3)
      go_roundw
      case rel => exact ⟨k + 1, by omega, by go_num, by rw [HH.out]; simpa using hown', (hbel.alloc hsz _).grown hgrow3 (by simp; omega) (row_base hown)⟩
      case measure => simp [intOf]; omega
    · obtain rfl : k = n := by omega
      obtain ⟨g, cap, rfl, hc1, hc2, hc3, hc4⟩ := owns_cell hown (by omega)
      have HR : Hid (Row wr g (BL k 0#64)) := hide hc4
      clear hown hc4
      go_wp2
      go_ret2
      exact ⟨_, rfl, ⟨g, cap, rfl, hc2, hc3, HR.out⟩, hbel⟩

set_option maxRecDepth 100000 in
set_option maxHeartbeats 2000000 in
theorem rwith_at (g c n : Nat) (T S : BitVec 64) (h1 : 1 ≤ n) (h2 : n ≤ 64) (k : Nat) (hk : k < n) (x : Bool) (hS : BL n S = (BL n T).set k (.bool x)) (w : World) (_hg : g < w.heap.size) (hr : Row w g (BL n T)) :
    Calls Try.prog 19 #[.slice (some ⟨g, 0, none⟩) n c, .int .i64 (k : Int), .bool x] w fun e W' => ∃ v, e = .returned v ∧ Doc W' w.heap.size v n S ∧ Below w.heap.size w W' := by
  obtain ⟨i0, hi, hz0, hz1, hz2⟩ := info_parts infoBool
  have HR := hide hr
  have HS := hide hS
  have hln := BL_length n T
  have H1 := hide (BL_one n T)
  have HK := hide (BL_get n T k hk)
  have hkn : (k : Int) < (n : Int) := by omega
  have hk0 : (0 : Int) ≤ (k : Int) := by omega
  clear hr hS
  generalize BL n T = l at *
  go_enter Try.func19, Try.ntmps19
  go_wp2_with (at_builtin; refine wpList_append_row rfl _ _ 28 rfl w.heap.size 4 i0 (.bool false) 1 Try.underlying28 hi hz0 hz1 hz2 rfl (.slice (some ⟨w.heap.size, 0, none⟩) 0 0) 0 [] rfl (own_made (by simp) (by omega)) g n c l rfl hln (k_al _ HR.out) H1.out (by omega) (by unfold maxLen; omega) (by omega) (by simp) ?_; intro g1 c1 w1 hb1 hl1 hc1 hr1 hf1 hbel1; simp only [Nat.zero_add, List.nil_append] at hr1 hc1; have hck := hr1 k _ HK.out; have hfk := hf1 k; have HR1 := hide hr1; clear hr1)
  go_ret
  refine ⟨_, rfl, ⟨g1, c1, rfl, hb1, by simpa using hl1, ?_⟩, ?_⟩
  · rw [HS.out]
    exact row_set HR1.out
  · exact (((Below.refl _ w).alloc (Nat.le_refl _) _).trans hbel1).setCell (p := ⟨g1, k, none⟩) hb1 _

set_option maxRecDepth 100000 in
set_option maxHeartbeats 2000000 in
theorem rtake_room (g c n : Nat) (T : BitVec 64) (h1 : 1 ≤ n) (h2 : n ≤ 64) (k : Nat) (hk : k < n) (hf : T.getLsbD k = false) (hlow : ∀ j, j < k → T.getLsbD j = true) (w : World) (hg : g < w.heap.size) (hr : Row w g (BL n T)) :
    Calls Try.prog 9 #[.slice (some ⟨g, 0, none⟩) n c] w fun e W' => ∃ v, e = .returned (.tuple #[v, .int .i64 (k : Int), .int .i64 0]) ∧ Doc W' w.heap.size v n (setW T k) ∧ Below w.heap.size w W' := by
  have CW := hide (rwith_at g c n T (setW T k) h1 h2 k hk true (BL_set n T k h2) w hg hr)
  have HC : Hid (∀ i : Nat, i < n → w.cell? ⟨g, i, none⟩ = some (.bool (T.getLsbD i))) := hide (fun i hi => hr i _ (BL_get n T i hi))
  have HL := hide hlow
  have HF := hide hf
  clear hr hlow hf
  go_enter Try.func9, Try.ntmps9
  go_wp2
  go_loopw [5] (fun i wr => ∃ j : Nat, j ≤ k ∧ i = .int .i64 j ∧ wr = w) (fun i _ => k - (intOf i).toNat)
  case atStart => exact ⟨0, by omega, rfl, rfl⟩
  case round =>
    obtain ⟨j, hj, rfl, rfl⟩ := hrel
    have hc := HC.out j (by omega)
    have hjn : (j : Int) < (n : Int) := by omega
    have hj0 : (0 : Int) ≤ (j : Int) := by omega
    by_cases e : j = k
    · subst e
      rw [HF.out] at hc
      go_wp2_with (go_at_call 19; refine CW.out.mono ?_; rintro e w' ⟨v, rfl, hd, hb1⟩; obtain ⟨g1, c1, rfl, hg1, hl1, hr1⟩ := hd; have HR1 := hide hr1; clear hr1)
      refine bodyPost_ret (v := .tuple #[.slice (some ⟨g1, 0, none⟩) n c1, .int .i64 (j : Int), .int .i64 0]) (by simp (maxDischargeDepth := 4) [results, Try.results9, go_sem, *]) rfl ?_
      exact ⟨_, rfl, ⟨g1, c1, rfl, hg1, hl1, HR1.out⟩, hb1⟩
    · rw [HL.out j (by omega)] at hc
      go_wp2
      go_roundw
      case rel => exact ⟨j + 1, by omega, by go_num, by first | rfl | trivial⟩
      case measure => simp [intOf]; omega

set_option maxRecDepth 100000 in
set_option maxHeartbeats 2000000 in
theorem rtake_full (g c n : Nat) (T : BitVec 64) (h2 : n ≤ 64) (hall : ∀ j, j < n → T.getLsbD j = true) (w : World) (hr : Row w g (BL n T)) :
    Calls Try.prog 9 #[.slice (some ⟨g, 0, none⟩) n c] w (Makes (.tuple #[.slice (some ⟨g, 0, none⟩) n c, .int .i64 0, .int .i64 15]) w) := by
  have HC : Hid (∀ i : Nat, i < n → w.cell? ⟨g, i, none⟩ = some (.bool true)) := hide (fun i hi => by have := hr i _ (BL_get n T i hi); rwa [hall i hi] at this)
  clear hr hall
  go_enter Try.func9, Try.ntmps9
  go_wp2
  go_loopw [5] (fun i wr => ∃ j : Nat, j ≤ n ∧ i = .int .i64 j ∧ wr = w) (fun i _ => n - (intOf i).toNat)
  case atStart => exact ⟨0, by omega, rfl, rfl⟩
  case round =>
    obtain ⟨j, hj, rfl, rfl⟩ := hrel
    have hj0 : (0 : Int) ≤ (j : Int) := by omega
    by_cases e : j < n
    · have hc := HC.out j e
      have hjn : (j : Int) < (n : Int) := by omega
      go_wp2
      go_roundw
      case rel => exact ⟨j + 1, by omega, by go_num, by first | rfl | trivial⟩
      case measure => simp [intOf]; omega
    · obtain rfl : j = n := by omega
      go_wp2
      refine bodyPost_ret (v := .tuple #[.slice (some ⟨g, 0, none⟩) j c, .int .i64 0, .int .i64 15]) (by simp (maxDischargeDepth := 4) [results, Try.results9, go_sem, *]) rfl ?_
      exact ⟨rfl, Below.refl _ _⟩

set_option maxHeartbeats 1000000 in
theorem rgive_hasnt (g c n : Nat) (x : Int) (hx : x < 0 ∨ (n : Int) ≤ x) (w : World) : Calls Try.prog 11 #[.slice (some ⟨g, 0, none⟩) n c, .int .i64 x] w (Makes (.tuple #[.slice (some ⟨g, 0, none⟩) n c, .int .i64 2]) w) := by
  by_cases h : x < 0
  · go_enter Try.func11, Try.ntmps11
    go_wp2
    go_ret2
    exact ⟨rfl, Below.refl _ _⟩
  · have h2 : (n : Int) ≤ x := by omega
    go_enter Try.func11, Try.ntmps11
    go_wp2
    go_ret2
    exact ⟨rfl, Below.refl _ _⟩

set_option maxHeartbeats 1000000 in
theorem rgive_free (g c n : Nat) (T : BitVec 64) (k : Nat) (hk : k < n) (hf : T.getLsbD k = false) (w : World) (hr : Row w g (BL n T)) : Calls Try.prog 11 #[.slice (some ⟨g, 0, none⟩) n c, .int .i64 (k : Int)] w (Makes (.tuple #[.slice (some ⟨g, 0, none⟩) n c, .int .i64 13]) w) := by
  have hc := hr k _ (BL_get n T k hk)
  rw [hf] at hc
  have hkn : (k : Int) < (n : Int) := by omega
  have hk0 : (0 : Int) ≤ (k : Int) := by omega
  clear hr hf
  go_enter Try.func11, Try.ntmps11
  go_wp2
  go_ret2
  exact ⟨rfl, Below.refl _ _⟩

set_option maxRecDepth 100000 in
set_option maxHeartbeats 1000000 in
theorem rgive_yes (g c n : Nat) (T : BitVec 64) (h1 : 1 ≤ n) (h2 : n ≤ 64) (k : Nat) (hk : k < n) (hf : T.getLsbD k = true) (w : World) (hg : g < w.heap.size) (hr : Row w g (BL n T)) : Calls Try.prog 11 #[.slice (some ⟨g, 0, none⟩) n c, .int .i64 (k : Int)] w fun e W' =>
    ∃ v, e = .returned (.tuple #[v, .int .i64 0]) ∧ Doc W' w.heap.size v n (clrW T k) ∧ Below w.heap.size w W' := by
  have CW := hide (rwith_at g c n T (clrW T k) h1 h2 k hk false (BL_clr n T k h2) w hg hr)
  have hc := hr k _ (BL_get n T k hk)
  rw [hf] at hc
  have hkn : (k : Int) < (n : Int) := by omega
  have hk0 : (0 : Int) ≤ (k : Int) := by omega
  clear hr hf
  go_enter Try.func11, Try.ntmps11
  go_wp2_with (go_at_call 19; refine CW.out.mono ?_; rintro e w' ⟨v, rfl, hd, hb1⟩; obtain ⟨g1, c1, rfl, hg1, hl1, hr1⟩ := hd; have HR1 := hide hr1; clear hr1)
  go_ret2
  exact ⟨_, rfl, ⟨g1, c1, rfl, hg1, hl1, HR1.out⟩, hb1⟩

set_option maxRecDepth 100000 in
set_option maxHeartbeats 2000000 in
theorem rall_at (g c n : Nat) (T : BitVec 64) (h2 : n ≤ 64) (hT : onesL T = onesTo T n) (w : World) (hr : Row w g (BL n T)) : Calls Try.prog 13 #[.slice (some ⟨g, 0, none⟩) n c] w fun e W' =>
    ∃ v, e = .returned v ∧ Ints W' w.heap.size v (onesL T) ∧ Below w.heap.size w W' := by
  obtain ⟨i0, hi, hz0, hz1, hz2⟩ := info_parts infoInt
  have HC : Hid (∀ i : Nat, i < n → w.cell? ⟨g, i, none⟩ = some (.bool (T.getLsbD i))) := hide (fun i hi => hr i _ (BL_get n T i hi))
  have HG : Hid (1 ≤ n → g < w.heap.size) := hide (fun h => World.block_lt_of_cell? _ _ (HC.out 0 (by omega)))
  have HT := hide hT
  clear hr hT
  go_enter Try.func13, Try.ntmps13
  go_wp2
  go_loopw [3, 4] (fun s i wr => ∃ k : Nat, k ≤ n ∧ i = .int .i64 k ∧ wr.ownsRow w.heap.size 3 1 s (onesTo T k).length ((onesTo T k).map (Value.int .i64)) ∧ Below w.heap.size w wr) (fun _ i _ => n - (intOf i).toNat)
  case atStart => exact ⟨0, by omega, rfl, World.ownsRow_nil _ _ _ _, Below.refl _ _⟩
  case round s =>
    obtain ⟨k, hk, rfl, hown, hbel⟩ := hrel
    have hk0 : (0 : Int) ≤ (k : Int) := by omega
    by_cases h3 : k < n
    · have hsz := hbel.size
      have hln := onesTo_length T k
      have hkn : (k : Int) < (n : Int) := by omega
      have hc := (hbel.cell (p := ⟨g, k, none⟩) (HG.out (by omega))).trans (HC.out k h3)
      cases hb : T.getLsbD k with
      | true =>
        rw [hb] at hc
        have HH := hide (onesTo_hit T k hb)
        clear hb
        go_wp2_with (at_builtin; refine wpList_append_own _ rfl _ _ 22 rfl w.heap.size 3 i0 (.int .i64 0) 1 8 Try.underlying22 hi hz0 hz1 hz2 rfl (by decide) _ _ _ rfl (hown.alloc _) ⟨wr.heap.size, 0, none⟩ 1 1 [.int .i64 (k : Int)] rfl rfl (cell_one_new _ _ _) (fun x hx => by simp at hx; subst hx; rfl) (by unfold maxLen; omega) (by omega) (by simp; omega) ?_; intro v' w3 hown' hgrow3 hnil3)
        go_roundw
        case rel => exact ⟨k + 1, by omega, by go_num, by rw [HH.out]; simpa using hown', (hbel.alloc hsz _).grown hgrow3 (by simp; omega) (row_base hown)⟩
        case measure => simp [intOf]; omega
      | false =>
        rw [hb] at hc
        have HH := hide (onesTo_miss T k hb)
        clear hb
        go_wp2
        go_roundw
        case rel => exact ⟨k + 1, by omega, by go_num, by rw [HH.out]; exact hown, hbel⟩
        case measure => simp [intOf]; omega
    · obtain rfl : k = n := by omega
      go_wp2
      go_ret
      exact ⟨_, rfl, by rw [HT.out]; exact hown, hbel⟩
end Go.Proofs.Ytkblpbnppkfjnaa
