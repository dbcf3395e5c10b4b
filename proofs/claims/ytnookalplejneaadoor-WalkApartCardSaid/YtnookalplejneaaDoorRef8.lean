/-
  The document's memory of eight frames, as a list of the bytes that were laid: what New, may, untag, lay, Store answer.
-/
import Derived.Test.YtnookalplejneaaDoorRamMath
import Derived.Test.YtnookalplejneaaDoorMore
import Derived.Test.YtnookalplejneaaDoorStored
import Derived.Laws.AppendOwn
import Derived.Laws.AppendOwnNone
namespace Go.Proofs.YtnookalplejneaaDoor
open Go.RowKit Words

/-- A slice that holds a list. -/
def Sl (W : World) (s : Option Addr) (n c : Nat) (l : List Value) : Prop := n = l.length ∧ ((s = none ∧ c = 0 ∧ l = []) ∨ ∃ g, s = some ⟨g, 0, none⟩ ∧ n ≤ c ∧ Row W g l ∧ l ≠ [])
theorem sl_be {W W' : World} {s : Option Addr} {n c : Nat} {l : List Value} (hb : Below W.heap.size W W') (h : Sl W s n c l) : Sl W' s n c l := by
  obtain ⟨h0, h⟩ := h
  refine ⟨h0, ?_⟩
  rcases h with h | ⟨g, h1, h2, h3, h4⟩
  · exact .inl h
  · exact .inr ⟨g, h1, h2, k_be hb h3, h4⟩
/-- No block of the slice is that one; it begins from there on. -/
def Away (n : Nat) (s : Option Addr) : Prop := ∀ g, s = some ⟨g, 0, none⟩ → g ≠ n
def From (n : Nat) (s : Option Addr) : Prop := ∀ g, s = some ⟨g, 0, none⟩ → n ≤ g
theorem sl_set {W : World} {s : Option Addr} {n c : Nat} {l : List Value} {p : Addr} {u : Value} (h : Sl W s n c l) (ha : Away p.block s) : Sl (W.setCell p u) s n c l := by
  obtain ⟨h0, h⟩ := h
  refine ⟨h0, ?_⟩
  rcases h with h | ⟨g, h1, h2, h3, h4⟩
  · exact .inl h
  · exact .inr ⟨g, h1, h2, k_set (fun e => ha g h1 e.symm) h3, h4⟩
theorem Sl.old {W : World} {s : Option Addr} {n c : Nat} {l : List Value} (h : Sl W s n c l) {m : Nat} (hm : W.heap.size ≤ m) : Away m s := fun g hg => by
  obtain ⟨_, h⟩ := h
  rcases h with ⟨rfl, _⟩ | ⟨g', h1, _, h3, h4⟩
  · cases hg
  · rw [h1] at hg
    cases hg
    cases l with
    | nil => exact absurd rfl h4
    | cons u l =>
      have : g < W.heap.size := World.block_lt_of_cell? W _ (h3 0 u rfl)
      omega
theorem infoU : (Tryd.prog.info? 23).map (fun i => (i.zero, i.size, i.bytes)) = some (some (.int .u64 0), 1, 8) := by kernel_rfl
theorem infoB : (Tryd.prog.info? 5).map (fun i => (i.zero, i.size, i.bytes)) = some (some (.int .u8 0), 1, 1) := by kernel_rfl
def numA (L : List (Nat × BitVec 8)) : List Value := L.map (fun x => .int .u64 (x.1 : Int))
def numV (L : List (Nat × BitVec 8)) : List Value := L.map (fun x => .int .u8 (x.2.toNat : Int))
/-- The document's memory where these bytes were laid, in this order. -/
def RefM (W : World) (v : Value) (L : List (Nat × BitVec 8)) : Prop := ∃ sa na ca sb nb cb, v = .agg #[.int .i64 8, .slice sa na ca, .slice sb nb cb, .slice none 0 0] ∧ Sl W sa na ca (numA L) ∧ Sl W sb nb cb (numV L)
theorem refm_be {W W' : World} {v : Value} {L : List (Nat × BitVec 8)} (hb : Below W.heap.size W W') (h : RefM W v L) : RefM W' v L := by
  obtain ⟨sa, na, ca, sb, nb, cb, h0, h1, h2⟩ := h
  exact ⟨sa, na, ca, sb, nb, cb, h0, sl_be hb h1, sl_be hb h2⟩

set_option maxRecDepth 100000 in
set_option maxHeartbeats 1000000 in
theorem rnew_any (w : World) : Calls Tryd.prog 25 #[.int .i64 8] w (Makes (.tuple #[.agg #[.int .i64 8, .slice none 0 0, .slice none 0 0, .slice none 0 0], .int .i64 0]) w) := by
  have SS := cell_same
  have LB' := ltB_add
  have LS := ltB_self
  have LA' := alloc_reads
  have LH := alloc_holds
  go_enter Tryd.func25, Tryd.ntmps25
  go_wp2
  refine bodyPost_ret (v := .tuple #[.agg #[.int .i64 8, .slice none 0 0, .slice none 0 0, .slice none 0 0], .int .i64 0]) (by simp (maxDischargeDepth := 4) [results, Tryd.results25, go_sem, *]) rfl ?_
  refine ⟨rfl, ?_⟩
  repeat (first | with_reducible assumption | with_reducible exact Below.refl _ _ | with_reducible refine Below.drew ?_ | with_reducible refine below_drewN ?_ _ | with_reducible refine bw_alloc ?_ _ | (with_reducible refine bw_set ?_ ?_ _; focus (dsimp only; omega)) | (with_reducible apply bw_behind; with_reducible assumption))

set_option maxRecDepth 100000 in
set_option maxHeartbeats 1000000 in
theorem rsize_any (sa sb : Option Addr) (na ca nb cb : Nat) (w : World) : Calls Tryd.prog 57 #[.agg #[.int .i64 8, .slice sa na ca, .slice sb nb cb, .slice none 0 0]] w (Makes (.int .u64 32768) w) := by
  have SS := cell_same
  have LB' := ltB_add
  have LS := ltB_self
  have LA' := alloc_reads
  have LH := alloc_holds
  go_enter Tryd.func57, Tryd.ntmps57
  go_wp2
  go_ret
  refine ⟨rfl, ?_⟩
  repeat (first | with_reducible assumption | with_reducible exact Below.refl _ _ | with_reducible refine Below.drew ?_ | with_reducible refine below_drewN ?_ _ | with_reducible refine bw_alloc ?_ _ | (with_reducible refine bw_set ?_ ?_ _; focus (dsimp only; omega)) | (with_reducible apply bw_behind; with_reducible assumption))

set_option maxRecDepth 100000 in
set_option maxHeartbeats 1000000 in
theorem rmay_let (sa sb : Option Addr) (na ca nb cb : Nat) (A : Int) (_h1 : A % 8 = 0) (_h2 : A.tmod 8 = 0) (_h3 : decide (A < 32768) = true) (w : World) : Calls Tryd.prog 46 #[.agg #[.int .i64 8, .slice sa na ca, .slice sb nb cb, .slice none 0 0], .int .u64 A, .int .i64 8] w (Makes (.bool true) w) := by
  have c1 := fun W => rsize_any sa sb na ca nb cb W
  have Cc1 := hide c1
  clear c1
  have SS := cell_same
  have LB' := ltB_add
  have LS := ltB_self
  have LA' := alloc_reads
  have LH := alloc_holds
  go_enter Tryd.func46, Tryd.ntmps46
  go_wp2_with (go_at_call 57; (with_reducible refine (Cc1.out _).mono ?_); rintro e w1 ⟨rfl, hb1⟩; have hr1 := below_reads hb1; have hh1 := below_holds hb1; obtain ⟨m1, hs1⟩ := below_grew hb1)
  go_ret
  refine ⟨rfl, ?_⟩
  repeat (first | with_reducible assumption | with_reducible exact Below.refl _ _ | with_reducible refine Below.drew ?_ | with_reducible refine below_drewN ?_ _ | with_reducible refine bw_alloc ?_ _ | (with_reducible refine bw_set ?_ ?_ _; focus (dsimp only; omega)) | (with_reducible apply bw_behind; with_reducible assumption))
theorem rmay_any (sa sb : Option Addr) (na ca nb cb A : Nat) (h1 : A % 8 = 0) (h2 : A < 32768) (w : World) : Calls Tryd.prog 46 #[.agg #[.int .i64 8, .slice sa na ca, .slice sb nb cb, .slice none 0 0], .int .u64 (A : Int), .int .i64 8] w (Makes (.bool true) w) :=
  rmay_let sa sb na ca nb cb (A : Int) (by omega) (by rw [Int.tmod_eq_emod_of_nonneg (by omega)]; omega) (decide_eq_true (by omega)) w

set_option maxRecDepth 100000 in
set_option maxHeartbeats 1000000 in
theorem runtag_any (sa sb : Option Addr) (na ca nb cb : Nat) (A : Int) (w : World) : Calls Tryd.prog 58 #[.agg #[.int .i64 8, .slice sa na ca, .slice sb nb cb, .slice none 0 0], .int .u64 A] w (Makes (.agg #[.int .i64 8, .slice sa na ca, .slice sb nb cb, .slice none 0 0]) w) := by
  have SS := cell_same
  have LB' := ltB_add
  have LS := ltB_self
  have LA' := alloc_reads
  have LH := alloc_holds
  go_enter Tryd.func58, Tryd.ntmps58
  go_wp2
  refine wp_loop_rounds 1 ?_
  rw [rounds_succ]
  go_wp2
  refine bodyPost_ret (v := .agg #[.int .i64 8, .slice sa na ca, .slice sb nb cb, .slice none 0 0]) (by simp (maxDischargeDepth := 4) [results, Tryd.results58, go_sem, *]) rfl ?_
  refine ⟨rfl, ?_⟩
  repeat (first | with_reducible assumption | with_reducible exact Below.refl _ _ | with_reducible refine Below.drew ?_ | with_reducible refine below_drewN ?_ _ | with_reducible refine bw_alloc ?_ _ | (with_reducible refine bw_set ?_ ?_ _; focus (dsimp only; omega)) | (with_reducible apply bw_behind; with_reducible assumption))

theorem k_bn {W W' : World} {b n : Nat} {l : List Value} (hb : Below n W W') (hlt : b < n) (h : Row W b l) : Row W' b l := fun i v hv => (hb.cell (p := ⟨b, i, none⟩) hlt).trans (h i v hv)
theorem add_at (g j : Nat) : (⟨g, 0, none⟩ : Addr).add j = ⟨g, j, none⟩ := by unfold Addr.add; split <;> simp_all
theorem own_made {W : World} {e : TypeId} {base n : Nat} (h : W.heap.size = n) (hb : base ≤ n) : (W.alloc (.cells #[] e)).ownsRow base e 1 (.slice (some ⟨n, 0, none⟩) 0 0) 0 [] := by
  subst h
  exact World.ownsRow_made _ _ 0 hb (by unfold maxLen; omega) rfl
/-- 'append' onto a slice of the call's own: behind it the slice's row is told, and that nothing below 'base' has turned. -/
theorem wpList_append_row {P : Program} {w : World} {ops : Array Oper} {rest : List Oper} {o : Oper} {a : Act} {Q : Exit → Act → World → Prop} (hgd : o.guard = none) (s x : Operand) (t : TypeId)
    (ho : o.op = .call { callee := .builtin .append, args := #[s, x], argTypes := #[t, t] })
    (base : Nat) (e : TypeId) (i : TypeInfo) (z : Value) (bytes : Nat) (ht : P.underlying t = some (.slice e)) (hi : P.info? e = some i) (hz : i.zero = some z)
    (hsize : i.size = 1) (hby : i.bytes = bytes) (hzs : z.cells.size = 1)
    (v : Value) (n : Nat) (xs : List Value) (hs : a.eval s = v) (hown : w.ownsRow base e 1 v n xs)
    (g m c : Nat) (news : List Value) (hx : a.eval x = .slice (some ⟨g, 0, none⟩) m c) (hl : news.length = m) (hnews : Row w g news) (h1 : ∀ u ∈ news, u.oneCell' = true)
    (hm : 1 ≤ m) (h63 : n + m ≤ maxLen) (hbytes : (n + m) * bytes ≤ 140737488355328) (hbase : base ≤ w.heap.size)
    (h : ∀ g' c' w', w'.ownsRow base e 1 (.slice (some ⟨g', 0, none⟩) (n + m) c') (n + m) (xs ++ news) → base ≤ g' → n + m ≤ c' → Row w' g' (xs ++ news) → Below base w w' → wpList P ops Q rest (a.put o.dst (.slice (some ⟨g', 0, none⟩) (n + m) c')) w') : wpList P ops Q (o :: rest) a w := by
  refine wpList_append_own _ hgd s x t ho base e i z 1 bytes ht hi hz hsize hby hzs (by omega) v n xs hs hown ⟨g, 0, none⟩ m c news hx (by omega) (fun j u hj => by rw [add_at]; exact hnews j u hj) h1 h63 hbytes hbase ?_
  intro v' w' hown' hgrow _
  have hbel : Below base w w' := (Below.refl base w).grown hgrow hbase (fun k hk => (hown.lt k hk).1)
  rcases hown'.2 with ⟨_, h0⟩ | ⟨g', c', cur, rfl, hb, hg, hc, _⟩
  · omega
  · exact h g' c' w' hown' hb hc (fun j u hj => by have := hown'.cells (g := g') rfl j u hj; rwa [add_at] at this) hbel

set_option maxRecDepth 100000 in
set_option maxHeartbeats 8000000 in
theorem lay_some (ga gb n ca cb : Nat) (la lb : List Value) (A B : Int) (w : World) (hra : Row w ga la) (hrb : Row w gb lb) (hla : la.length = n) (hlb : lb.length = n) (hoa : ∀ u ∈ la, u.oneCell' = true) (hob : ∀ u ∈ lb, u.oneCell' = true) (h1 : 1 ≤ n) (h2 : n ≤ 1000) :
    Calls Tryd.prog 47 #[.agg #[.int .i64 8, .slice (some ⟨ga, 0, none⟩) n ca, .slice (some ⟨gb, 0, none⟩) n cb, .slice none 0 0], .int .u64 A, .int .u8 B] w (fun e W' => ∃ g1 c1 g2 c2, e = .returned (.agg #[.int .i64 8, .slice (some ⟨g1, 0, none⟩) (n + 1) c1, .slice (some ⟨g2, 0, none⟩) (n + 1) c2, .slice none 0 0]) ∧ n + 1 ≤ c1 ∧ n + 1 ≤ c2 ∧ Row W' g1 (la ++ [.int .u64 A]) ∧ Row W' g2 (lb ++ [.int .u8 B]) ∧ Below w.heap.size w W' ∧ w.heap.size ≤ g1 ∧ w.heap.size ≤ g2) := by
  have c1 := fun sa sb na ca nb cb A W => runtag_any sa sb na ca nb cb A W
  have Cc1 := hide c1
  clear c1
  have SS := cell_same
  have LB' := ltB_add
  have LS := ltB_self
  have LA' := alloc_reads
  have LH := alloc_holds
  obtain ⟨iu, hiu, hiu0, hiu1, hiu2⟩ := info_parts infoU
  obtain ⟨ib, hib, hib0, hib1, hib2⟩ := info_parts infoB
  have HRA := hide hra
  have HRB := hide hrb
  have HOA := hide hoa
  have HOB := hide hob
  clear hra hrb hoa hob
  go_enter Tryd.func47, Tryd.ntmps47
  have hga : ga < w.heap.size := by
    cases la with
    | nil => simp at hla; omega
    | cons u l => exact World.block_lt_of_cell? w _ (HRA.out 0 u rfl)
  have hgb : gb < w.heap.size := by
    cases lb with
    | nil => simp at hlb; omega
    | cons u l => exact World.block_lt_of_cell? w _ (HRB.out 0 u rfl)
  go_wp2_with (first | (at_builtin; refine wpList_append_row rfl (.tmp 7) (.tmp 9) 25 rfl (w.heap.size + 1 + 1) 23 iu (.int .u64 0) 8 Tryd.underlying25 hiu hiu0 hiu1 hiu2 rfl (.slice (some ⟨w.heap.size + 1 + 1, 0, none⟩) 0 0) 0 [] rfl (own_made (by simp) (by omega)) ga n ca la rfl hla (by repeat (first | with_reducible assumption | with_reducible exact HRA.out | with_reducible exact HRB.out | with_reducible refine k_dr _ ?_ | with_reducible refine k_d1 ?_ | with_reducible refine k_al _ ?_ | (with_reducible refine k_set ?_ ?_; focus (dsimp only; omega)) | (with_reducible refine k_bn (by with_reducible assumption) ?_ ?_; focus (omega)) | with_reducible refine k_be (by with_reducible assumption) ?_)) HOA.out (by omega) (by unfold maxLen; omega) (by omega) (by simp <;> omega) ?_; intro g1 c1 w1 ho1 hg1 hc1 hr1 hb1; simp only [Nat.zero_add, List.nil_append] at ho1 hc1 hr1; have hl1 := (ho1.lt g1 rfl).2; have hk1 := below_reads hb1; have hh1 := below_holds hb1; have hs1 : ltB w.heap.size w1.heap.size = true := (by unfold ltB; exact decide_eq_true (by omega)); have ht1 : ltB (w.heap.size + 1) w1.heap.size = true := (by unfold ltB; exact decide_eq_true (by omega))) | (at_builtin; refine wpList_append_row rfl (.tmp 10) (.tmp 12) 25 rfl (w.heap.size + 1 + 1) 23 iu (.int .u64 0) 8 Tryd.underlying25 hiu hiu0 hiu1 hiu2 rfl (.slice (some ⟨g1, 0, none⟩) n c1) n la rfl (ho1.alloc _) _ 1 _ [.int .u64 A] rfl rfl (row_new rfl rfl) (fun u hu => by simp at hu; subst hu; rfl) (by omega) (by unfold maxLen; omega) (by omega) (by simp <;> omega) ?_; intro g2 c2 w2 ho2 hg2 hc2 hr2 hb2; skip; have hl2 := (ho2.lt g2 rfl).2; have hk2 := below_reads hb2; have hh2 := below_holds hb2; have hs2 : ltB w.heap.size w2.heap.size = true := (by unfold ltB; exact decide_eq_true (by omega)); have ht2 : ltB (w.heap.size + 1) w2.heap.size = true := (by unfold ltB; exact decide_eq_true (by omega))) | (at_builtin; refine wpList_append_row rfl (.tmp 15) (.tmp 17) 26 rfl (w2.heap.size) 5 ib (.int .u8 0) 1 Tryd.underlying26 hib hib0 hib1 hib2 rfl (.slice (some ⟨w2.heap.size, 0, none⟩) 0 0) 0 [] rfl (own_made (by simp) (by omega)) gb n cb lb rfl hlb (by repeat (first | with_reducible assumption | with_reducible exact HRA.out | with_reducible exact HRB.out | with_reducible refine k_dr _ ?_ | with_reducible refine k_d1 ?_ | with_reducible refine k_al _ ?_ | (with_reducible refine k_set ?_ ?_; focus (dsimp only; omega)) | (with_reducible refine k_bn (by with_reducible assumption) ?_ ?_; focus (omega)) | with_reducible refine k_be (by with_reducible assumption) ?_)) HOB.out (by omega) (by unfold maxLen; omega) (by omega) (by simp <;> omega) ?_; intro g3 c3 w3 ho3 hg3 hc3 hr3 hb3; simp only [Nat.zero_add, List.nil_append] at ho3 hc3 hr3; have hl3 := (ho3.lt g3 rfl).2; have hk3 := below_reads hb3; have hh3 := below_holds hb3; have hs3 : ltB w.heap.size w3.heap.size = true := (by unfold ltB; exact decide_eq_true (by omega)); have ht3 : ltB (w.heap.size + 1) w3.heap.size = true := (by unfold ltB; exact decide_eq_true (by omega))) | (at_builtin; refine wpList_append_row rfl (.tmp 18) (.tmp 20) 26 rfl (w2.heap.size) 5 ib (.int .u8 0) 1 Tryd.underlying26 hib hib0 hib1 hib2 rfl (.slice (some ⟨g3, 0, none⟩) n c3) n lb rfl (ho3.alloc _) _ 1 _ [.int .u8 B] rfl rfl (row_new rfl rfl) (fun u hu => by simp at hu; subst hu; rfl) (by omega) (by unfold maxLen; omega) (by omega) (by simp <;> omega) ?_; intro g4 c4 w4 ho4 hg4 hc4 hr4 hb4; skip; have hl4 := (ho4.lt g4 rfl).2; have hk4 := below_reads hb4; have hh4 := below_holds hb4; have hs4 : ltB w.heap.size w4.heap.size = true := (by unfold ltB; exact decide_eq_true (by omega)); have ht4 : ltB (w.heap.size + 1) w4.heap.size = true := (by unfold ltB; exact decide_eq_true (by omega))) | (go_at_call 58; (with_reducible refine (Cc1.out _ _ _ _ _ _ _ _).mono ?_); rintro e w5 ⟨rfl, hb5⟩; have hk5 := below_reads hb5; have hh5 := below_holds hb5; obtain ⟨m5, hs5⟩ := below_grew hb5))
  refine bodyPost_ret (v := .agg #[.int .i64 8, .slice (some ⟨g2, 0, none⟩) (n + 1) c2, .slice (some ⟨g4, 0, none⟩) (n + 1) c4, .slice none 0 0]) (by simp (maxDischargeDepth := 4) [results, Tryd.results47, go_sem, *]) rfl ?_
  refine ⟨g2, c2, g4, c4, rfl, hc2, hc4, ?_, ?_, ?_, by omega, by omega⟩
  · repeat (first | with_reducible assumption | with_reducible exact HRA.out | with_reducible exact HRB.out | with_reducible refine k_dr _ ?_ | with_reducible refine k_d1 ?_ | with_reducible refine k_al _ ?_ | (with_reducible refine k_set ?_ ?_; focus (dsimp only; omega)) | (with_reducible refine k_bn (by with_reducible assumption) ?_ ?_; focus (omega)) | with_reducible refine k_be (by with_reducible assumption) ?_)
  · repeat (first | with_reducible assumption | with_reducible exact HRA.out | with_reducible exact HRB.out | with_reducible refine k_dr _ ?_ | with_reducible refine k_d1 ?_ | with_reducible refine k_al _ ?_ | (with_reducible refine k_set ?_ ?_; focus (dsimp only; omega)) | (with_reducible refine k_bn (by with_reducible assumption) ?_ ?_; focus (omega)) | with_reducible refine k_be (by with_reducible assumption) ?_)
  · have e1 := hb1.mono (show w.heap.size ≤ w.heap.size + 1 + 1 by omega)
    have e2 := hb2.mono (show w.heap.size ≤ w.heap.size + 1 + 1 by omega)
    have e3 := hb3.mono (show w.heap.size ≤ w2.heap.size by omega)
    have e4 := hb4.mono (show w.heap.size ≤ w2.heap.size by omega)
    have f1 : Below w.heap.size w w1 := Below.trans (by repeat (first | with_reducible assumption | with_reducible exact Below.refl _ _ | with_reducible refine Below.drew ?_ | with_reducible refine below_drewN ?_ _ | with_reducible refine bw_alloc ?_ _ | (with_reducible refine bw_set ?_ ?_ _; focus (dsimp only; omega)) | (with_reducible apply bw_behind; with_reducible assumption))) e1
    have f2 : Below w.heap.size w w2 := Below.trans (by repeat (first | with_reducible assumption | with_reducible exact Below.refl _ _ | with_reducible refine Below.drew ?_ | with_reducible refine below_drewN ?_ _ | with_reducible refine bw_alloc ?_ _ | (with_reducible refine bw_set ?_ ?_ _; focus (dsimp only; omega)) | (with_reducible apply bw_behind; with_reducible assumption))) e2
    have f3 : Below w.heap.size w w3 := Below.trans (by repeat (first | with_reducible assumption | with_reducible exact Below.refl _ _ | with_reducible refine Below.drew ?_ | with_reducible refine below_drewN ?_ _ | with_reducible refine bw_alloc ?_ _ | (with_reducible refine bw_set ?_ ?_ _; focus (dsimp only; omega)) | (with_reducible apply bw_behind; with_reducible assumption))) e3
    have f4 : Below w.heap.size w w4 := Below.trans (by repeat (first | with_reducible assumption | with_reducible exact Below.refl _ _ | with_reducible refine Below.drew ?_ | with_reducible refine below_drewN ?_ _ | with_reducible refine bw_alloc ?_ _ | (with_reducible refine bw_set ?_ ?_ _; focus (dsimp only; omega)) | (with_reducible apply bw_behind; with_reducible assumption))) e4
    clear e1 e2 e3 e4
    repeat (first | with_reducible assumption | with_reducible exact Below.refl _ _ | with_reducible refine Below.drew ?_ | with_reducible refine below_drewN ?_ _ | with_reducible refine bw_alloc ?_ _ | (with_reducible refine bw_set ?_ ?_ _; focus (dsimp only; omega)) | (with_reducible apply bw_behind; with_reducible assumption))

set_option maxRecDepth 100000 in
set_option maxHeartbeats 8000000 in
theorem lay_nil (A B : Int) (w : World) : Calls Tryd.prog 47 #[.agg #[.int .i64 8, .slice none 0 0, .slice none 0 0, .slice none 0 0], .int .u64 A, .int .u8 B] w (fun e W' => ∃ g1 c1 g2 c2, e = .returned (.agg #[.int .i64 8, .slice (some ⟨g1, 0, none⟩) 1 c1, .slice (some ⟨g2, 0, none⟩) 1 c2, .slice none 0 0]) ∧ 1 ≤ c1 ∧ 1 ≤ c2 ∧ Row W' g1 [.int .u64 A] ∧ Row W' g2 [.int .u8 B] ∧ Below w.heap.size w W' ∧ w.heap.size ≤ g1 ∧ w.heap.size ≤ g2) := by
  have c1 := fun sa sb na ca nb cb A W => runtag_any sa sb na ca nb cb A W
  have Cc1 := hide c1
  clear c1
  have SS := cell_same
  have LB' := ltB_add
  have LS := ltB_self
  have LA' := alloc_reads
  have LH := alloc_holds
  obtain ⟨iu, hiu, hiu0, hiu1, hiu2⟩ := info_parts infoU
  obtain ⟨ib, hib, hib0, hib1, hib2⟩ := info_parts infoB
  go_enter Tryd.func47, Tryd.ntmps47
  go_wp2_with (first | (at_builtin; refine wpList_append_row rfl (.tmp 10) (.tmp 12) 25 rfl (w.heap.size + 1 + 1) 23 iu (.int .u64 0) 8 Tryd.underlying25 hiu hiu0 hiu1 hiu2 rfl (.slice (some ⟨w.heap.size + 1 + 1, 0, none⟩) 0 0) 0 [] rfl ((own_made (by simp) (by omega)).alloc _) _ 1 _ [.int .u64 A] rfl rfl (row_new (by simp) rfl) (fun u hu => by simp at hu; subst hu; rfl) (by omega) (by unfold maxLen; omega) (by omega) (by simp <;> omega) ?_; intro g2 c2 w2 ho2 hg2 hc2 hr2 hb2; simp only [Nat.zero_add, List.nil_append] at ho2 hc2 hr2; have hl2 := (ho2.lt g2 rfl).2; have hk2 := below_reads hb2; have hh2 := below_holds hb2; have hs2 : ltB w.heap.size w2.heap.size = true := (by unfold ltB; exact decide_eq_true (by omega)); have ht2 : ltB (w.heap.size + 1) w2.heap.size = true := (by unfold ltB; exact decide_eq_true (by omega))) | (at_builtin; refine wpList_append_row rfl (.tmp 18) (.tmp 20) 26 rfl (w2.heap.size) 5 ib (.int .u8 0) 1 Tryd.underlying26 hib hib0 hib1 hib2 rfl (.slice (some ⟨w2.heap.size, 0, none⟩) 0 0) 0 [] rfl ((own_made (by simp) (by omega)).alloc _) _ 1 _ [.int .u8 B] rfl rfl (row_new (by simp) rfl) (fun u hu => by simp at hu; subst hu; rfl) (by omega) (by unfold maxLen; omega) (by omega) (by simp <;> omega) ?_; intro g4 c4 w4 ho4 hg4 hc4 hr4 hb4; simp only [Nat.zero_add, List.nil_append] at ho4 hc4 hr4; have hl4 := (ho4.lt g4 rfl).2; have hk4 := below_reads hb4; have hh4 := below_holds hb4; have hs4 : ltB w.heap.size w4.heap.size = true := (by unfold ltB; exact decide_eq_true (by omega)); have ht4 : ltB (w.heap.size + 1) w4.heap.size = true := (by unfold ltB; exact decide_eq_true (by omega))) | (go_at_call 58; (with_reducible refine (Cc1.out _ _ _ _ _ _ _ _).mono ?_); rintro e w5 ⟨rfl, hb5⟩; have hk5 := below_reads hb5; have hh5 := below_holds hb5; obtain ⟨m5, hs5⟩ := below_grew hb5))
  refine bodyPost_ret (v := .agg #[.int .i64 8, .slice (some ⟨g2, 0, none⟩) 1 c2, .slice (some ⟨g4, 0, none⟩) 1 c4, .slice none 0 0]) (by simp (maxDischargeDepth := 4) [results, Tryd.results47, go_sem, *]) rfl ?_
  refine ⟨g2, c2, g4, c4, rfl, hc2, hc4, ?_, ?_, ?_, by omega, by omega⟩
  · repeat (first | with_reducible assumption | with_reducible refine k_dr _ ?_ | with_reducible refine k_d1 ?_ | with_reducible refine k_al _ ?_ | (with_reducible refine k_set ?_ ?_; focus (dsimp only; omega)) | (with_reducible refine k_bn (by with_reducible assumption) ?_ ?_; focus (omega)) | with_reducible refine k_be (by with_reducible assumption) ?_)
  · repeat (first | with_reducible assumption | with_reducible refine k_dr _ ?_ | with_reducible refine k_d1 ?_ | with_reducible refine k_al _ ?_ | (with_reducible refine k_set ?_ ?_; focus (dsimp only; omega)) | (with_reducible refine k_bn (by with_reducible assumption) ?_ ?_; focus (omega)) | with_reducible refine k_be (by with_reducible assumption) ?_)
  · have e2 := hb2.mono (show w.heap.size ≤ w.heap.size + 1 + 1 by omega)
    have e4 := hb4.mono (show w.heap.size ≤ w2.heap.size by omega)
    have f2 : Below w.heap.size w w2 := Below.trans (by repeat (first | with_reducible assumption | with_reducible exact Below.refl _ _ | with_reducible refine Below.drew ?_ | with_reducible refine below_drewN ?_ _ | with_reducible refine bw_alloc ?_ _ | (with_reducible refine bw_set ?_ ?_ _; focus (dsimp only; omega)) | (with_reducible apply bw_behind; with_reducible assumption))) e2
    have f4 : Below w.heap.size w w4 := Below.trans (by repeat (first | with_reducible assumption | with_reducible exact Below.refl _ _ | with_reducible refine Below.drew ?_ | with_reducible refine below_drewN ?_ _ | with_reducible refine bw_alloc ?_ _ | (with_reducible refine bw_set ?_ ?_ _; focus (dsimp only; omega)) | (with_reducible apply bw_behind; with_reducible assumption))) e4
    clear e2 e4
    repeat (first | with_reducible assumption | with_reducible exact Below.refl _ _ | with_reducible refine Below.drew ?_ | with_reducible refine below_drewN ?_ _ | with_reducible refine bw_alloc ?_ _ | (with_reducible refine bw_set ?_ ?_ _; focus (dsimp only; omega)) | (with_reducible apply bw_behind; with_reducible assumption))
end Go.Proofs.YtnookalplejneaaDoor
