/-
  Texts laid one behind the other: Ref8, Ref8b, Ref8c.
-/
import Derived.Test.YtkajndonefkegaaDoorGTag
import Derived.Test.YtkajndonefkegaaDoorGBase
import Derived.Laws.AppendOwn
import Derived.Laws.AppendOwnNone
set_option maxRecDepth 100000
set_option maxHeartbeats 64000000
namespace Go.Proofs.YtkajndonefkegaaDoor
open Go.RowKit Words

def Sl (W : World) (s : Option Addr) (n c : Nat) (l : List Value) : Prop := n = l.length /\ ((s = none /\ c = 0 /\ l = []) ∨ ∃ g, s = some ⟨g, 0, none⟩ /\ n ≤ c /\ Row W g l /\ l ≠ [])
theorem sl_be {W W' : World} {s : Option Addr} {n c : Nat} {l : List Value} (hb : Below W.heap.size W W') (h : Sl W s n c l) : Sl W' s n c l := by
  obtain ⟨h0, h⟩ := h
  refine ⟨h0, ?_⟩
  rcases h with h | ⟨g, h1, h2, h3, h4⟩
  · exact .inl h
  · exact .inr ⟨g, h1, h2, k_be hb h3, h4⟩
def Away (n : Nat) (s : Option Addr) : Prop := ∀ g, s = some ⟨g, 0, none⟩ -> g ≠ n
def From (n : Nat) (s : Option Addr) : Prop := ∀ g, s = some ⟨g, 0, none⟩ -> n ≤ g
theorem sl_set {W : World} {s : Option Addr} {n c : Nat} {l : List Value} {p : Addr} {u : Value} (h : Sl W s n c l) (ha : Away p.block s) : Sl (W.setCell p u) s n c l := by
  obtain ⟨h0, h⟩ := h
  refine ⟨h0, ?_⟩
  rcases h with h | ⟨g, h1, h2, h3, h4⟩
  · exact .inl h
  · exact .inr ⟨g, h1, h2, k_set (fun e => ha g h1 e.symm) h3, h4⟩
theorem Sl.old {W : World} {s : Option Addr} {n c : Nat} {l : List Value} (h : Sl W s n c l) {m : Nat} (hm : W.heap.size ≤ m) : Away m s := fun g hg => by
  obtain ⟨_, h⟩ := h
  rcases h with ⟨rfl, _⟩ | ⟨g', h1, _, h3, h4⟩
  · cases hg
  · rw [h1] at hg
    cases hg
    cases l with
    | nil => exact absurd rfl h4
    | cons u l =>
      have : g < W.heap.size := World.block_lt_of_cell? W _ (h3 0 u rfl)
      omega
theorem infoU : (Tryd.prog.info? 30).map (fun i => (i.zero, i.size, i.bytes)) = some (some (.int .u64 0), 1, 8) := by kernel_rfl
theorem infoB : (Tryd.prog.info? 5).map (fun i => (i.zero, i.size, i.bytes)) = some (some (.int .u8 0), 1, 1) := by kernel_rfl
def numA (L : List (Nat × BitVec 8)) : List Value := L.map (fun x => .int .u64 (x.1 : Int))
def numV (L : List (Nat × BitVec 8)) : List Value := L.map (fun x => .int .u8 (x.2.toNat : Int))
theorem rnew_any (w : World) : Calls Tryd.prog 28 #[.int .i64 8] w (Makes (.tuple #[.agg #[.int .i64 8, .slice none 0 0, .slice none 0 0, .slice none 0 0], .int .i64 0]) w) := by
  obtain ⟨SS, LB', LS, LA', LH⟩ := rules5
  go_enter Tryd.func28, Tryd.ntmps28
  go_wp2
  refine bodyPost_ret (v := .tuple #[.agg #[.int .i64 8, .slice none 0 0, .slice none 0 0, .slice none 0 0], .int .i64 0]) (by simp (maxDischargeDepth := 4) [results, Tryd.results28, go_sem, *]) rfl ?_
  refine ⟨rfl, ?_⟩
  repeat (with_reducible first | assumption | exact Below.refl _ _ | refine Below.drew ?_ | refine below_drewN ?_ _ | refine bw_alloc ?_ _ | (refine bw_set ?_ ?_ _; focus (dsimp only; omega)) | (apply bw_behind; assumption))

theorem rsize_any (sa sb : Option Addr) (na ca nb cb : Nat) (w : World) : Calls Tryd.prog 79 #[.agg #[.int .i64 8, .slice sa na ca, .slice sb nb cb, .slice none 0 0]] w (Makes (.int .u64 32768) w) := by
  obtain ⟨SS, LB', LS, LA', LH⟩ := rules5
  go_enter Tryd.func79, Tryd.ntmps79
  go_wp2
  go_ret
  refine ⟨rfl, ?_⟩
  repeat (with_reducible first | assumption | exact Below.refl _ _ | refine Below.drew ?_ | refine below_drewN ?_ _ | refine bw_alloc ?_ _ | (refine bw_set ?_ ?_ _; focus (dsimp only; omega)) | (apply bw_behind; assumption))

theorem rmay_let (sa sb : Option Addr) (na ca nb cb : Nat) (A : Int) (_h1 : A % 8 = 0) (_h2 : A.tmod 8 = 0) (_h3 : decide (A < 32768) = true) (w : World) : Calls Tryd.prog 47 #[.agg #[.int .i64 8, .slice sa na ca, .slice sb nb cb, .slice none 0 0], .int .u64 A, .int .i64 8] w (Makes (.bool true) w) := by
  have c1 := fun W => rsize_any sa sb na ca nb cb W
  have Cc1 := hide c1
  clear c1
  obtain ⟨SS, LB', LS, LA', LH⟩ := rules5
  go_enter Tryd.func47, Tryd.ntmps47
  go_wp2_with (go_at_call 79; (with_reducible refine (Cc1.out _).mono ?_); rintro e w1 ⟨rfl, hb1⟩; obtain ⟨hr1, hh1, m1, hs1⟩ := bl_all hb1)
  go_ret
  refine ⟨rfl, ?_⟩
  repeat (with_reducible first | assumption | exact Below.refl _ _ | refine Below.drew ?_ | refine below_drewN ?_ _ | refine bw_alloc ?_ _ | (refine bw_set ?_ ?_ _; focus (dsimp only; omega)) | (apply bw_behind; assumption))
theorem rmay_any (sa sb : Option Addr) (na ca nb cb A : Nat) (h1 : A % 8 = 0) (h2 : A < 32768) (w : World) : Calls Tryd.prog 47 #[.agg #[.int .i64 8, .slice sa na ca, .slice sb nb cb, .slice none 0 0], .int .u64 (A : Int), .int .i64 8] w (Makes (.bool true) w) :=
  rmay_let sa sb na ca nb cb (A : Int) (by omega) (by rw [Int.tmod_eq_emod_of_nonneg (by omega)]; omega) (decide_eq_true (by omega)) w

theorem runtag_any (sa sb : Option Addr) (na ca nb cb : Nat) (A : Int) (w : World) : Calls Tryd.prog 80 #[.agg #[.int .i64 8, .slice sa na ca, .slice sb nb cb, .slice none 0 0], .int .u64 A] w (Makes (.agg #[.int .i64 8, .slice sa na ca, .slice sb nb cb, .slice none 0 0]) w) := by
  obtain ⟨SS, LB', LS, LA', LH⟩ := rules5
  go_enter Tryd.func80, Tryd.ntmps80
  go_wp2
  refine wp_loop_rounds 1 ?_
  rw [rounds_succ]
  go_wp2
  refine bodyPost_ret (v := .agg #[.int .i64 8, .slice sa na ca, .slice sb nb cb, .slice none 0 0]) (by simp (maxDischargeDepth := 4) [results, Tryd.results80, go_sem, *]) rfl ?_
  refine ⟨rfl, ?_⟩
  repeat (with_reducible first | assumption | exact Below.refl _ _ | refine Below.drew ?_ | refine below_drewN ?_ _ | refine bw_alloc ?_ _ | (refine bw_set ?_ ?_ _; focus (dsimp only; omega)) | (apply bw_behind; assumption))

theorem k_bn {W W' : World} {b n : Nat} {l : List Value} (hb : Below n W W') (hlt : b < n) (h : Row W b l) : Row W' b l := fun i v hv => (hb.cell (p := ⟨b, i, none⟩) hlt).trans (h i v hv)
theorem add_at (g j : Nat) : (⟨g, 0, none⟩ : Addr).add j = ⟨g, j, none⟩ := by unfold Addr.add; split <;> simp_all
theorem own_made {W : World} {e : TypeId} {base n : Nat} (h : W.heap.size = n) (hb : base ≤ n) : (W.alloc (.cells #[] e)).ownsRow base e 1 (.slice (some ⟨n, 0, none⟩) 0 0) 0 [] := by
  subst h
  exact World.ownsRow_made _ _ 0 hb (by unfold maxLen; omega) rfl
theorem wpList_append_row {P : Program} {w : World} {ops : Array Oper} {rest : List Oper} {o : Oper} {a : Act} {Q : Exit -> Act -> World -> Prop} (hgd : o.guard = none) (s x : Operand) (t : TypeId)
    (ho : o.op = .call { callee := .builtin .append, args := #[s, x], argTypes := #[t, t] })
    (base : Nat) (e : TypeId) (i : TypeInfo) (z : Value) (bytes : Nat) (ht : P.underlying t = some (.slice e)) (hi : P.info? e = some i) (hz : i.zero = some z)
    (hsize : i.size = 1) (hby : i.bytes = bytes) (hzs : z.cells.size = 1)
    (v : Value) (n : Nat) (xs : List Value) (hs : a.eval s = v) (hown : w.ownsRow base e 1 v n xs)
    (g m c : Nat) (news : List Value) (hx : a.eval x = .slice (some ⟨g, 0, none⟩) m c) (hl : news.length = m) (hnews : Row w g news) (h1 : ∀ u ∈ news, u.oneCell' = true)
    (hm : 1 ≤ m) (h63 : n + m ≤ maxLen) (hbytes : (n + m) * bytes ≤ 140737488355328) (hbase : base ≤ w.heap.size)
    (h : ∀ g' c' w', w'.ownsRow base e 1 (.slice (some ⟨g', 0, none⟩) (n + m) c') (n + m) (xs ++ news) -> base ≤ g' -> n + m ≤ c' -> Row w' g' (xs ++ news) -> Below base w w' -> wpList P ops Q rest (a.put o.dst (.slice (some ⟨g', 0, none⟩) (n + m) c')) w') : wpList P ops Q (o :: rest) a w := by
  refine wpList_append_own _ hgd s x t ho base e i z 1 bytes ht hi hz hsize hby hzs (by omega) v n xs hs hown ⟨g, 0, none⟩ m c news hx (by omega) (fun j u hj => by rw [add_at]; exact hnews j u hj) h1 h63 hbytes hbase ?_
  intro v' w' hown' hgrow _
  have hbel : Below base w w' := (Below.refl base w).grown hgrow hbase (fun k hk => (hown.lt k hk).1)
  rcases hown'.2 with ⟨_, h0⟩ | ⟨g', c', cur, rfl, hb, hg, hc, _⟩
  · omega
  · exact h g' c' w' hown' hb hc (fun j u hj => by have := hown'.cells (g := g') rfl j u hj; rwa [add_at] at this) hbel

theorem lay_some (ga gb n ca cb : Nat) (la lb : List Value) (A B : Int) (w : World) (hra : Row w ga la) (hrb : Row w gb lb) (hla : la.length = n) (hlb : lb.length = n) (hoa : ∀ u ∈ la, u.oneCell' = true) (hob : ∀ u ∈ lb, u.oneCell' = true) (h1 : 1 ≤ n) (h2 : n ≤ 1000) :
    Calls Tryd.prog 48 #[.agg #[.int .i64 8, .slice (some ⟨ga, 0, none⟩) n ca, .slice (some ⟨gb, 0, none⟩) n cb, .slice none 0 0], .int .u64 A, .int .u8 B] w (fun e W' => ∃ g1 c1 g2 c2, e = .returned (.agg #[.int .i64 8, .slice (some ⟨g1, 0, none⟩) (n + 1) c1, .slice (some ⟨g2, 0, none⟩) (n + 1) c2, .slice none 0 0]) /\ n + 1 ≤ c1 /\ n + 1 ≤ c2 /\ Row W' g1 (la ++ [.int .u64 A]) /\ Row W' g2 (lb ++ [.int .u8 B]) /\ Below w.heap.size w W' /\ w.heap.size ≤ g1 /\ w.heap.size ≤ g2) := by
  have c1 := fun sa sb na ca nb cb A W => runtag_any sa sb na ca nb cb A W
  have Cc1 := hide c1
  clear c1
  obtain ⟨SS, LB', LS, LA', LH⟩ := rules5
  obtain ⟨iu, hiu, hiu0, hiu1, hiu2⟩ := info_parts infoU
  obtain ⟨ib, hib, hib0, hib1, hib2⟩ := info_parts infoB
  have HRA := hide hra
  have HRB := hide hrb
  have HOA := hide hoa
  have HOB := hide hob
  clear hra hrb hoa hob
  go_enter Tryd.func48, Tryd.ntmps48
  have hga : ga < w.heap.size := by
    cases la with
    | nil => simp at hla; omega
    | cons u l => exact World.block_lt_of_cell? w _ (HRA.out 0 u rfl)
  have hgb : gb < w.heap.size := by
    cases lb with
    | nil => simp at hlb; omega
    | cons u l => exact World.block_lt_of_cell? w _ (HRB.out 0 u rfl)
  go_wp2_with (first | (at_builtin; refine wpList_append_row rfl (.tmp 7) (.tmp 9) 24 rfl (w.heap.size + 1 + 1) 30 iu (.int .u64 0) 8 Tryd.underlying24 hiu hiu0 hiu1 hiu2 rfl (.slice (some ⟨w.heap.size + 1 + 1, 0, none⟩) 0 0) 0 [] rfl (own_made (by simp) (by omega)) ga n ca la rfl hla (by repeat (first | (with_reducible first | assumption | exact HRA.out | exact HRB.out | refine k_dr _ ?_ | refine k_d1 ?_ | refine k_al _ ?_ | (refine k_set ?_ ?_; focus (dsimp only; omega))) | (with_reducible refine k_bn (by with_reducible assumption) ?_ ?_; focus (omega)) | with_reducible refine k_be (by with_reducible assumption) ?_)) HOA.out (by omega) (by unfold maxLen; omega) (by omega) (by simp <;> omega) ?_; intro g1 c1 w1 ho1 hg1 hc1 hr1 hb1; simp only [Nat.zero_add, List.nil_append] at ho1 hc1 hr1; have hl1 := (ho1.lt g1 rfl).2; have hk1 := below_reads hb1; have hh1 := below_holds hb1; have hs1 : ltB w.heap.size w1.heap.size = true := (by unfold ltB; exact decide_eq_true (by omega)); have ht1 : ltB (w.heap.size + 1) w1.heap.size = true := (by unfold ltB; exact decide_eq_true (by omega))) | (at_builtin; refine wpList_append_row rfl (.tmp 10) (.tmp 12) 24 rfl (w.heap.size + 1 + 1) 30 iu (.int .u64 0) 8 Tryd.underlying24 hiu hiu0 hiu1 hiu2 rfl (.slice (some ⟨g1, 0, none⟩) n c1) n la rfl (ho1.alloc _) _ 1 _ [.int .u64 A] rfl rfl (row_new rfl rfl) (fun u hu => by simp at hu; subst hu; rfl) (by omega) (by unfold maxLen; omega) (by omega) (by simp <;> omega) ?_; intro g2 c2 w2 ho2 hg2 hc2 hr2 hb2; skip; have hl2 := (ho2.lt g2 rfl).2; have hk2 := below_reads hb2; have hh2 := below_holds hb2; have hs2 : ltB w.heap.size w2.heap.size = true := (by unfold ltB; exact decide_eq_true (by omega)); have ht2 : ltB (w.heap.size + 1) w2.heap.size = true := (by unfold ltB; exact decide_eq_true (by omega))) | (at_builtin; refine wpList_append_row rfl (.tmp 15) (.tmp 17) 25 rfl (w2.heap.size) 5 ib (.int .u8 0) 1 Tryd.underlying25 hib hib0 hib1 hib2 rfl (.slice (some ⟨w2.heap.size, 0, none⟩) 0 0) 0 [] rfl (own_made (by simp) (by omega)) gb n cb lb rfl hlb (by repeat (first | (with_reducible first | assumption | exact HRA.out | exact HRB.out | refine k_dr _ ?_ | refine k_d1 ?_ | refine k_al _ ?_ | (refine k_set ?_ ?_; focus (dsimp only; omega))) | (with_reducible refine k_bn (by with_reducible assumption) ?_ ?_; focus (omega)) | with_reducible refine k_be (by with_reducible assumption) ?_)) HOB.out (by omega) (by unfold maxLen; omega) (by omega) (by simp <;> omega) ?_; intro g3 c3 w3 ho3 hg3 hc3 hr3 hb3; simp only [Nat.zero_add, List.nil_append] at ho3 hc3 hr3; have hl3 := (ho3.lt g3 rfl).2; have hk3 := below_reads hb3; have hh3 := below_holds hb3; have hs3 : ltB w.heap.size w3.heap.size = true := (by unfold ltB; exact decide_eq_true (by omega)); have ht3 : ltB (w.heap.size + 1) w3.heap.size = true := (by unfold ltB; exact decide_eq_true (by omega))) | (at_builtin; refine wpList_append_row rfl (.tmp 18) (.tmp 20) 25 rfl (w2.heap.size) 5 ib (.int .u8 0) 1 Tryd.underlying25 hib hib0 hib1 hib2 rfl (.slice (some ⟨g3, 0, none⟩) n c3) n lb rfl (ho3.alloc _) _ 1 _ [.int .u8 B] rfl rfl (row_new rfl rfl) (fun u hu => by simp at hu; subst hu; rfl) (by omega) (by unfold maxLen; omega) (by omega) (by simp <;> omega) ?_; intro g4 c4 w4 ho4 hg4 hc4 hr4 hb4; skip; have hl4 := (ho4.lt g4 rfl).2; have hk4 := below_reads hb4; have hh4 := below_holds hb4; have hs4 : ltB w.heap.size w4.heap.size = true := (by unfold ltB; exact decide_eq_true (by omega)); have ht4 : ltB (w.heap.size + 1) w4.heap.size = true := (by unfold ltB; exact decide_eq_true (by omega))) | (go_at_call 80; (with_reducible refine (Cc1.out _ _ _ _ _ _ _ _).mono ?_); rintro e w5 ⟨rfl, hb5⟩; have hk5 := below_reads hb5; have hh5 := below_holds hb5; obtain ⟨m5, hs5⟩ := below_grew hb5))
  refine bodyPost_ret (v := .agg #[.int .i64 8, .slice (some ⟨g2, 0, none⟩) (n + 1) c2, .slice (some ⟨g4, 0, none⟩) (n + 1) c4, .slice none 0 0]) (by simp (maxDischargeDepth := 4) [results, Tryd.results48, go_sem, *]) rfl ?_
  refine ⟨g2, c2, g4, c4, rfl, hc2, hc4, ?_, ?_, ?_, by omega, by omega⟩
  · repeat (first | (with_reducible first | assumption | exact HRA.out | exact HRB.out | refine k_dr _ ?_ | refine k_d1 ?_ | refine k_al _ ?_ | (refine k_set ?_ ?_; focus (dsimp only; omega))) | (with_reducible refine k_bn (by with_reducible assumption) ?_ ?_; focus (omega)) | with_reducible refine k_be (by with_reducible assumption) ?_)
  · repeat (first | (with_reducible first | assumption | exact HRA.out | exact HRB.out | refine k_dr _ ?_ | refine k_d1 ?_ | refine k_al _ ?_ | (refine k_set ?_ ?_; focus (dsimp only; omega))) | (with_reducible refine k_bn (by with_reducible assumption) ?_ ?_; focus (omega)) | with_reducible refine k_be (by with_reducible assumption) ?_)
  · have e1 := hb1.mono (show w.heap.size ≤ w.heap.size + 1 + 1 by omega)
    have e2 := hb2.mono (show w.heap.size ≤ w.heap.size + 1 + 1 by omega)
    have e3 := hb3.mono (show w.heap.size ≤ w2.heap.size by omega)
    have e4 := hb4.mono (show w.heap.size ≤ w2.heap.size by omega)
    have f1 : Below w.heap.size w w1 := Below.trans (by repeat (with_reducible first | assumption | exact Below.refl _ _ | refine Below.drew ?_ | refine below_drewN ?_ _ | refine bw_alloc ?_ _ | (refine bw_set ?_ ?_ _; focus (dsimp only; omega)) | (apply bw_behind; assumption))) e1
    have f2 : Below w.heap.size w w2 := Below.trans (by repeat (with_reducible first | assumption | exact Below.refl _ _ | refine Below.drew ?_ | refine below_drewN ?_ _ | refine bw_alloc ?_ _ | (refine bw_set ?_ ?_ _; focus (dsimp only; omega)) | (apply bw_behind; assumption))) e2
    have f3 : Below w.heap.size w w3 := Below.trans (by repeat (with_reducible first | assumption | exact Below.refl _ _ | refine Below.drew ?_ | refine below_drewN ?_ _ | refine bw_alloc ?_ _ | (refine bw_set ?_ ?_ _; focus (dsimp only; omega)) | (apply bw_behind; assumption))) e3
    have f4 : Below w.heap.size w w4 := Below.trans (by repeat (with_reducible first | assumption | exact Below.refl _ _ | refine Below.drew ?_ | refine below_drewN ?_ _ | refine bw_alloc ?_ _ | (refine bw_set ?_ ?_ _; focus (dsimp only; omega)) | (apply bw_behind; assumption))) e4
    clear e1 e2 e3 e4
    repeat (with_reducible first | assumption | exact Below.refl _ _ | refine Below.drew ?_ | refine below_drewN ?_ _ | refine bw_alloc ?_ _ | (refine bw_set ?_ ?_ _; focus (dsimp only; omega)) | (apply bw_behind; assumption))

theorem lay_nil (A B : Int) (w : World) : Calls Tryd.prog 48 #[.agg #[.int .i64 8, .slice none 0 0, .slice none 0 0, .slice none 0 0], .int .u64 A, .int .u8 B] w (fun e W' => ∃ g1 c1 g2 c2, e = .returned (.agg #[.int .i64 8, .slice (some ⟨g1, 0, none⟩) 1 c1, .slice (some ⟨g2, 0, none⟩) 1 c2, .slice none 0 0]) /\ 1 ≤ c1 /\ 1 ≤ c2 /\ Row W' g1 [.int .u64 A] /\ Row W' g2 [.int .u8 B] /\ Below w.heap.size w W' /\ w.heap.size ≤ g1 /\ w.heap.size ≤ g2) := by
  have c1 := fun sa sb na ca nb cb A W => runtag_any sa sb na ca nb cb A W
  have Cc1 := hide c1
  clear c1
  obtain ⟨SS, LB', LS, LA', LH⟩ := rules5
  obtain ⟨iu, hiu, hiu0, hiu1, hiu2⟩ := info_parts infoU
  obtain ⟨ib, hib, hib0, hib1, hib2⟩ := info_parts infoB
  go_enter Tryd.func48, Tryd.ntmps48
  go_wp2_with (first | (at_builtin; refine wpList_append_row rfl (.tmp 10) (.tmp 12) 24 rfl (w.heap.size + 1 + 1) 30 iu (.int .u64 0) 8 Tryd.underlying24 hiu hiu0 hiu1 hiu2 rfl (.slice (some ⟨w.heap.size + 1 + 1, 0, none⟩) 0 0) 0 [] rfl ((own_made (by simp) (by omega)).alloc _) _ 1 _ [.int .u64 A] rfl rfl (row_new (by simp) rfl) (fun u hu => by simp at hu; subst hu; rfl) (by omega) (by unfold maxLen; omega) (by omega) (by simp <;> omega) ?_; intro g2 c2 w2 ho2 hg2 hc2 hr2 hb2; simp only [Nat.zero_add, List.nil_append] at ho2 hc2 hr2; have hl2 := (ho2.lt g2 rfl).2; have hk2 := below_reads hb2; have hh2 := below_holds hb2; have hs2 : ltB w.heap.size w2.heap.size = true := (by unfold ltB; exact decide_eq_true (by omega)); have ht2 : ltB (w.heap.size + 1) w2.heap.size = true := (by unfold ltB; exact decide_eq_true (by omega))) | (at_builtin; refine wpList_append_row rfl (.tmp 18) (.tmp 20) 25 rfl (w2.heap.size) 5 ib (.int .u8 0) 1 Tryd.underlying25 hib hib0 hib1 hib2 rfl (.slice (some ⟨w2.heap.size, 0, none⟩) 0 0) 0 [] rfl ((own_made (by simp) (by omega)).alloc _) _ 1 _ [.int .u8 B] rfl rfl (row_new (by simp) rfl) (fun u hu => by simp at hu; subst hu; rfl) (by omega) (by unfold maxLen; omega) (by omega) (by simp <;> omega) ?_; intro g4 c4 w4 ho4 hg4 hc4 hr4 hb4; simp only [Nat.zero_add, List.nil_append] at ho4 hc4 hr4; have hl4 := (ho4.lt g4 rfl).2; have hk4 := below_reads hb4; have hh4 := below_holds hb4; have hs4 : ltB w.heap.size w4.heap.size = true := (by unfold ltB; exact decide_eq_true (by omega)); have ht4 : ltB (w.heap.size + 1) w4.heap.size = true := (by unfold ltB; exact decide_eq_true (by omega))) | (go_at_call 80; (with_reducible refine (Cc1.out _ _ _ _ _ _ _ _).mono ?_); rintro e w5 ⟨rfl, hb5⟩; have hk5 := below_reads hb5; have hh5 := below_holds hb5; obtain ⟨m5, hs5⟩ := below_grew hb5))
  refine bodyPost_ret (v := .agg #[.int .i64 8, .slice (some ⟨g2, 0, none⟩) 1 c2, .slice (some ⟨g4, 0, none⟩) 1 c4, .slice none 0 0]) (by simp (maxDischargeDepth := 4) [results, Tryd.results48, go_sem, *]) rfl ?_
  refine ⟨g2, c2, g4, c4, rfl, hc2, hc4, ?_, ?_, ?_, by omega, by omega⟩
  · repeat (first | (with_reducible first | assumption | refine k_dr _ ?_ | refine k_d1 ?_ | refine k_al _ ?_ | (refine k_set ?_ ?_; focus (dsimp only; omega))) | (with_reducible refine k_bn (by with_reducible assumption) ?_ ?_; focus (omega)) | with_reducible refine k_be (by with_reducible assumption) ?_)
  · repeat (first | (with_reducible first | assumption | refine k_dr _ ?_ | refine k_d1 ?_ | refine k_al _ ?_ | (refine k_set ?_ ?_; focus (dsimp only; omega))) | (with_reducible refine k_bn (by with_reducible assumption) ?_ ?_; focus (omega)) | with_reducible refine k_be (by with_reducible assumption) ?_)
  · have e2 := hb2.mono (show w.heap.size ≤ w.heap.size + 1 + 1 by omega)
    have e4 := hb4.mono (show w.heap.size ≤ w2.heap.size by omega)
    have f2 : Below w.heap.size w w2 := Below.trans (by repeat (with_reducible first | assumption | exact Below.refl _ _ | refine Below.drew ?_ | refine below_drewN ?_ _ | refine bw_alloc ?_ _ | (refine bw_set ?_ ?_ _; focus (dsimp only; omega)) | (apply bw_behind; assumption))) e2
    have f4 : Below w.heap.size w w4 := Below.trans (by repeat (with_reducible first | assumption | exact Below.refl _ _ | refine Below.drew ?_ | refine below_drewN ?_ _ | refine bw_alloc ?_ _ | (refine bw_set ?_ ?_ _; focus (dsimp only; omega)) | (apply bw_behind; assumption))) e4
    clear e2 e4
    repeat (with_reducible first | assumption | exact Below.refl _ _ | refine Below.drew ?_ | refine below_drewN ?_ _ | refine bw_alloc ?_ _ | (refine bw_set ?_ ?_ _; focus (dsimp only; omega)) | (apply bw_behind; assumption))
end Go.Proofs.YtkajndonefkegaaDoor

namespace Go.Proofs.YtkajndonefkegaaDoor
open Go.RowKit Words

theorem lay_any (sa : Option Addr) (na ca : Nat) (sb : Option Addr) (nb cb : Nat) (L : List (Nat × BitVec 8)) (a : Nat) (b : BitVec 8) (w : World) (hA : Sl w sa na ca (numA L)) (hB : Sl w sb nb cb (numV L)) (hl : L.length ≤ 1000) :
    Calls Tryd.prog 48 #[.agg #[.int .i64 8, .slice sa na ca, .slice sb nb cb, .slice none 0 0], .int .u64 (a : Int), .int .u8 (b.toNat : Int)] w (fun e W' => ∃ sa' na' ca' sb' nb' cb', e = .returned (.agg #[.int .i64 8, .slice sa' na' ca', .slice sb' nb' cb', .slice none 0 0]) /\ Sl W' sa' na' ca' (numA (L ++ [(a, b)])) /\ Sl W' sb' nb' cb' (numV (L ++ [(a, b)])) /\ Below w.heap.size w W' /\ From w.heap.size sa' /\ From w.heap.size sb') := by
  obtain ⟨h1, hA⟩ := hA
  obtain ⟨h2, hB⟩ := hB
  subst h1 h2
  have e1 : numA (L ++ [(a, b)]) = numA L ++ [.int .u64 (a : Int)] := by simp [numA]
  have e2 : numV (L ++ [(a, b)]) = numV L ++ [.int .u8 (b.toNat : Int)] := by simp [numV]
  have l1 : (numA L).length = L.length := by simp [numA]
  have l2 : (numV L).length = L.length := by simp [numV]
  rw [e1, e2, l1, l2]
  rcases hA with ⟨rfl, rfl, h⟩ | ⟨ga, rfl, hc, hr, hne⟩
  · obtain rfl : L = [] := by simpa [numA] using h
    rcases hB with ⟨rfl, rfl, _⟩ | ⟨gb, _, _, _, h⟩
    · refine (lay_nil (a : Int) (b.toNat : Int) w).mono ?_
      rintro e W' ⟨g1, c1, g2, c2, rfl, hc1, hc2, hr1, hr2, hb, n1, n2⟩
      exact ⟨_, _, _, _, _, _, rfl, ⟨rfl, .inr ⟨g1, rfl, hc1, hr1, by simp⟩⟩, ⟨rfl, .inr ⟨g2, rfl, hc2, hr2, by simp⟩⟩, hb, fun g h => by cases h; exact n1, fun g h => by cases h; exact n2⟩
    · simp [numV] at h
  · have hL : L ≠ [] := fun h => hne (by rw [h]; rfl)
    rcases hB with ⟨_, _, h⟩ | ⟨gb, rfl, hcb, hrb, _⟩
    · exact absurd (by simpa [numV] using h) hL
    · have hp : 1 ≤ L.length := by cases L with | nil => exact absurd rfl hL | cons x l => simp
      refine (lay_some ga gb L.length ca cb (numA L) (numV L) (a : Int) (b.toNat : Int) w hr hrb l1 l2 (fun u hu => ?_) (fun u hu => ?_) hp hl).mono ?_
      · obtain ⟨x, _, rfl⟩ := List.mem_map.1 hu
        rfl
      · obtain ⟨x, _, rfl⟩ := List.mem_map.1 hu
        rfl
      rintro e W' ⟨g1, c1, g2, c2, rfl, hc1, hc2, hr1, hr2, hb, n1, n2⟩
      exact ⟨_, _, _, _, _, _, rfl, ⟨by simp [l1], .inr ⟨g1, rfl, hc1, hr1, by simp⟩⟩, ⟨by simp [l2], .inr ⟨g2, rfl, hc2, hr2, by simp⟩⟩, hb, fun g h => by cases h; exact n1, fun g h => by cases h; exact n2⟩
def laidL (A : Nat) (v : BitVec 64) : Nat -> List (Nat × BitVec 8)
  | 0 => []
  | k + 1 => laidL A v k ++ [(A + k, by8 v k)]
theorem laidL_length (A : Nat) (v : BitVec 64) : ∀ k, (laidL A v k).length = k
  | 0 => rfl
  | k + 1 => by rw [laidL, List.length_append, laidL_length A v k]; rfl
structure StoMet (A k : Nat) (V E T b : Int) : Prop where
  h0 : IntKind.u64.wrap (k : Int) = (k : Int)
  h1 : IntKind.u64.wrap ((A : Int) + (k : Int)) = ((A + k : Nat) : Int)
  h2 : IntKind.i64.wrap (8 * (k : Int)) = E
  h3 : IntKind.u64.wrap E = E
  h4 : V / 2 ^ E.toNat = T
  h5 : IntKind.u8.wrap T = b
  h6 : 0 ≤ E
  h7 : E < 64
theorem sto_met (v : BitVec 64) (A k : Nat) (hk : k < 8) (hA : A < 32768) : ∃ T, StoMet A k (v.toNat : Int) ((8 * k : Nat) : Int) T ((by8 v k).toNat : Int) := by
  refine ⟨((v >>> (8 * k)).toNat : Int), ⟨by rw [IntKind.wrap_u64]; omega, by rw [IntKind.wrap_u64]; omega, by rw [IntKind.wrap_i64]; omega, by rw [IntKind.wrap_u64]; omega, ?_, u8_bv _, by omega, by omega⟩⟩
  rw [Int.toNat_natCast]
  exact shr_bv _ _

theorem rstore_any (sa0 : Option Addr) (na0 ca0 : Nat) (sb0 : Option Addr) (nb0 cb0 : Nat) (L : List (Nat × BitVec 8)) (A : Nat) (v : BitVec 64) (hA8 : A % 8 = 0) (hA : A < 32768) (hl : L.length ≤ 900) (w : World) (hSA : Sl w sa0 na0 ca0 (numA L)) (hSB : Sl w sb0 nb0 cb0 (numV L)) :
    Calls Tryd.prog 13 #[.agg #[.int .i64 8, .slice sa0 na0 ca0, .slice sb0 nb0 cb0, .slice none 0 0], .int .u64 (A : Int), .int .i64 8, .int .u64 (v.toNat : Int)] w (fun e W' => ∃ sa na ca sb nb cb, e = .returned (.tuple #[.agg #[.int .i64 8, .slice sa na ca, .slice sb nb cb, .slice none 0 0], .int .i64 0]) /\ Sl W' sa na ca (numA (L ++ laidL A v 8)) /\ Sl W' sb nb cb (numV (L ++ laidL A v 8)) /\ Below w.heap.size w W' /\ From w.heap.size sa /\ From w.heap.size sb) := by
  have c1 := fun W => rmay_any sa0 sb0 na0 ca0 nb0 cb0 A hA8 hA W
  have HM := hide (fun k hk => sto_met v A k hk hA)
  have HA := hide hSA
  have HB := hide hSB
  have CL := hide (fun sa na ca sb nb cb L a b W => lay_any sa na ca sb nb cb L a b W)
  have HL := hide (laidL_length A v)
  have Cc1 := hide c1
  clear c1
  obtain ⟨SS, LB', LS, LA', LH⟩ := rules5
  clear hSA hSB hA8 hA
  generalize hV : (v.toNat : Int) = V
  have HV := hide hV
  clear hV
  go_enter Tryd.func13, Tryd.ntmps13
  go_wp2_with (go_at_call 47; (with_reducible refine (Cc1.out _).mono ?_); rintro e w1 ⟨rfl, hb1⟩; obtain ⟨hr1, hh1, m1, hs1⟩ := bl_all hb1)
  go_loopw [10] (fun i wr => ∃ (k : Nat) (sa : Option Addr) (na ca : Nat) (sb : Option Addr) (nb cb : Nat), k ≤ 8 /\ i = .int .i64 (k : Int) /\ wr.cell? ⟨w.heap.size, 0, none⟩ = some (.int .i64 8) /\ wr.cell? ⟨w.heap.size, 1, none⟩ = some (.slice sa na ca) /\ wr.cell? ⟨w.heap.size, 2, none⟩ = some (.slice sb nb cb) /\ wr.cell? ⟨w.heap.size, 3, none⟩ = some (.slice none 0 0) /\ Own wr w.heap.size 4 /\ Own wr (w.heap.size + 1) 4 /\ Sl wr sa na ca (numA (L ++ laidL A v k)) /\ Sl wr sb nb cb (numV (L ++ laidL A v k)) /\ Below w.heap.size w wr /\ w.heap.size + 2 ≤ wr.heap.size /\ Away w.heap.size sa /\ Away (w.heap.size + 1) sa /\ Away w.heap.size sb /\ Away (w.heap.size + 1) sb /\ Hid (1 ≤ k -> From w.heap.size sa /\ From w.heap.size sb)) (fun i _ => 8 - (intOf i).toNat)
  case atStart =>
    have l0 : laidL A v 0 = [] := rfl
    refine ⟨0, sa0, na0, ca0, sb0, nb0, cb0, by omega, rfl, ?_, ?_, ?_, ?_, ?_, ?_, ?_, ?_, ?_, ?_, HA.out.old (by omega), HA.out.old (by omega), HB.out.old (by omega), HB.out.old (by omega), fun h => absurd h (by omega)⟩
    all_goals first | ((first | with_reducible assumption | ((repeat (with_reducible first | assumption | refine c_dr _ ?_ | refine c_d1 ?_ | refine c_al _ ?_ | (refine c_set ?_ ?_; focus (dsimp only; omega)) | (apply c_be; assumption))); done) | ((repeat (first | (with_reducible first | assumption | refine o_dr _ ?_ | refine o_d1 ?_ | refine o_set ?_) | (with_reducible refine o_new ?_ ?_; (focus (simp)); (focus (simp))) | (with_reducible first | refine o_al _ ?_ | (apply o_be; assumption)))); done) | ((repeat (with_reducible first | assumption | exact Below.refl _ _ | refine Below.drew ?_ | refine below_drewN ?_ _ | refine bw_alloc ?_ _ | (refine bw_set ?_ ?_ _; focus (dsimp only; omega)) | (apply bw_behind; assumption))); done) | (simp [go_sem, *]; omega) | (simp (maxDischargeDepth := 4) [go_sem, *]; done))) | (rw [l0, List.append_nil]; exact sl_be hb1 (sl_be (below_alloc (below_alloc (Below.refl _ _) (Nat.le_refl _) _) (by simp) _) HA.out)) | (rw [l0, List.append_nil]; exact sl_be hb1 (sl_be (below_alloc (below_alloc (Below.refl _ _) (Nat.le_refl _) _) (by simp) _) HB.out)) | (simp [*]; done) | (simp [*]; omega)
  case round =>
    obtain ⟨k, sa, na, ca, sb, nb, cb, hk, rfl, q0, q1, q2, q3, o1, o2, sA, sB, hB, hlt, aw1, aw2, aw3, aw4, hfr⟩ := hrel
    have HAW := hide (And.intro aw1 (And.intro aw2 (And.intro aw3 aw4)))
    clear aw1 aw2 aw3 aw4
    by_cases hk8 : k < 8
    · obtain ⟨T, e0, e1, e2, e3, e4, e5, e6, e7⟩ := HM.out k hk8
      obtain ⟨b, hb⟩ : ∃ b, ((by8 v k).toNat : Int) = b := ⟨_, rfl⟩
      have D1 := fun W x y => CL.out sa na ca sb nb cb (L ++ laidL A v k) (A + k) (by8 v k) W x y (by rw [List.length_append, HL.out]; omega)
      have HBB := hide hb
      rw [HV.out] at e4
      rw [hb] at D1 e5
      have D2 := hide D1
      clear D1 hb
      generalize ((8 * k : Nat) : Int) = E at *
      generalize ((A + k : Nat) : Int) = P at *
      have t1 : ltB w.heap.size wr.heap.size = true := by unfold ltB; exact decide_eq_true (by omega)
      have t2 : ltB (w.heap.size + 1) wr.heap.size = true := by unfold ltB; exact decide_eq_true (by omega)
      have f0 := o1.free 0 (by omega)
      have f1 := o1.free 1 (by omega)
      have f2 := o1.free 2 (by omega)
      have f3 := o1.free 3 (by omega)
      have SA := hide sA
      have SB := hide sB
      clear sA sB
      go_wp2_with (go_at_call 48; (with_reducible refine (D2.out _ SA.out SB.out).mono ?_); rintro e w2 ⟨sa', na', ca', sb', nb', cb', rfl, nA, nB, hb2, fA, fB⟩; have hr2 := below_reads hb2; have hh2 := below_holds hb2; have hz2 := hb2.size)
      go_roundw
      case rel =>
        have oB := o_be hb2 o1
        have oC := o_be hb2 o2
        have a1 : Away w.heap.size sa' := fun g hg => by have := fA g hg; omega
        have a2 : Away (w.heap.size + 1) sa' := fun g hg => by have := fA g hg; omega
        have a3 : Away w.heap.size sb' := fun g hg => by have := fB g hg; omega
        have a4 : Away (w.heap.size + 1) sb' := fun g hg => by have := fB g hg; omega
        refine ⟨k + 1, sa', na', ca', sb', nb', cb', by omega, by go_num, ?_, ?_, ?_, ?_, ?_, ?_, ?_, ?_, ?_, ?_, a1, a2, a3, a4, fun _ => ⟨fun g hg => by have := fA g hg; omega, fun g hg => by have := fB g hg; omega⟩⟩
        · iterate 4 (first | (refine set_at (k := 4) ?_ (by omega) ?_; (focus (repeat (first | (with_reducible first | assumption | refine o_dr _ ?_ | refine o_d1 ?_ | refine o_set ?_) | (with_reducible refine o_new ?_ ?_; (focus (simp)); (focus (simp))) | (with_reducible first | refine o_al _ ?_ | (apply o_be; assumption))))); (first | (rw [if_pos rfl]; done) | rw [if_neg (by omega)])) | skip)
        · iterate 4 (first | (refine set_at (k := 4) ?_ (by omega) ?_; (focus (repeat (first | (with_reducible first | assumption | refine o_dr _ ?_ | refine o_d1 ?_ | refine o_set ?_) | (with_reducible refine o_new ?_ ?_; (focus (simp)); (focus (simp))) | (with_reducible first | refine o_al _ ?_ | (apply o_be; assumption))))); (first | (rw [if_pos rfl]; done) | rw [if_neg (by omega)])) | skip)
        · iterate 4 (first | (refine set_at (k := 4) ?_ (by omega) ?_; (focus (repeat (first | (with_reducible first | assumption | refine o_dr _ ?_ | refine o_d1 ?_ | refine o_set ?_) | (with_reducible refine o_new ?_ ?_; (focus (simp)); (focus (simp))) | (with_reducible first | refine o_al _ ?_ | (apply o_be; assumption))))); (first | (rw [if_pos rfl]; done) | rw [if_neg (by omega)])) | skip)
        · iterate 4 (first | (refine set_at (k := 4) ?_ (by omega) ?_; (focus (repeat (first | (with_reducible first | assumption | refine o_dr _ ?_ | refine o_d1 ?_ | refine o_set ?_) | (with_reducible refine o_new ?_ ?_; (focus (simp)); (focus (simp))) | (with_reducible first | refine o_al _ ?_ | (apply o_be; assumption))))); (first | (rw [if_pos rfl]; done) | rw [if_neg (by omega)])) | skip)
        · repeat (first | (with_reducible first | assumption | refine o_dr _ ?_ | refine o_d1 ?_ | refine o_set ?_) | (with_reducible refine o_new ?_ ?_; (focus (simp)); (focus (simp))) | (with_reducible first | refine o_al _ ?_ | (apply o_be; assumption)))
        · repeat (first | (with_reducible first | assumption | refine o_dr _ ?_ | refine o_d1 ?_ | refine o_set ?_) | (with_reducible refine o_new ?_ ?_; (focus (simp)); (focus (simp))) | (with_reducible first | refine o_al _ ?_ | (apply o_be; assumption)))
        · rw [laidL, ← List.append_assoc]
          exact sl_set (sl_set (sl_set (sl_set nA a1) a1) a1) a1
        · rw [laidL, ← List.append_assoc]
          exact sl_set (sl_set (sl_set (sl_set nB a3) a3) a3) a3
        · repeat (with_reducible first | assumption | exact Below.refl _ _ | refine Below.drew ?_ | refine below_drewN ?_ _ | refine bw_alloc ?_ _ | (refine bw_set ?_ ?_ _; focus (dsimp only; omega)) | (apply bw_behind; assumption))
        · simp; omega
      case measure => simp [intOf]; omega
    · obtain rfl : k = 8 := by omega
      have f0 := o2.free 0 (by omega)
      have f1 := o2.free 1 (by omega)
      have f2 := o2.free 2 (by omega)
      have f3 := o2.free 3 (by omega)
      obtain ⟨u0, v0⟩ := o2.val 0 (by omega)
      obtain ⟨u1, v1⟩ := o2.val 1 (by omega)
      obtain ⟨u2, v2⟩ := o2.val 2 (by omega)
      obtain ⟨u3, v3⟩ := o2.val 3 (by omega)
      have SA := hide sA
      have SB := hide sB
      clear sA sB
      go_wp2
      refine bodyPost_ret (v := .tuple #[.agg #[.int .i64 8, .slice sa na ca, .slice sb nb cb, .slice none 0 0], .int .i64 0]) (by simp (maxDischargeDepth := 4) [results, Tryd.results13, go_sem, *]) rfl ?_
      refine ⟨sa, na, ca, sb, nb, cb, rfl, ?_, ?_, ?_, (hfr.out (by omega)).1, (hfr.out (by omega)).2⟩
      · exact sl_set (sl_set (sl_set (sl_set SA.out HAW.out.2.1) HAW.out.2.1) HAW.out.2.1) HAW.out.2.1
      · exact sl_set (sl_set (sl_set (sl_set SB.out HAW.out.2.2.2) HAW.out.2.2.2) HAW.out.2.2.2) HAW.out.2.2.2
      · repeat (with_reducible first | assumption | exact Below.refl _ _ | refine Below.drew ?_ | refine below_drewN ?_ _ | refine bw_alloc ?_ _ | (refine bw_set ?_ ?_ _; focus (dsimp only; omega)) | (apply bw_behind; assumption))
end Go.Proofs.YtkajndonefkegaaDoor

namespace Go.Proofs.YtkajndonefkegaaDoor
open Go.RowKit Words

def lastB (L : List (Nat × BitVec 8)) (a : Nat) : BitVec 8 := L.foldl (fun r x => if x.1 = a then x.2 else r) 0#8
theorem last_add (L : List (Nat × BitVec 8)) (x : Nat × BitVec 8) (a : Nat) : lastB (L ++ [x]) a = if x.1 = a then x.2 else lastB L a := by
  unfold lastB
  rw [List.foldl_append]
  rfl
theorem last_take (L : List (Nat × BitVec 8)) (k a : Nat) (hk : k < L.length) : lastB (L.take (k + 1)) a = if L[k].1 = a then L[k].2 else lastB (L.take k) a := by
  rw [← List.take_append_getElem hk, last_add]
theorem byte_some (ga gb n ca cb : Nat) (L : List (Nat × BitVec 8)) (a : Nat) (w : World) (hra : Row w ga (numA L)) (hrb : Row w gb (numV L)) (hl : L.length = n) (_h1 : 1 ≤ n) (_h2 : n ≤ 1000) :
    Calls Tryd.prog 57 #[.agg #[.int .i64 8, .slice (some ⟨ga, 0, none⟩) n ca, .slice (some ⟨gb, 0, none⟩) n cb, .slice none 0 0], .int .u64 (a : Int)] w (Makes (.int .u8 ((lastB L a).toNat : Int)) w) := by
  obtain ⟨SS, LB', LS, LA', LH⟩ := rules5
  have HRA := hide hra
  have HRB := hide hrb
  have HT := hide (last_take L)
  have HL := hide hl
  clear hra hrb hl
  have hw : IntKind.i64.wrap ((n : Int) - 1) = (n : Int) - 1 := by rw [IntKind.wrap_i64]; omega
  have hw2 : RowKit.wrap64 ((n : Int) - 1) = (n : Int) - 1 := by unfold RowKit.wrap64; omega
  have H0 : Hid (lastB (L.take n) a = lastB L a) := hide (by rw [← HL.out, List.take_length])
  go_enter Tryd.func57, Tryd.ntmps57
  go_wp2
  go_loopw [5] (fun i wr => ∃ k : Nat, k ≤ n /\ i = .int .i64 ((k : Int) - 1) /\ Hid (lastB (L.take k) a = lastB L a) /\ wr.cell? ⟨w.heap.size, 1, none⟩ = some (.slice (some ⟨ga, 0, none⟩) n ca) /\ wr.cell? ⟨w.heap.size, 2, none⟩ = some (.slice (some ⟨gb, 0, none⟩) n cb) /\ Hid (Row wr ga (numA L)) /\ Hid (Row wr gb (numV L)) /\ Below w.heap.size w wr) (fun i _ => (intOf i + 1).toNat)
  case atStart =>
    refine ⟨n, by omega, rfl, H0, ?_, ?_, k_al _ HRA.out, k_al _ HRB.out, ?_⟩
    all_goals (first | with_reducible assumption | ((repeat (with_reducible first | assumption | refine c_dr _ ?_ | refine c_d1 ?_ | refine c_al _ ?_ | (refine c_set ?_ ?_; focus (dsimp only; omega)) | (apply c_be; assumption))); done) | ((repeat (first | (with_reducible first | assumption | refine o_dr _ ?_ | refine o_d1 ?_ | refine o_set ?_) | (with_reducible refine o_new ?_ ?_; (focus (simp)); (focus (simp))) | (with_reducible first | refine o_al _ ?_ | (apply o_be; assumption)))); done) | ((repeat (with_reducible first | assumption | exact Below.refl _ _ | refine Below.drew ?_ | refine below_drewN ?_ _ | refine bw_alloc ?_ _ | (refine bw_set ?_ ?_ _; focus (dsimp only; omega)) | (apply bw_behind; assumption))); done) | (simp [go_sem, *]; omega) | (simp (maxDischargeDepth := 4) [go_sem, *]; done))
  case round =>
    obtain ⟨k, hk, rfl, hs, q1, q2, rA, rB, hB⟩ := hrel
    cases k with
    | zero =>
      have e0 : lastB L a = 0#8 := hs.out.symm
      rw [show (((0 : Nat) : Int) - 1) = -1 from rfl]
      go_wp2
      go_ret
      refine ⟨by rw [e0]; rfl, ?_⟩
      repeat (with_reducible first | assumption | exact Below.refl _ _ | refine Below.drew ?_ | refine below_drewN ?_ _ | refine bw_alloc ?_ _ | (refine bw_set ?_ ?_ _; focus (dsimp only; omega)) | (apply bw_behind; assumption))
    | succ k =>
      have hlen := HL.out
      have h3 := HT.out k a (by omega)
      rw [hs.out] at h3
      have cA := rA.out k (.int .u64 ((L[k]'(by omega)).1 : Int)) (by simp [numA, List.getElem?_eq_getElem (show k < L.length by omega)])
      have cB := rB.out k (.int .u8 ((L[k]'(by omega)).2.toNat : Int)) (by simp [numV, List.getElem?_eq_getElem (show k < L.length by omega)])
      rw [show (((k + 1 : Nat) : Int) - 1) = (k : Int) by omega]
      have g1 : (k : Int) < (n : Int) := by omega
      have g2 : (0 : Int) ≤ (k : Int) := by omega
      have g3 : IntKind.i64.wrap ((k : Int) - 1) = (k : Int) - 1 := by rw [IntKind.wrap_i64]; omega
      have g4 : RowKit.wrap64 ((k : Int) - 1) = (k : Int) - 1 := by unfold RowKit.wrap64; omega
      generalize L[k]'(by omega) = x at *
      have HS := hide hs
      have HA := hide rA
      have HBB := hide rB
      clear hs rA rB hlen
      by_cases e : x.1 = a
      · rw [if_pos e] at h3
        rw [h3]
        have e2 : ((x.1 : Int) == (a : Int)) = true := by simp; omega
        obtain ⟨y1, y2⟩ := x
        dsimp only at *
        clear h3 e
        generalize (y1 : Int) = Y at *
        go_wp2
        go_ret
        refine ⟨rfl, ?_⟩
        repeat (with_reducible first | assumption | exact Below.refl _ _ | refine Below.drew ?_ | refine below_drewN ?_ _ | refine bw_alloc ?_ _ | (refine bw_set ?_ ?_ _; focus (dsimp only; omega)) | (apply bw_behind; assumption))
      · rw [if_neg e] at h3
        have e2 : ((x.1 : Int) == (a : Int)) = false := by simp; omega
        have H3 : Hid (lastB (L.take k) a = lastB L a) := hide h3.symm
        clear h3 e
        obtain ⟨y1, y2⟩ := x
        dsimp only at *
        generalize (y1 : Int) = Y at *
        go_wp2
        go_roundw
        case rel => exact ⟨k, by omega, by first | rfl | (simp [*]; done) | go_num, H3, q1, q2, HA.out, HBB.out, hB⟩
        case measure => simp [intOf]
theorem byte_none (A : Int) (w : World) : Calls Tryd.prog 57 #[.agg #[.int .i64 8, .slice none 0 0, .slice none 0 0, .slice none 0 0], .int .u64 A] w (Makes (.int .u8 0) w) := by
  obtain ⟨SS, LB', LS, LA', LH⟩ := rules5
  go_enter Tryd.func57, Tryd.ntmps57
  go_wp2
  refine wp_loop_rounds 1 ?_
  rw [rounds_succ]
  go_wp2
  go_ret
  refine ⟨rfl, ?_⟩
  repeat (with_reducible first | assumption | exact Below.refl _ _ | refine Below.drew ?_ | refine below_drewN ?_ _ | refine bw_alloc ?_ _ | (refine bw_set ?_ ?_ _; focus (dsimp only; omega)) | (apply bw_behind; assumption))
theorem byte_any (sa : Option Addr) (na ca : Nat) (sb : Option Addr) (nb cb : Nat) (L : List (Nat × BitVec 8)) (a : Nat) (hl : L.length ≤ 1000) (w : World) (hA : Sl w sa na ca (numA L)) (hB : Sl w sb nb cb (numV L)) : Calls Tryd.prog 57 #[.agg #[.int .i64 8, .slice sa na ca, .slice sb nb cb, .slice none 0 0], .int .u64 (a : Int)] w (Makes (.int .u8 ((lastB L a).toNat : Int)) w) := by
  obtain ⟨h1, hA⟩ := hA
  obtain ⟨h2, hB⟩ := hB
  have l1 : (numA L).length = L.length := by simp [numA]
  have l2 : (numV L).length = L.length := by simp [numV]
  rw [l1] at h1
  rw [l2] at h2
  subst h1 h2
  rcases hA with ⟨rfl, rfl, h⟩ | ⟨ga, rfl, hc, hr, hne⟩
  · obtain rfl : L = [] := by simpa [numA] using h
    rcases hB with ⟨rfl, rfl, _⟩ | ⟨gb, _, _, _, h⟩
    · exact byte_none _ w
    · simp [numV] at h
  · have hL : L ≠ [] := fun h => hne (by rw [h]; rfl)
    rcases hB with ⟨_, _, h⟩ | ⟨gb, rfl, hcb, hrb, _⟩
    · exact absurd (by simpa [numV] using h) hL
    · exact byte_some ga gb L.length ca cb L a w hr hrb rfl (by cases L with | nil => exact absurd rfl hL | cons x l => simp) hl

structure LdMet (A k : Nat) (B V E T V' : Int) : Prop where
  h0 : IntKind.u64.wrap (k : Int) = (k : Int)
  h1 : IntKind.u64.wrap ((A : Int) + (k : Int)) = ((A + k : Nat) : Int)
  h2 : IntKind.i64.wrap (8 * (k : Int)) = E
  h3 : IntKind.u64.wrap E = E
  h4 : IntKind.u64.wrap B = B
  h5 : IntKind.u64.wrap (B * 2 ^ E.toNat) = T
  h6 : IntKind.u64.wrap (V + T) = V'
  h7 : 0 ≤ E
  h8 : E < 64
theorem ld_met (g : Nat -> BitVec 8) (A k : Nat) (hk : k < 8) (hA : A < 32768) : ∃ T, LdMet A k ((g k).toNat : Int) ((numB g k).toNat : Int) ((8 * k : Nat) : Int) T ((numB g (k + 1)).toNat : Int) := by
  have hb := (g k).isLt
  refine ⟨((((g k).setWidth 64) <<< (8 * k) : BitVec 64).toNat : Int), ⟨by rw [IntKind.wrap_u64]; omega, by rw [IntKind.wrap_u64]; omega, by rw [IntKind.wrap_i64]; omega, by rw [IntKind.wrap_u64]; omega, by rw [IntKind.wrap_u64]; omega, ?_, ?_, by omega, by omega⟩⟩
  · rw [Int.toNat_natCast, byte_up]
    exact shl_bv _ _
  · rw [numB, ← BitVec.add_eq_or_of_and_eq_zero, BitVec.toNat_add, IntKind.wrap_u64]
    · omega
    · refine ext64 (fun j hj => ?_)
      rw [BitVec.getLsbD_and, numB_bit _ _ _ hj, BitVec.getLsbD_shiftLeft]
      simp
      omega
theorem rload_any (sa : Option Addr) (na ca : Nat) (sb : Option Addr) (nb cb : Nat) (L : List (Nat × BitVec 8)) (A : Nat) (hA8 : A % 8 = 0) (hA : A < 32768) (hl : L.length ≤ 1000) (w : World) (hSA : Sl w sa na ca (numA L)) (hSB : Sl w sb nb cb (numV L)) :
    Calls Tryd.prog 24 #[.agg #[.int .i64 8, .slice sa na ca, .slice sb nb cb, .slice none 0 0], .int .u64 (A : Int), .int .i64 8] w (Makes (.tuple #[.int .u64 ((numB (fun i => lastB L (A + i)) 8).toNat : Int), .int .i64 0]) w) := by
  have c1 := fun W => rmay_any sa sb na ca nb cb A hA8 hA W
  have c2 := fun a W x y => byte_any sa na ca sb nb cb L a hl W x y
  have HM := hide (fun k hk => ld_met (fun i => lastB L (A + i)) A k hk hA)
  have Cc1 := hide c1
  have Cc2 := hide c2
  clear c1 c2
  obtain ⟨SS, LB', LS, LA', LH⟩ := rules5
  have HA := hide hSA
  have HB := hide hSB
  clear hA8 hA hl hSA hSB
  have H0 : Hid ((numB (fun i => lastB L (A + i)) 0).toNat = 0) := hide rfl
  generalize numB (fun i => lastB L (A + i)) = G at *
  go_enter Tryd.func24, Tryd.ntmps24
  go_wp2_with (go_at_call 47; (with_reducible refine (Cc1.out _).mono ?_); rintro e w1 ⟨rfl, hb1⟩; obtain ⟨hr1, hh1, m1, hs1⟩ := bl_all hb1)
  go_loopw [8, 9] (fun v i wr => ∃ k : Nat, k ≤ 8 /\ v = .int .u64 ((G k).toNat : Int) /\ i = .int .i64 (k : Int) /\ wr.cell? ⟨w.heap.size, 0, none⟩ = some (.int .i64 8) /\ wr.cell? ⟨w.heap.size, 1, none⟩ = some (.slice sa na ca) /\ wr.cell? ⟨w.heap.size, 2, none⟩ = some (.slice sb nb cb) /\ wr.cell? ⟨w.heap.size, 3, none⟩ = some (.slice none 0 0) /\ Below w.heap.size w wr) (fun _ i _ => 8 - (intOf i).toNat)
  case atStart =>
    refine ⟨0, by omega, by rw [H0.out]; rfl, rfl, ?_, ?_, ?_, ?_, ?_⟩
    all_goals (first | with_reducible assumption | ((repeat (with_reducible first | assumption | refine c_dr _ ?_ | refine c_d1 ?_ | refine c_al _ ?_ | (refine c_set ?_ ?_; focus (dsimp only; omega)) | (apply c_be; assumption))); done) | ((repeat (first | (with_reducible first | assumption | refine o_dr _ ?_ | refine o_d1 ?_ | refine o_set ?_) | (with_reducible refine o_new ?_ ?_; (focus (simp)); (focus (simp))) | (with_reducible first | refine o_al _ ?_ | (apply o_be; assumption)))); done) | ((repeat (with_reducible first | assumption | exact Below.refl _ _ | refine Below.drew ?_ | refine below_drewN ?_ _ | refine bw_alloc ?_ _ | (refine bw_set ?_ ?_ _; focus (dsimp only; omega)) | (apply bw_behind; assumption))); done) | (simp [go_sem, *]; omega) | (simp (maxDischargeDepth := 4) [go_sem, *]; done))
  case round =>
    obtain ⟨k, hk, rfl, rfl, q0, q1, q2, q3, hB⟩ := hrel
    by_cases hk8 : k < 8
    · obtain ⟨T, e0, e1, e2, e3, e4, e5, e6, e7, e8⟩ := HM.out k hk8
      have D1 := fun W x y => Cc2.out (A + k) W x y
      generalize ((8 * k : Nat) : Int) = E at *
      generalize ((A + k : Nat) : Int) = P at *
      generalize ((lastB L (A + k)).toNat : Int) = B at *
      generalize ((G k).toNat : Int) = V at *
      obtain ⟨V', hV'⟩ : ∃ V', ((G (k + 1)).toNat : Int) = V' := ⟨_, rfl⟩
      rw [hV'] at e6
      have HV := hide hV'
      clear hV'
      have D2 := hide D1
      clear D1
      have SA := hide (sl_be hB HA.out)
      have SB := hide (sl_be hB HB.out)
      go_wp2_with (go_at_call 57; (with_reducible refine (D2.out _ SA.out SB.out).mono ?_); rintro e w2 ⟨rfl, hb2⟩; obtain ⟨hr2, hh2, m2, hs2⟩ := bl_all hb2)
      go_roundw
      case rel =>
        refine ⟨k + 1, by omega, by rw [HV.out], by go_num, ?_, ?_, ?_, ?_, ?_⟩
        all_goals (first | with_reducible assumption | ((repeat (with_reducible first | assumption | refine c_dr _ ?_ | refine c_d1 ?_ | refine c_al _ ?_ | (refine c_set ?_ ?_; focus (dsimp only; omega)) | (apply c_be; assumption))); done) | ((repeat (first | (with_reducible first | assumption | refine o_dr _ ?_ | refine o_d1 ?_ | refine o_set ?_) | (with_reducible refine o_new ?_ ?_; (focus (simp)); (focus (simp))) | (with_reducible first | refine o_al _ ?_ | (apply o_be; assumption)))); done) | ((repeat (with_reducible first | assumption | exact Below.refl _ _ | refine Below.drew ?_ | refine below_drewN ?_ _ | refine bw_alloc ?_ _ | (refine bw_set ?_ ?_ _; focus (dsimp only; omega)) | (apply bw_behind; assumption))); done) | (simp [go_sem, *]; omega) | (simp (maxDischargeDepth := 4) [go_sem, *]; done))
      case measure => simp [intOf]; omega
    · obtain rfl : k = 8 := by omega
      go_wp2
      refine bodyPost_ret (v := .tuple #[.int .u64 ((G 8).toNat : Int), .int .i64 0]) (by simp (maxDischargeDepth := 4) [results, Tryd.results24, go_sem, *]) rfl ?_
      refine ⟨rfl, ?_⟩
      repeat (with_reducible first | assumption | exact Below.refl _ _ | refine Below.drew ?_ | refine below_drewN ?_ _ | refine bw_alloc ?_ _ | (refine bw_set ?_ ?_ _; focus (dsimp only; omega)) | (apply bw_behind; assumption))
end Go.Proofs.YtkajndonefkegaaDoor
