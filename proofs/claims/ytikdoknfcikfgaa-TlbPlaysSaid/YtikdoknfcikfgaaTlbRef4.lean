/-
  What the document's Put answers.
-/
import Derived.Test.YtikdoknfcikfgaaTlbRef3
import Derived.Deep.DeepCutAuto
namespace Go.Proofs.Ytikdoknfcikfgaa
open Go.RowKit

theorem k_gr {b c : Nat} {W W' : World} {l : List Value} (hq : ∀ k, k < W.heap.size → (some c : Option Nat) ≠ some k → W'.heap[k]? = W.heap[k]?) (hne : c ≠ b) (h : Row W b l) : Row W' b l := fun i v hv => by
  have hc := h i v hv
  exact (World.cell?_of_block (w := W) (hq b (World.block_lt_of_cell? W _ hc) (fun e => hne (Option.some.inj e)))).trans hc
theorem k_bn {n b : Nat} {W W' : World} {l : List Value} (hb : Below n W W') (hlt : b < n) (h : Row W b l) : Row W' b l := fun i v hv => c_bn hb hlt (h i v hv)
theorem step_append_ex {ops : Array Oper} {op : Oper} {a : Act} {w : World} {K' : Act → World → Prop} {Q : Exit → Act → World → Prop} {E : Prop} (hgd : op.guard = none) (s x : Operand)
    (ho : op.op = .call { callee := .builtin .append, args := #[s, x], argTypes := #[36, 36] })
    (base n m : Nat) (v u : Value) (K L : List Ln) (hs : a.eval s = v) (hx : a.eval x = u) (hown : w.ownsRow base 43 3 v n (refF K)) (hsrc : ∃ B, Src w B u m L) (h1 : n ≤ 1000) (h2 : m ≤ 1000) (hb : base ≤ w.heap.size)
    (h : ∀ v' w', w'.ownsRow base 43 3 v' (n + m) (refF (K ++ L)) → Below base w w' → (∀ b, b < w.heap.size → v.ownBlock ≠ some b → w'.heap[b]? = w.heap[b]?) → K' (a.put op.dst v') w') :
    if Region.wanted op (yielded ops a.tmps) = true then Oper.wp Try.prog op a w K' Q else E := by
  obtain ⟨B, hB⟩ := hsrc
  exact step_append_src hgd s x ho base n B m v u K L hs hx hown hB h1 h2 hb h
theorem own_form {W : World} {base n : Nat} {v : Value} {L : List Ln} (h : W.ownsRow base 43 3 v n (refF L)) (h0 : 0 < n) : ∃ g cap, v = Value.slice (some ⟨g, 0, none⟩) n cap ∧ base ≤ g ∧ g < W.heap.size ∧ n ≤ cap ∧ Row W g (refF L) := by
  obtain ⟨g, cap, hv, hb, hlt⟩ := h.form h0
  subst hv
  refine ⟨g, cap, rfl, hb, hlt, ?_, fun i u hu => ?_⟩
  · rcases h.2 with ⟨h1, _⟩ | ⟨g', cap', cur, h1, _, _, h4, _⟩
    · cases h1
    · injection h1 with _ _ h5
      omega
  · have := World.ownsRow.cells (g := g) (h := h) rfl i u hu
    rw [show (⟨g, 0, none⟩ : Addr).add i = ⟨g, i, none⟩ by unfold Addr.add; split <;> simp_all] at this
    exact this
/-- What a round of Put's loop does to n, first, at and i. -/
def stepF (q : Int) (s : Nat × Int × Nat × Nat) (x : Ln) : Nat × Int × Nat × Nat :=
  (if x.2.1 % 4 = q then s.1 + 1 else s.1, if x.2.1 % 4 = q ∧ s.2.1 < 0 then (s.2.2.2 : Int) else s.2.1, if x.2.1 % 4 ≤ q then s.2.2.2 + 1 else s.2.2.1, s.2.2.2 + 1)
def foldF (q : Int) (L : List Ln) : Nat × Int × Nat × Nat := L.foldl (stepF q) (0, -1, 0, 0)
theorem foldF_snoc (q : Int) (L : List Ln) (x : Ln) : foldF q (L ++ [x]) = stepF q (foldF q L) x := by
  unfold foldF
  rw [List.foldl_append]
  rfl
structure FoldOk (n : Nat) (f : Int) (t i : Nat) : Prop where
  hn : n ≤ i
  hf : f < (i : Int)
  hm : -1 ≤ f
  hnf : 0 < n → 0 ≤ f
  ht : t ≤ i
theorem fold_ok (q : Int) (L : List Ln) : ∀ k, k ≤ L.length → ∃ n f t, foldF q (L.take k) = (n, f, t, k) ∧ FoldOk n f t k
  | 0, _ => ⟨0, -1, 0, rfl, ⟨by decide, by decide, by decide, by decide, by decide⟩⟩
  | k + 1, hk => by
    obtain ⟨n, f, t, h, ho⟩ := fold_ok q L k (by omega)
    obtain ⟨h1, h2, h3, h4, h5⟩ := ho
    obtain ⟨x, hx⟩ : ∃ x, L[k]? = some x := ⟨_, List.getElem?_eq_getElem hk⟩
    have e : L.take (k + 1) = L.take k ++ [x] := by rw [List.take_add_one, hx]; rfl
    rw [e, foldF_snoc, h]
    refine ⟨_, _, _, rfl, ⟨?_, ?_, ?_, ?_, ?_⟩⟩
    · show (if _ then n + 1 else n) ≤ k + 1
      split
      · exact Nat.succ_le_succ h1
      · exact Nat.le_succ_of_le h1
    · show (if _ then (k : Int) else f) < ((k + 1 : Nat) : Int)
      split <;> omega
    · show -1 ≤ (if _ then (k : Int) else f)
      split <;> omega
    · show 0 < (if _ then n + 1 else n) → 0 ≤ (if _ then (k : Int) else f)
      intro hn
      by_cases e : x.2.1 % 4 = q ∧ f < 0
      · rw [if_pos e]; omega
      · rw [if_neg e]
        by_cases e1 : x.2.1 % 4 = q
        · have : ¬ f < 0 := fun h => e ⟨e1, h⟩
          omega
        · rw [if_neg e1] at hn
          exact h4 hn
    · show (if _ then k + 1 else t) ≤ k + 1
      split
      · exact Nat.le_refl _
      · exact Nat.le_succ_of_le h5
/-- The list with the line put in. -/
def insF (t : Nat) (l : Ln) (D : List Ln) : List Ln := D.take t ++ [l] ++ D.drop t
def putF (q : Int) (l : Ln) (L : List Ln) : List Ln :=
  if (foldF q (rdropF l.1 l.2.1 L)).1 = 2 then delF (foldF q (rdropF l.1 l.2.1 L)).2.1.toNat (insF (foldF q (rdropF l.1 l.2.1 L)).2.2.1 l (rdropF l.1 l.2.1 L))
  else insF (foldF q (rdropF l.1 l.2.1 L)).2.2.1 l (rdropF l.1 l.2.1 L)
theorem insF_length (t : Nat) (l : Ln) (D : List Ln) (ht : t ≤ D.length) : (insF t l D).length = D.length + 1 := by
  unfold insF
  simp only [List.length_append, List.length_take, List.length_drop, List.length_singleton]
  omega

set_option maxRecDepth 100000 in
set_option maxHeartbeats 16000000 in
theorem rput_let (v : Value) (la ln lx Q : Int) (P D : List Ln) (hD : ∀ l ∈ D, 0 ≤ l.2.1) (h0 : 0 ≤ ln) (hQ : ln % 4 = Q) (hl : D.length ≤ 900) (O : List Ln)
    (hO : O = if (foldF Q D).1 = 2 then delF (foldF Q D).2.1.toNat (insF (foldF Q D).2.2.1 (la, ln, lx) D) else insF (foldF Q D).2.2.1 (la, ln, lx) D)
    (w : World) (hr : RefT w v P) (CD : ∀ W, RefT W v P → Calls Try.prog 12 #[v, .int .u64 la, .int .u64 ln] W (GivesT D W)) :
    Calls Try.prog 8 #[v, .agg #[.int .u64 la, .int .u64 ln, .int .u64 lx]] w (GivesT O w) := by
  have SS := cell_same
  have LB' := ltB_add
  have LS := ltB_self
  have LA' := alloc_reads
  have LH := alloc_holds
  have C1 := hide CD
  have HP := hide hr
  have HD := hide hD
  have HO := hide hO
  have q0 : 0 ≤ Q ∧ Q < 4 := by omega
  have q1 : ln.tmod 4 = Q := by rw [Int.tmod_eq_emod_of_nonneg h0]; exact hQ
  have q2 : IntKind.u64.wrap Q = Q := by rw [IntKind.wrap_u64]; omega
  clear CD hr hD hO hQ
  go_enter Try.func8, Try.ntmps8
  go_wp2_with (first | (go_at_call 12; (with_reducible refine (C1.out _ ?_).mono ?_); (focus (refine rt_be ?_ HP.out; repeat (first | with_reducible assumption | with_reducible exact Below.refl _ _ | with_reducible refine Below.drew ?_ | with_reducible refine below_drewN ?_ _ | with_reducible refine bw_alloc ?_ _ | (with_reducible refine bw_set ?_ ?_ _; focus (dsimp only; omega)) | (with_reducible apply bw_behind; with_reducible assumption) | (with_reducible refine below_behindN (by with_reducible assumption) ?_ ?_; focus omega)))); rintro e w1 ⟨u, rfl, hT, hb1⟩; have hz1 := hb1.size; (try simp only [size_al] at hz1)))
  rcases (rb_t hT).form with ⟨rfl, rfl⟩ | ⟨g, cap, rfl, hg, hc, hrow⟩
  · have k0 : w1.cell? ⟨w.heap.size, 0, none⟩ = some (.int .u64 la) := c_be hb1 (by simp [go_sem])
    have k1 : w1.cell? ⟨w.heap.size, 1, none⟩ = some (.int .u64 ln) := c_be hb1 (by simp [go_sem])
    have k2 : w1.cell? ⟨w.heap.size, 2, none⟩ = some (.int .u64 lx) := c_be hb1 (by simp [go_sem])
    have hwr : w.heap.size < w1.heap.size := by omega
    refine wp_loop_rounds 1 ?_
    rw [rounds_succ]
    clear hT
    go_wp2_with fail
    go_region_held3 (fun W' => W'.cell? ⟨w.heap.size, 0, none⟩ = some (.int .u64 la) ∧ W'.cell? ⟨w.heap.size, 1, none⟩ = some (.int .u64 ln) ∧ W'.cell? ⟨w.heap.size, 2, none⟩ = some (.int .u64 lx))
      (refine ⟨c_bn (n := w1.heap.size) ?_ hwr k0, c_bn (n := w1.heap.size) ?_ hwr k1, c_bn (n := w1.heap.size) ?_ hwr k2⟩ <;> (repeat (first | with_reducible assumption | with_reducible exact Below.refl _ _ | with_reducible refine Below.drew ?_ | with_reducible refine below_drewN ?_ _ | with_reducible refine bw_alloc ?_ _ | (with_reducible refine bw_set ?_ ?_ _; focus (dsimp only; omega)) | (with_reducible apply bw_behind; with_reducible assumption) | (with_reducible refine below_behindN (by with_reducible assumption) ?_ ?_; focus omega))))
      (first | ((refine step_append_ex rfl (.tmp 49) (.tmp 52) rfl (w1.heap.size) (0) (0) _ _ ([]) ([]) rfl rfl ?_ ?_ ?_ ?_ ?_ ?_); (focus ((change World.ownsRow _ _ _ _ (.slice (some ⟨_, 0, none⟩) 0 0) _ _; repeat (first | with_reducible assumption | with_reducible refine own_dr _ ?_ | with_reducible refine own_d1 ?_ | (with_reducible refine own_new ?_ ?_; (focus (first | rfl | (simp; done))); (focus (first | omega | (simp; done) | (simp; omega)))) | with_reducible refine own_al _ ?_)); done)); (focus ((exact ⟨0, rfl, .inl ⟨rfl, rfl⟩⟩); done)); (focus omega); (focus omega); (focus (first | omega | (simp; done) | (simp; omega))); intro v6 w6 hown6 hb6 hq6; change ∀ b, _ → (some _ : Option Nat) ≠ some b → _ at hq6; have hz6 := hb6.size; (try simp only [s_d1] at hz6); (try simp only [size_al] at hz6)) | ((refine step_append_ex rfl (.tmp 53) (.tmp 55) rfl (w1.heap.size) (0 + 0) (1) _ _ ([] ++ []) ([(la, ln, lx)]) rfl rfl ?_ ?_ ?_ ?_ ?_ ?_); (focus ((change World.ownsRow _ _ _ _ (v6) _ _; repeat (first | with_reducible assumption | with_reducible refine own_dr _ ?_ | with_reducible refine own_d1 ?_ | (with_reducible refine own_new ?_ ?_; (focus (first | rfl | (simp; done))); (focus (first | omega | (simp; done) | (simp; omega)))) | with_reducible refine own_al _ ?_)); done)); (focus ((refine ⟨_, src_one ?_ (Nat.lt_succ_self _)⟩; repeat (first | with_reducible assumption | with_reducible refine k_dr _ ?_ | with_reducible refine k_d1 ?_ | exact row_new (by first | rfl | (simp; done)) rfl | with_reducible refine k_al _ ?_ | (with_reducible refine k_set ?_ ?_; focus (dsimp only; omega)) | (with_reducible apply k_be; with_reducible assumption) | (with_reducible refine k_gr (by with_reducible assumption) ?_ ?_; focus (first | omega | (simp; done) | (simp; omega))) | (with_reducible refine k_bn (by with_reducible assumption) ?_ ?_; focus omega))); done)); (focus omega); (focus omega); (focus (first | omega | (simp; done) | (simp; omega))); intro v7 w7 hown7 hb7 hq7; have hz7 := hb7.size; (try simp only [s_d1] at hz7); (try simp only [size_al] at hz7)) | ((refine step_append_ex rfl (.tmp 56) (.tmp 59) rfl (w1.heap.size) (0 + 0 + 1) (0) _ _ ([] ++ [] ++ [(la, ln, lx)]) ([]) rfl rfl ?_ ?_ ?_ ?_ ?_ ?_); (focus ((change World.ownsRow _ _ _ _ (v7) _ _; repeat (first | with_reducible assumption | with_reducible refine own_dr _ ?_ | with_reducible refine own_d1 ?_ | (with_reducible refine own_new ?_ ?_; (focus (first | rfl | (simp; done))); (focus (first | omega | (simp; done) | (simp; omega)))) | with_reducible refine own_al _ ?_)); done)); (focus ((exact ⟨0, rfl, .inl ⟨rfl, rfl⟩⟩); done)); (focus omega); (focus omega); (focus (first | omega | (simp; done) | (simp; omega))); intro v8 w8 hown8 hb8 hq8; have hz8 := hb8.size; (try simp only [s_d1] at hz8); (try simp only [size_al] at hz8)))
    all_goals
      have hO3 := hide hown8
      clear hown6 hown7 hown8
      go_wp2_with fail
      go_ret
      refine ⟨_, rfl, rb_own (base := w1.heap.size) (n := 1) (by omega) ?_ ?_, ?_⟩
      · rw [HO.out]
        exact hO3.out
      · rw [HO.out]
        rfl
      repeat (first | with_reducible assumption | with_reducible exact Below.refl _ _ | with_reducible refine Below.drew ?_ | with_reducible refine below_drewN ?_ _ | with_reducible refine bw_alloc ?_ _ | (with_reducible refine bw_set ?_ ?_ _; focus (dsimp only; omega)) | (with_reducible apply bw_behind; with_reducible assumption) | (with_reducible refine below_behindN (by with_reducible assumption) ?_ ?_; focus omega))
  · obtain ⟨m, hm⟩ : ∃ m, D.length = m := ⟨_, rfl⟩
    rw [hm] at hl hc
    have hb0 : w.heap.size < w1.heap.size := by omega
    have HL := hide hm
    have HR := hide hrow
    have k0 : w1.cell? ⟨w.heap.size, 0, none⟩ = some (.int .u64 la) := c_be hb1 (by simp [go_sem])
    have k1 : w1.cell? ⟨w.heap.size, 1, none⟩ = some (.int .u64 ln) := c_be hb1 (by simp [go_sem])
    have k2 : w1.cell? ⟨w.heap.size, 2, none⟩ = some (.int .u64 lx) := c_be hb1 (by simp [go_sem])
    have HT := hide hT
    rw [hm]
    clear hT hm hrow
    go_loopw [5, 6, 7, 8] (fun n f t i wr => ∃ (k cn ct : Nat) (F : Int), k ≤ m ∧ n = .int .i64 (cn : Int) ∧ f = .int .i64 F ∧ t = .int .i64 (ct : Int) ∧ i = .int .i64 (k : Int) ∧ FoldOk cn F ct k ∧ Hid (foldF Q (D.take k) = (cn, F, ct, k)) ∧ Below w1.heap.size w1 wr) (fun _ _ _ i _ => m - (intOf i).toNat)
    case atStart => exact ⟨0, 0, 0, -1, by omega, rfl, rfl, rfl, rfl, ⟨by decide, by decide, by decide, by decide, by decide⟩, hide rfl, Below.refl _ _⟩
    case round =>
      obtain ⟨k, cn, ct, F, hk, rfl, rfl, rfl, rfl, ⟨o1, o2, o3, o4, o5⟩, HF, hB⟩ := hrel
      by_cases hlt : k < m
      · obtain ⟨⟨xa, xn, xx⟩, hx⟩ : ∃ x, D[k]? = some x := ⟨_, List.getElem?_eq_getElem (by rw [HL.out]; exact hlt)⟩
        have c1 : wr.cell? ⟨g, k * 3 + 1, none⟩ = some (.int .u64 xn) := c_be hB (HR.out _ _ (refF_at D k 1 _ hx (by omega)))
        have b0 : wr.cell? ⟨w.heap.size, 1, none⟩ = some (.int .u64 ln) := c_be hB k1
        have x0 : 0 ≤ xn := HD.out _ (List.mem_of_getElem? hx)
        obtain ⟨R, hR⟩ : ∃ R, xn % 4 = R := ⟨_, rfl⟩
        have r0 : 0 ≤ R ∧ R < 4 := by omega
        have r1 : xn.tmod 4 = R := by rw [Int.tmod_eq_emod_of_nonneg x0]; exact hR
        have r2 : IntKind.u64.wrap R = R := by rw [IntKind.wrap_u64]; omega
        have b1 : (k : Int) < (m : Int) := by omega
        have b2 : ¬ ((m : Int) ≤ (k : Int)) := by omega
        have b3 : (0 : Int) ≤ (k : Int) := by omega
        have e : D.take (k + 1) = D.take k ++ [(xa, xn, xx)] := by rw [List.take_add_one, hx]; rfl
        have HS : Hid (foldF Q (D.take (k + 1)) = stepF Q (cn, F, ct, k) (xa, xn, xx)) := by rw [e, foldF_snoc, HF.out]; exact hide rfl
        have HR2 := hide hR
        clear hx hR e
        by_cases e1 : R = Q
        · subst e1
          have f1 : (R == R) = true := by simp
          by_cases e2 : F < 0
          · have f2 : R ≤ R := Int.le_refl _
            go_wp2_with fail
            go_quiet (fail)
            go_wp2_with fail
            go_quiet (fail)
            go_wp2_with fail
            go_roundw
            case rel =>
              refine ⟨k + 1, (cn + 1), (k + 1), (k : Int), by omega, by first | rfl | go_num, by first | rfl | go_num, by first | rfl | go_num, by go_num, ⟨by omega, by omega, by omega, by omega, by omega⟩, ?_, ?_⟩
              · rw [HS.out]
                have hr := HR2.out
                exact hide (by unfold stepF; dsimp only; rw [hr, if_pos rfl, if_pos ⟨rfl, e2⟩, if_pos (Int.le_refl _)])
              · repeat (first | with_reducible assumption | with_reducible exact Below.refl _ _ | with_reducible refine Below.drew ?_ | with_reducible refine below_drewN ?_ _ | with_reducible refine bw_alloc ?_ _ | (with_reducible refine bw_set ?_ ?_ _; focus (dsimp only; omega)) | (with_reducible apply bw_behind; with_reducible assumption) | (with_reducible refine below_behindN (by with_reducible assumption) ?_ ?_; focus omega))
            case measure => simp [intOf]; omega
          · have f2 : R ≤ R := Int.le_refl _
            go_wp2_with fail
            go_quiet (fail)
            go_wp2_with fail
            go_quiet (fail)
            go_wp2_with fail
            go_roundw
            case rel =>
              refine ⟨k + 1, (cn + 1), (k + 1), F, by omega, by first | rfl | go_num, by first | rfl | go_num, by first | rfl | go_num, by go_num, ⟨by omega, by omega, by omega, by omega, by omega⟩, ?_, ?_⟩
              · rw [HS.out]
                have hr := HR2.out
                exact hide (by unfold stepF; dsimp only; rw [hr, if_pos rfl, if_neg (by omega), if_pos (Int.le_refl _)])
              · repeat (first | with_reducible assumption | with_reducible exact Below.refl _ _ | with_reducible refine Below.drew ?_ | with_reducible refine below_drewN ?_ _ | with_reducible refine bw_alloc ?_ _ | (with_reducible refine bw_set ?_ ?_ _; focus (dsimp only; omega)) | (with_reducible apply bw_behind; with_reducible assumption) | (with_reducible refine below_behindN (by with_reducible assumption) ?_ ?_; focus omega))
            case measure => simp [intOf]; omega
        · have f1 : (R == Q) = false := by simpa using e1
          by_cases e2 : R ≤ Q
          · go_wp2_with fail
            go_quiet (fail)
            go_wp2_with fail
            go_quiet (fail)
            go_wp2_with fail
            go_roundw
            case rel =>
              refine ⟨k + 1, cn, (k + 1), F, by omega, by first | rfl | go_num, by first | rfl | go_num, by first | rfl | go_num, by go_num, ⟨by omega, by omega, by omega, by omega, by omega⟩, ?_, ?_⟩
              · rw [HS.out]
                have hr := HR2.out
                exact hide (by unfold stepF; dsimp only; rw [hr, if_neg e1, if_neg (fun h => e1 h.1), if_pos e2])
              · repeat (first | with_reducible assumption | with_reducible exact Below.refl _ _ | with_reducible refine Below.drew ?_ | with_reducible refine below_drewN ?_ _ | with_reducible refine bw_alloc ?_ _ | (with_reducible refine bw_set ?_ ?_ _; focus (dsimp only; omega)) | (with_reducible apply bw_behind; with_reducible assumption) | (with_reducible refine below_behindN (by with_reducible assumption) ?_ ?_; focus omega))
            case measure => simp [intOf]; omega
          · go_wp2_with fail
            go_quiet (fail)
            go_wp2_with fail
            go_quiet (fail)
            go_wp2_with fail
            go_roundw
            case rel =>
              refine ⟨k + 1, cn, ct, F, by omega, by first | rfl | go_num, by first | rfl | go_num, by first | rfl | go_num, by go_num, ⟨by omega, by omega, by omega, by omega, by omega⟩, ?_, ?_⟩
              · rw [HS.out]
                have hr := HR2.out
                exact hide (by unfold stepF; dsimp only; rw [hr, if_neg e1, if_neg (fun h => e1 h.1), if_neg (by omega)])
              · repeat (first | with_reducible assumption | with_reducible exact Below.refl _ _ | with_reducible refine Below.drew ?_ | with_reducible refine below_drewN ?_ _ | with_reducible refine bw_alloc ?_ _ | (with_reducible refine bw_set ?_ ?_ _; focus (dsimp only; omega)) | (with_reducible apply bw_behind; with_reducible assumption) | (with_reducible refine below_behindN (by with_reducible assumption) ?_ ?_; focus omega))
            case measure => simp [intOf]; omega

      · obtain rfl : k = m := by omega
        have hF := HF.out
        rw [show D.take k = D by rw [← HL.out, List.take_length]] at hF
        have HFF := hide hF
        have hr := HR.out
        have s1 : Src wr wr.heap.size (.slice (some ⟨g, 0, none⟩) ct cap) ct (D.take ct) := src_take (k_be hB hr) (by have := hB.size; omega) ct (by rw [HL.out]; omega)
        have s2 : Src wr wr.heap.size (.slice (if cap = ct then some ⟨g, 0, none⟩ else some ⟨g, ct * 3, none⟩) (k - ct) (cap - ct)) (k - ct) (D.drop ct) := src_drop (k_be hB hr) (by have := hB.size; omega) ct k HL.out.symm (by omega) hc
        have S1 := hide s1
        obtain ⟨A2, hA2⟩ : ∃ A2 : Option Addr, (if cap = ct then some ⟨g, 0, none⟩ else some ⟨g, ct * 3, none⟩) = A2 := ⟨_, rfl⟩
        rw [hA2] at s2
        have S2 := hide s2
        have b0 : wr.cell? ⟨w.heap.size, 0, none⟩ = some (.int .u64 la) := c_be hB k0
        have b1 : wr.cell? ⟨w.heap.size, 1, none⟩ = some (.int .u64 ln) := c_be hB k1
        have b2 : wr.cell? ⟨w.heap.size, 2, none⟩ = some (.int .u64 lx) := c_be hB k2
        have hwr : w.heap.size < wr.heap.size := by have := hB.size; omega
        have c1 : (0 : Int) ≤ (ct : Int) := by omega
        have c2 : (ct : Int) ≤ (cap : Int) := by omega
        have c3 : (ct : Int) ≤ (k : Int) := by omega
        have e1 : ¬ ((k : Int) < (k : Int)) := by omega
        clear hF s1 s2 hr HF
        go_upto_region 14 with fail
        go_cut [9] (fun s wx => wx.ownsRow wr.heap.size 43 3 s (0 + ct + 1 + (k - ct)) (refF ([] ++ D.take ct ++ [(la, ln, lx)] ++ D.drop ct)) ∧ Below wr.heap.size wr wx)
        case first =>
          go_region_held3 (fun W' => W'.cell? ⟨w.heap.size, 0, none⟩ = some (.int .u64 la) ∧ W'.cell? ⟨w.heap.size, 1, none⟩ = some (.int .u64 ln) ∧ W'.cell? ⟨w.heap.size, 2, none⟩ = some (.int .u64 lx))
            (refine ⟨c_bn (n := wr.heap.size) ?_ hwr b0, c_bn (n := wr.heap.size) ?_ hwr b1, c_bn (n := wr.heap.size) ?_ hwr b2⟩ <;> (repeat (first | with_reducible assumption | with_reducible exact Below.refl _ _ | with_reducible refine Below.drew ?_ | with_reducible refine below_drewN ?_ _ | with_reducible refine bw_alloc ?_ _ | (with_reducible refine bw_set ?_ ?_ _; focus (dsimp only; omega)) | (with_reducible apply bw_behind; with_reducible assumption) | (with_reducible refine below_behindN (by with_reducible assumption) ?_ ?_; focus omega))))
            (first | ((refine step_append_ex rfl (.tmp 49) (.tmp 52) rfl (wr.heap.size) (0) (ct) _ _ ([]) (D.take ct) rfl rfl ?_ ?_ ?_ ?_ ?_ ?_); (focus ((change World.ownsRow _ _ _ _ (.slice (some ⟨_, 0, none⟩) 0 0) _ _; repeat (first | with_reducible assumption | with_reducible refine own_dr _ ?_ | with_reducible refine own_d1 ?_ | (with_reducible refine own_new ?_ ?_; (focus (first | rfl | (simp; done))); (focus (first | omega | (simp; done) | (simp; omega)))) | with_reducible refine own_al _ ?_)); done)); (focus ((refine ⟨_, src_bn ?_ S1.out⟩; repeat (first | with_reducible assumption | with_reducible exact Below.refl _ _ | with_reducible refine Below.drew ?_ | with_reducible refine below_drewN ?_ _ | with_reducible refine bw_alloc ?_ _ | (with_reducible refine bw_set ?_ ?_ _; focus (dsimp only; omega)) | (with_reducible apply bw_behind; with_reducible assumption) | (with_reducible refine below_behindN (by with_reducible assumption) ?_ ?_; focus omega))); done)); (focus omega); (focus omega); (focus (first | omega | (simp; done) | (simp; omega))); intro v1 w1 hown1 hb1 hq1; change ∀ b, _ → (some _ : Option Nat) ≠ some b → _ at hq1; have hz1 := hb1.size; (try simp only [s_d1] at hz1); (try simp only [size_al] at hz1)) | ((refine step_append_ex rfl (.tmp 53) (.tmp 55) rfl (wr.heap.size) (0 + ct) (1) _ _ ([] ++ D.take ct) ([(la, ln, lx)]) rfl rfl ?_ ?_ ?_ ?_ ?_ ?_); (focus ((change World.ownsRow _ _ _ _ (v1) _ _; repeat (first | with_reducible assumption | with_reducible refine own_dr _ ?_ | with_reducible refine own_d1 ?_ | (with_reducible refine own_new ?_ ?_; (focus (first | rfl | (simp; done))); (focus (first | omega | (simp; done) | (simp; omega)))) | with_reducible refine own_al _ ?_)); done)); (focus ((refine ⟨_, src_one ?_ (Nat.lt_succ_self _)⟩; repeat (first | with_reducible assumption | with_reducible refine k_dr _ ?_ | with_reducible refine k_d1 ?_ | exact row_new (by first | rfl | (simp; done)) rfl | with_reducible refine k_al _ ?_ | (with_reducible refine k_set ?_ ?_; focus (dsimp only; omega)) | (with_reducible apply k_be; with_reducible assumption) | (with_reducible refine k_gr (by with_reducible assumption) ?_ ?_; focus (first | omega | (simp; done) | (simp; omega))) | (with_reducible refine k_bn (by with_reducible assumption) ?_ ?_; focus omega))); done)); (focus omega); (focus omega); (focus (first | omega | (simp; done) | (simp; omega))); intro v2 w2 hown2 hb2 hq2; have hz2 := hb2.size; (try simp only [s_d1] at hz2); (try simp only [size_al] at hz2)) | ((refine step_append_ex rfl (.tmp 56) (.tmp 59) rfl (wr.heap.size) (0 + ct + 1) (k - ct) _ _ ([] ++ D.take ct ++ [(la, ln, lx)]) (D.drop ct) rfl rfl ?_ ?_ ?_ ?_ ?_ ?_); (focus ((change World.ownsRow _ _ _ _ (v2) _ _; repeat (first | with_reducible assumption | with_reducible refine own_dr _ ?_ | with_reducible refine own_d1 ?_ | (with_reducible refine own_new ?_ ?_; (focus (first | rfl | (simp; done))); (focus (first | omega | (simp; done) | (simp; omega)))) | with_reducible refine own_al _ ?_)); done)); (focus ((refine ⟨_, src_bn ?_ S2.out⟩; repeat (first | with_reducible assumption | with_reducible exact Below.refl _ _ | with_reducible refine Below.drew ?_ | with_reducible refine below_drewN ?_ _ | with_reducible refine bw_alloc ?_ _ | (with_reducible refine bw_set ?_ ?_ _; focus (dsimp only; omega)) | (with_reducible apply bw_behind; with_reducible assumption) | (with_reducible refine below_behindN (by with_reducible assumption) ?_ ?_; focus omega))); done)); (focus omega); (focus omega); (focus (first | omega | (simp; done) | (simp; omega))); intro v3 w3 hown3 hb3 hq3; have hz3 := hb3.size; (try simp only [s_d1] at hz3); (try simp only [size_al] at hz3)))
          all_goals
            go_wp2_with fail
            go_meet
            refine ⟨hown3, ?_⟩
            repeat (first | with_reducible assumption | with_reducible exact Below.refl _ _ | with_reducible refine Below.drew ?_ | with_reducible refine below_drewN ?_ _ | with_reducible refine bw_alloc ?_ _ | (with_reducible refine bw_set ?_ ?_ _; focus (dsimp only; omega)) | (with_reducible apply bw_behind; with_reducible assumption) | (with_reducible refine below_behindN (by with_reducible assumption) ?_ ?_; focus omega))
        case rest =>
          obtain ⟨hO3, hB3⟩ := hcut
          have hlO : (insF ct (la, ln, lx) D).length = k + 1 := by rw [insF_length ct (la, ln, lx) D (by rw [HL.out]; omega), HL.out]
          have e9 : 0 + ct + 1 + (k - ct) = k + 1 := by omega
          rw [e9] at hO3
          have hB4 : Below w.heap.size w wc := by
            repeat (first | with_reducible assumption | with_reducible exact Below.refl _ _ | with_reducible refine Below.drew ?_ | with_reducible refine below_drewN ?_ _ | with_reducible refine bw_alloc ?_ _ | (with_reducible refine bw_set ?_ ?_ _; focus (dsimp only; omega)) | (with_reducible apply bw_behind; with_reducible assumption) | (with_reducible refine below_behindN (by with_reducible assumption) ?_ ?_; focus omega))
          have HLO := hide hlO
          have hzc := hB3.size
          clear hlO e9
          obtain ⟨n3, hn3⟩ : ∃ n3, k + 1 = n3 := ⟨_, rfl⟩
          rw [hn3] at hO3 HLO
          by_cases hn2 : cn = 2
          · subst hn2
            have hf0 := o4 (by omega)
            obtain ⟨f, rfl⟩ : ∃ f : Nat, F = (f : Int) := ⟨F.toNat, by omega⟩
            obtain ⟨g3, cap3, rfl, hg3a, hg3b, hc3, hr3⟩ : ∃ g3 cap3, _ = Value.slice (some ⟨g3, 0, none⟩) n3 cap3 ∧ wr.heap.size ≤ g3 ∧ g3 < wc.heap.size ∧ n3 ≤ cap3 ∧ Row wc g3 (refF (insF ct (la, ln, lx) D)) := own_form hO3 (by omega)
            have s3 : Src wc wc.heap.size (.slice (some ⟨g3, 0, none⟩) f cap3) f ((insF ct (la, ln, lx) D).take f) := src_take hr3 hg3b f (by rw [HLO.out]; omega)
            have s4 : Src wc wc.heap.size (.slice (if cap3 = f + 1 then some ⟨g3, 0, none⟩ else some ⟨g3, (f + 1) * 3, none⟩) (n3 - (f + 1)) (cap3 - (f + 1))) (n3 - (f + 1)) ((insF ct (la, ln, lx) D).drop (f + 1)) := src_drop hr3 hg3b (f + 1) n3 HLO.out.symm (by omega) hc3
            have S3 := hide s3
            obtain ⟨A4, hA4⟩ : ∃ A4 : Option Addr, (if cap3 = f + 1 then some ⟨g3, 0, none⟩ else some ⟨g3, (f + 1) * 3, none⟩) = A4 := ⟨_, rfl⟩
            rw [hA4] at s4
            have S4 := hide s4
            have d1 : (0 : Int) ≤ (f : Int) := by omega
            have d2 : (f : Int) ≤ (cap3 : Int) := by omega
            have d3 : (f : Int) ≤ (n3 : Int) := by omega
            have d4 : IntKind.i64.wrap ((f : Int) + 1) = (f : Int) + 1 := by rw [IntKind.wrap_i64]; omega
            have d5 : (0 : Int) ≤ (f : Int) + 1 := by omega
            have d6 : (f : Int) + 1 ≤ (n3 : Int) := by omega
            clear s3 s4 hr3 hO3 b0 b1 b2 k0 k1 k2
            go_wp2_with fail
            go_region_law (first | ((refine step_append_ex rfl (.tmp 63) (.tmp 66) rfl (wc.heap.size) (0) (f) _ _ ([]) ((insF ct (la, ln, lx) D).take f) rfl rfl ?_ ?_ ?_ ?_ ?_ ?_); (focus ((change World.ownsRow _ _ _ _ (.slice (some ⟨_, 0, none⟩) 0 0) _ _; repeat (first | with_reducible assumption | with_reducible refine own_dr _ ?_ | with_reducible refine own_d1 ?_ | (with_reducible refine own_new ?_ ?_; (focus (first | rfl | (simp; done))); (focus (first | omega | (simp; done) | (simp; omega)))) | with_reducible refine own_al _ ?_)); done)); (focus ((refine ⟨_, src_bn ?_ S3.out⟩; repeat (first | with_reducible assumption | with_reducible exact Below.refl _ _ | with_reducible refine Below.drew ?_ | with_reducible refine below_drewN ?_ _ | with_reducible refine bw_alloc ?_ _ | (with_reducible refine bw_set ?_ ?_ _; focus (dsimp only; omega)) | (with_reducible apply bw_behind; with_reducible assumption) | (with_reducible refine below_behindN (by with_reducible assumption) ?_ ?_; focus omega))); done)); (focus omega); (focus omega); (focus (first | omega | (simp; done) | (simp; omega))); intro v4 w4 hown4 hb4 hq4; have hz4 := hb4.size; (try simp only [s_d1] at hz4); (try simp only [size_al] at hz4)) | ((refine step_append_ex rfl (.tmp 67) (.tmp 71) rfl (wc.heap.size) (0 + f) (n3 - (f + 1)) _ _ ([] ++ (insF ct (la, ln, lx) D).take f) ((insF ct (la, ln, lx) D).drop (f + 1)) rfl rfl ?_ ?_ ?_ ?_ ?_ ?_); (focus ((change World.ownsRow _ _ _ _ (v4) _ _; repeat (first | with_reducible assumption | with_reducible refine own_dr _ ?_ | with_reducible refine own_d1 ?_ | (with_reducible refine own_new ?_ ?_; (focus (first | rfl | (simp; done))); (focus (first | omega | (simp; done) | (simp; omega)))) | with_reducible refine own_al _ ?_)); done)); (focus ((refine ⟨_, src_bn ?_ S4.out⟩; repeat (first | with_reducible assumption | with_reducible exact Below.refl _ _ | with_reducible refine Below.drew ?_ | with_reducible refine below_drewN ?_ _ | with_reducible refine bw_alloc ?_ _ | (with_reducible refine bw_set ?_ ?_ _; focus (dsimp only; omega)) | (with_reducible apply bw_behind; with_reducible assumption) | (with_reducible refine below_behindN (by with_reducible assumption) ?_ ?_; focus omega))); done)); (focus omega); (focus omega); (focus (first | omega | (simp; done) | (simp; omega))); intro v5 w5 hown5 hb5 hq5; have hz5 := hb5.size; (try simp only [s_d1] at hz5); (try simp only [size_al] at hz5)))
            have hO := hide hown5
            clear hown4 hown5
            go_wp2_with fail
            all_goals
              go_ret
              refine ⟨_, rfl, rb_own (base := wc.heap.size) (n := 0 + f + (n3 - (f + 1))) (by omega) ?_ ?_, ?_⟩
              · have hh := hO.out
                rw [HO.out, HFF.out]
                exact hh
              · rw [HO.out, HFF.out]
                show _ = ((insF ct (la, ln, lx) D).take f ++ (insF ct (la, ln, lx) D).drop (f + 1)).length
                rw [List.length_append, List.length_take, List.length_drop, show (insF ct (la, ln, lx) D).length = n3 from HLO.out]
                omega
              repeat (first | with_reducible assumption | with_reducible exact Below.refl _ _ | with_reducible refine Below.drew ?_ | with_reducible refine below_drewN ?_ _ | with_reducible refine bw_alloc ?_ _ | (with_reducible refine bw_set ?_ ?_ _; focus (dsimp only; omega)) | (with_reducible apply bw_behind; with_reducible assumption) | (with_reducible refine below_behindN (by with_reducible assumption) ?_ ?_; focus omega))
          · have f1 : ((cn : Int) == 2) = false := by simp; omega
            have HN := hide hn2
            have HO3 := hide hO3
            clear hO3 b0 b1 b2 k0 k1 k2
            go_wp2_with fail
            go_ret
            refine ⟨_, rfl, rb_own (base := wr.heap.size) (n := n3) (by omega) ?_ ?_, hB4⟩
            · rw [HO.out, HFF.out, if_neg HN.out]
              exact HO3.out
            · rw [HO.out, HFF.out, if_neg HN.out]
              exact HLO.out.symm
end Go.Proofs.Ytikdoknfcikfgaa
