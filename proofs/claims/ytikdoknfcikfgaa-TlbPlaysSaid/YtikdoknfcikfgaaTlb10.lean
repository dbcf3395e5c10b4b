/-
  What the law's line and one answer; a new buffer.
-/
import Derived.Test.YtikdoknfcikfgaaTlb7
import Derived.Test.YtikdoknfcikfgaaTlb8
namespace Go.Proofs.Ytikdoknfcikfgaa
open Go.RowKit

theorem below_out {m N : Nat} {a b c : World} (k : Out1 N b c) (hn : m ≤ N) (h : Below m a b) (hs : m ≤ a.heap.size := by omega) : Below m a c := h.trans (k.below hn (Nat.le_trans hs h.size))

theorem zero_tlb : ∃ Z : Array Value, (∀ W, (zeroValue 34).run Try.prog W = .ok (.agg Z) W) ∧ ∀ (W : World) (t : TypeId), TlbM (W.alloc (.cells Z t)) W.heap.size (fun _ => []) := by
  have h : ((Try.prog.info? 34).bind (·.zero)).map (fun z => z.cells.toList) = some ((List.replicate 8 (lineC zeroL)).flatten ++ List.replicate 4 (.int .i64 0)) := by kernel_rfl
  have h2 : ((Try.prog.info? 34).bind (·.zero)).map (fun z => match z with | .agg _ => true | _ => false) = some true := by kernel_rfl
  obtain ⟨z, hz0, hl⟩ := Option.map_eq_some_iff.1 h
  obtain ⟨i, hi, hz⟩ := Option.bind_eq_some_iff.1 hz0
  rw [hz0] at h2
  cases z with
  | agg cs =>
    have hc : cs.toList = (List.replicate 8 (lineC zeroL)).flatten ++ List.replicate 4 (.int .i64 0) := by simpa [Value.cells] using hl
    have hcell : ∀ (W : World) t j v, ((List.replicate 8 (lineC zeroL)).flatten ++ List.replicate 4 (Value.int .i64 0))[j]? = some v → (W.alloc (.cells cs t)).cell? ⟨W.heap.size, j, none⟩ = some v := fun W t j v hv => by
      rw [← hc] at hv
      simp [go_sem]
      simpa using hv
    refine ⟨cs, fun W => by simp [zeroValue, typeInfo, hi, hz], fun W t => ⟨fun _ => zeroL, ⟨fun k hk j v hv => ?_, fun q hq => ?_, ?_⟩, fun q hq => ⟨Nat.zero_le _, fun j l hl => by simp at hl⟩⟩⟩
    · refine hcell W t _ v ?_
      have hj : j < 16 := (List.getElem?_eq_some_iff.1 hv).1
      have key : ((List.replicate 8 (lineC zeroL)).flatten ++ List.replicate 4 (Value.int .i64 0))[16 * k + j]? = (lineC zeroL)[j]? := by
        rw [show (List.replicate 8 (lineC zeroL)).flatten = flatC (List.replicate 8 zeroL) from rfl, List.getElem?_append_left (by rw [flatC_length]; simp; omega)]
        exact flatC_at _ k j zeroL (by rw [List.getElem?_replicate, if_pos hk]) hj
      rw [key]
      exact hv
    · refine hcell W t _ _ ?_
      rw [List.getElem?_append_right (by rw [show (List.replicate 8 (lineC zeroL)).flatten = flatC (List.replicate 8 zeroL) from rfl, flatC_length]; simp), show (List.replicate 8 (lineC zeroL)).flatten = flatC (List.replicate 8 zeroL) from rfl, flatC_length, List.length_replicate, show 128 + q - 16 * 8 = q by omega, List.getElem?_replicate, if_pos hq]
      rfl
    · exact th_own (k := 132) (o_new rfl (by rw [← Array.length_toList, hc]; simp))
  | _ => simp at h2

attribute [local irreducible] World.setCells in
set_option maxRecDepth 100000 in
set_option maxHeartbeats 2000000 in
theorem line_any (kd pl a n x : Int) (w : World) : Calls Try.prog 7 #[.agg #[.int .i64 kd, .int .i64 pl, .int .u64 a, .int .u64 n, .int .u64 x]] w (Makes (.agg #[.int .u64 a, .int .u64 n, .bool false, .bool false, .bool false, .bool false, .bool false, .bool false, .bool false, .bool false, .bool false, .bool false, .bool false, .bool false, .int .u64 0, .int .u64 x]) w) := by
  have SS := cell_same
  have LB' := ltB_add
  have LS := ltB_self
  have LA' := alloc_reads
  have LH := alloc_holds
  go_enter Try.func7, Try.ntmps7
  go_wp2_with (first | ((refine wpList_store_box rfl _ _ _ rfl (w.heap.size + 1) a n x rfl rfl infoL ?_ ?_); (focus (repeat (first | with_reducible assumption | with_reducible refine o_dr _ ?_ | with_reducible refine o_d1 ?_ | with_reducible refine o_set ?_ | (with_reducible refine o_new ?_ ?_; (focus (simp)); (focus (simp))) | (with_reducible refine o_new ?_ ?_; (focus (simp [*]; done)); (focus (simp))) | (with_reducible refine o_new ?_ ?_; (focus (simp [*]; omega)); (focus (simp))) | with_reducible refine o_al _ ?_ | (with_reducible apply o_be; with_reducible assumption) | (with_reducible refine o_bn (by with_reducible assumption) ?_ ?_; focus omega)))); intro wr hrr hbr hor hsr; have hrow := row_rg hrr; have z0 := hrow 0 _ rfl; have z1 := hrow 1 _ rfl; have z2 := hrow 2 _ rfl; have z3 := hrow 3 _ rfl; have z4 := hrow 4 _ rfl; have z5 := hrow 5 _ rfl; have z6 := hrow 6 _ rfl; have z7 := hrow 7 _ rfl; have z8 := hrow 8 _ rfl; have z9 := hrow 9 _ rfl; have z10 := hrow 10 _ rfl; have z11 := hrow 11 _ rfl; have z12 := hrow 12 _ rfl; have z13 := hrow 13 _ rfl; have z14 := hrow 14 _ rfl; have z15 := hrow 15 _ rfl; clear hrow))
  refine bodyPost_ret (v := .agg #[.int .u64 a, .int .u64 n, .bool false, .bool false, .bool false, .bool false, .bool false, .bool false, .bool false, .bool false, .bool false, .bool false, .bool false, .bool false, .int .u64 0, .int .u64 x]) (by simp (maxDischargeDepth := 4) [results, Try.results7, go_sem, *]) rfl ?_
  refine ⟨rfl, ?_⟩
  repeat (first | with_reducible assumption | with_reducible exact Below.refl _ _ | with_reducible refine Below.drew ?_ | with_reducible refine below_drewN ?_ _ | with_reducible refine bw_alloc ?_ _ | (with_reducible refine bw_set ?_ ?_ _; focus (dsimp only; omega)) | (with_reducible apply bw_behind; with_reducible assumption) | (with_reducible refine below_behindN (by with_reducible assumption) ?_ ?_; focus omega) | (with_reducible refine below_out (by with_reducible assumption) ?_ ?_; focus omega))

/-- What Put leaves in the line's own set. -/
def putL (B : List Ln) (l : Ln) : List Ln := match B.filter (fun k => !((k.1 == l.1) && (k.2.1 == l.2.1))) with
  | [x, y] => [x, y].filter (fun k => !((k.1 == x.1) && (k.2.1 == x.2.1))) ++ [l]
  | D => D ++ [l]
theorem putM_at (M : Nat → List Ln) (q : Nat) (l : Ln) : putM M q l q = putL (M q) l := by
  unfold putM putL
  rw [show (M q).filter (fun k => !((k.1 == l.1) && (k.2.1 == l.2.1))) = dropM M l.1 l.2.1 q from rfl]
  generalize hD : dropM M l.1 l.2.1 q = B
  match B, hD with
  | [], hD =>
    show addM _ q l q = _
    unfold addM
    rw [if_pos rfl, hD]
  | [x], hD =>
    show addM _ q l q = _
    unfold addM
    rw [if_pos rfl, hD]
  | [x, y], hD =>
    show addM _ q l q = _
    unfold addM
    rw [if_pos rfl]
    show (dropM M l.1 l.2.1 q).filter _ ++ [l] = _
    rw [hD]
  | x :: y :: z :: t, hD =>
    show addM _ q l q = _
    unfold addM
    rw [if_pos rfl, hD]

set_option maxRecDepth 100000 in
set_option maxHeartbeats 8000000 in
theorem one_let (Z : Array Value) (hz : ∀ W, (zeroValue 34).run Try.prog W = .ok (.agg Z) W) (hZ : ∀ (W : World) (t : TypeId), TlbM (W.alloc (.cells Z t)) W.heap.size (fun _ => [])) (w : World) (M1 M2 M3 : Nat → List Ln)
    (P0 : ∀ W : World, TlbM W w.heap.size (fun _ => []) → Calls Try.prog 6 #[.pointer (some ⟨w.heap.size, 0, none⟩), .agg #[.int .u64 1, .int .u64 0, .bool false, .bool false, .bool false, .bool false, .bool false, .bool false, .bool false, .bool false, .bool false, .bool false, .bool false, .bool false, .int .u64 0, .int .u64 0]] W (fun e W' => e = .returned (.tuple #[]) ∧ TlbM W' w.heap.size M1 ∧ Out1 w.heap.size W W')) (P1 : ∀ W : World, TlbM W w.heap.size M1 → Calls Try.prog 6 #[.pointer (some ⟨w.heap.size, 0, none⟩), .agg #[.int .u64 1, .int .u64 4, .bool false, .bool false, .bool false, .bool false, .bool false, .bool false, .bool false, .bool false, .bool false, .bool false, .bool false, .bool false, .int .u64 0, .int .u64 0]] W (fun e W' => e = .returned (.tuple #[]) ∧ TlbM W' w.heap.size M2 ∧ Out1 w.heap.size W W')) (P2 : ∀ W : World, TlbM W w.heap.size M2 → Calls Try.prog 6 #[.pointer (some ⟨w.heap.size, 0, none⟩), .agg #[.int .u64 1, .int .u64 8, .bool false, .bool false, .bool false, .bool false, .bool false, .bool false, .bool false, .bool false, .bool false, .bool false, .bool false, .bool false, .int .u64 0, .int .u64 0]] W (fun e W' => e = .returned (.tuple #[]) ∧ TlbM W' w.heap.size M3 ∧ Out1 w.heap.size W W')) (L1 : ∀ W : World, TlbM W w.heap.size M3 → Calls Try.prog 9 #[.pointer (some ⟨w.heap.size, 0, none⟩), .int .u64 1, .int .u64 0] W (Makes (.tuple #[.agg #[.int .u64 0, .int .u64 0, .bool false, .bool false, .bool false, .bool false, .bool false, .bool false, .bool false, .bool false, .bool false, .bool false, .bool false, .bool false, .int .u64 0, .int .u64 0], .bool false]) W)) (L2 : ∀ W : World, TlbM W w.heap.size M3 → Calls Try.prog 9 #[.pointer (some ⟨w.heap.size, 0, none⟩), .int .u64 1, .int .u64 8] W (Makes (.tuple #[.agg #[.int .u64 1, .int .u64 8, .bool false, .bool false, .bool false, .bool false, .bool false, .bool false, .bool false, .bool false, .bool false, .bool false, .bool false, .bool false, .int .u64 0, .int .u64 0], .bool true]) W)) : Calls Try.prog 20 #[] w (Makes (.bool true) w) := by
  have SS := cell_same
  have LB' := ltB_add
  have LS := ltB_self
  have LA' := alloc_reads
  have LH := alloc_holds
  have C0 := hide P0
  have C1 := hide P1
  have C2 := hide P2
  have D1 := hide L1
  have D2 := hide L2
  have HZ := hide hZ
  clear P0 P1 P2 L1 L2 hZ
  go_enter Try.func20, Try.ntmps20
  go_wp2
  have hT0 := HZ.out w 34
  refine wp_loop_rounds 4 ?_
  rw [rounds_succ]
  go_wp2_with (first | (go_at_call 6; (with_reducible first | refine (C0.out _ ?_).mono ?_); (focus (repeat (first | with_reducible assumption | with_reducible refine tm_dr _ ?_ | with_reducible refine tm_d1 ?_ | with_reducible refine tm_al _ ?_ | (with_reducible refine tm_set ?_ ?_; focus (dsimp only; omega)) | (with_reducible apply tm_be; with_reducible assumption) | (with_reducible refine tm_bn (by with_reducible assumption) ?_ ?_; focus omega) | (with_reducible refine tm_out (by with_reducible assumption) ?_ ?_; focus omega)))); rintro e wp0 ⟨rfl, hTp0, hUp0⟩; have hzp0 := hUp0.size; try simp only [size_al] at hzp0))
  rw [rounds_succ]
  go_wp2_with (first | (go_at_call 6; (with_reducible first | refine (C1.out _ ?_).mono ?_); (focus (repeat (first | with_reducible assumption | with_reducible refine tm_dr _ ?_ | with_reducible refine tm_d1 ?_ | with_reducible refine tm_al _ ?_ | (with_reducible refine tm_set ?_ ?_; focus (dsimp only; omega)) | (with_reducible apply tm_be; with_reducible assumption) | (with_reducible refine tm_bn (by with_reducible assumption) ?_ ?_; focus omega) | (with_reducible refine tm_out (by with_reducible assumption) ?_ ?_; focus omega)))); rintro e wp1 ⟨rfl, hTp1, hUp1⟩; have hzp1 := hUp1.size; try simp only [size_al] at hzp1))
  rw [rounds_succ]
  go_wp2_with (first | (go_at_call 6; (with_reducible first | refine (C2.out _ ?_).mono ?_); (focus (repeat (first | with_reducible assumption | with_reducible refine tm_dr _ ?_ | with_reducible refine tm_d1 ?_ | with_reducible refine tm_al _ ?_ | (with_reducible refine tm_set ?_ ?_; focus (dsimp only; omega)) | (with_reducible apply tm_be; with_reducible assumption) | (with_reducible refine tm_bn (by with_reducible assumption) ?_ ?_; focus omega) | (with_reducible refine tm_out (by with_reducible assumption) ?_ ?_; focus omega)))); rintro e wp2 ⟨rfl, hTp2, hUp2⟩; have hzp2 := hUp2.size; try simp only [size_al] at hzp2))
  rw [rounds_succ]
  go_wp2_with (first | (go_at_call 9; (with_reducible first | refine (D1.out _ ?_).mono ?_ | refine (D2.out _ ?_).mono ?_); (focus (repeat (first | with_reducible assumption | with_reducible refine tm_dr _ ?_ | with_reducible refine tm_d1 ?_ | with_reducible refine tm_al _ ?_ | (with_reducible refine tm_set ?_ ?_; focus (dsimp only; omega)) | (with_reducible apply tm_be; with_reducible assumption) | (with_reducible refine tm_bn (by with_reducible assumption) ?_ ?_; focus omega) | (with_reducible refine tm_out (by with_reducible assumption) ?_ ?_; focus omega)))); rintro e wk1 ⟨rfl, hbk1⟩; have hzk1 := hbk1.size; try simp only [size_al] at hzk1) | ((refine wpList_store_box rfl _ _ _ rfl _ (0) (0) (0) rfl rfl infoL ?_ ?_); (focus ((repeat (first | with_reducible assumption | with_reducible refine o_dr _ ?_ | with_reducible refine o_d1 ?_ | with_reducible refine o_set ?_ | (with_reducible refine o_new ?_ ?_; (focus (simp)); (focus (simp))) | (with_reducible refine o_new ?_ ?_; (focus (simp [*]; done)); (focus (simp))) | (with_reducible refine o_new ?_ ?_; (focus (simp [*]; omega)); (focus (simp))) | with_reducible refine o_al _ ?_ | (with_reducible apply o_be; with_reducible assumption) | (with_reducible refine o_bn (by with_reducible assumption) ?_ ?_; focus omega))); done)); intro wa hra hba hoa hsa; (try simp only [size_al] at hsa)) | ((refine wpList_store_box rfl _ _ _ rfl _ (1) (8) (0) rfl rfl infoL ?_ ?_); (focus ((repeat (first | with_reducible assumption | with_reducible refine o_dr _ ?_ | with_reducible refine o_d1 ?_ | with_reducible refine o_set ?_ | (with_reducible refine o_new ?_ ?_; (focus (simp)); (focus (simp))) | (with_reducible refine o_new ?_ ?_; (focus (simp [*]; done)); (focus (simp))) | (with_reducible refine o_new ?_ ?_; (focus (simp [*]; omega)); (focus (simp))) | with_reducible refine o_al _ ?_ | (with_reducible apply o_be; with_reducible assumption) | (with_reducible refine o_bn (by with_reducible assumption) ?_ ?_; focus omega))); done)); intro wb hrb hbb hob hsb; (try simp only [size_al] at hsb)))
  go_ret
  refine ⟨rfl, ?_⟩
  repeat (first | with_reducible assumption | with_reducible exact Below.refl _ _ | with_reducible refine Below.drew ?_ | with_reducible refine below_drewN ?_ _ | with_reducible refine bw_alloc ?_ _ | (with_reducible refine bw_set ?_ ?_ _; focus (dsimp only; omega)) | (with_reducible apply bw_behind; with_reducible assumption) | (with_reducible refine below_behindN (by with_reducible assumption) ?_ ?_; focus omega) | (with_reducible refine below_out (by with_reducible assumption) ?_ ?_; focus omega))
theorem one_any (w : World) : Calls Try.prog 20 #[] w (Makes (.bool true) w) := by
  obtain ⟨Z, hz, hZ⟩ := zero_tlb
  have e1 : putM (fun _ => []) 0 (1, 0, 0) 0 = [(1, 0, 0)] := by rw [putM_at]; rfl
  have e2 : putM (putM (fun _ => []) 0 (1, 0, 0)) 0 (1, 4, 0) 0 = [(1, 0, 0), (1, 4, 0)] := by rw [putM_at, e1]; rfl
  have e3 : putM (putM (putM (fun _ => []) 0 (1, 0, 0)) 0 (1, 4, 0)) 0 (1, 8, 0) 0 = [(1, 4, 0), (1, 8, 0)] := by rw [putM_at, e2]; rfl
  exact one_let Z hz hZ w _ _ _ (fun W h => put_any w.heap.size 0 1 0 0 _ (by decide) (by decide) W h) (fun W h => put_any w.heap.size 0 1 4 0 _ (by decide) (by decide) W h) (fun W h => put_any w.heap.size 0 1 8 0 _ (by decide) (by decide) W h)
    (fun W h => by have := look_any w.heap.size _ 1 0 0 (by decide) (by decide) W h; rw [e3] at this; exact this) (fun W h => by have := look_any w.heap.size _ 1 8 0 (by decide) (by decide) W h; rw [e3] at this; exact this)
end Go.Proofs.Ytikdoknfcikfgaa
