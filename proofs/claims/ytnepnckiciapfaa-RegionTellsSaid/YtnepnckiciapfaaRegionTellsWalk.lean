/-
  RegionTells holds: for every list of steps, every number and address the law returns true and turns nothing that was there.
-/
import Derived.Test.YtnepnckiciapfaaRgnArg
import Derived.Test.YtnepnckiciapfaaRgnOps
import Derived.Test.YtnepnckiciapfaaRgnAt
import Derived.Test.YtnepnckiciapfaaRgnPick
import Derived.Test.YtnepnckiciapfaaRgnOne
namespace Go.Proofs.Ytnepnckiciapfaa.RegionTells
open Go.RowKit RgnMath BoundsMath

/-- The reservation that contains an address. -/
def hitF (L : List Rg) (a : Nat) : Option Rg := match L[aboveF L a]? with
  | some r => if a < r.b then none else some r
  | none => none
def hitV (o : Option Rg) : Value := match o with
  | some r => .tuple #[.agg #[.int .u64 (r.b : Int), .int .u64 (r.t : Int), .int .i64 (r.k : Int)], .bool true]
  | none => .tuple #[.agg #[.int .u64 0, .int .u64 0, .int .i64 0], .bool false]
theorem at_hit (L : List Rg) (a : Nat) : atV L a = hitV (hitF L a) := by
  unfold atV hitF
  cases hL : L[aboveF L a]? with
  | none => rfl
  | some r =>
    dsimp only
    split
    · rfl
    · rfl
theorem hit_at {L : List Rg} {a : Nat} {r : Rg} (h : hitF L a = some r) : L[aboveF L a]? = some r ∧ r.b ≤ a := by
  unfold hitF at h
  cases hL : L[aboveF L a]? with
  | none => rw [hL] at h; cases h
  | some s =>
    rw [hL] at h
    dsimp only at h
    split at h
    · cases h
    · injection h with h
      subst h
      exact ⟨rfl, by omega⟩
/-- Which reservations contain the address. -/
theorem holds_iff {L : List Rg} (h : Asc L) {a i : Nat} {s : Rg} (hs : L[i]? = some s) : (s.b ≤ a ∧ a < s.t) ↔ (i = aboveF L a ∧ hitF L a = some s) := by
  constructor
  · rintro ⟨h1, h2⟩
    have hi : i = aboveF L a := by
      rcases Nat.lt_trichotomy i (aboveF L a) with h3 | h3 | h3
      · have := above_low h3 hs
        omega
      · exact h3
      · have hil : i < L.length := (List.getElem?_eq_some_iff.1 hs).1
        obtain ⟨x, hx⟩ : ∃ x, L[aboveF L a]? = some x := ⟨L[aboveF L a]'(by omega), by simp [show aboveF L a < L.length by omega]⟩
        have h4 := above_at hx
        have h5 := pair_at h.pw h3 hx hs
        omega
    refine ⟨hi, ?_⟩
    subst hi
    unfold hitF
    rw [hs]
    dsimp only
    rw [if_neg (by omega)]
  · rintro ⟨rfl, h2⟩
    obtain ⟨h3, h4⟩ := hit_at h2
    rw [hs] at h3
    exact ⟨h4, above_at hs⟩
/-- How many of the first i do. -/
def cntF (L : List Rg) (a i : Nat) : Nat := match hitF L a with
  | some _ => if aboveF L a < i then 1 else 0
  | none => 0
theorem cnt_zero (L : List Rg) (a : Nat) : cntF L a 0 = 0 := by
  unfold cntF
  cases hitF L a <;> rfl
theorem cnt_all (L : List Rg) (a : Nat) : cntF L a L.length = match hitF L a with | some _ => 1 | none => 0 := by
  unfold cntF
  cases h : hitF L a with
  | none => rfl
  | some r =>
    dsimp only
    rw [if_pos (List.getElem?_eq_some_iff.1 (hit_at h).1).1]
theorem cnt_yes {L : List Rg} {a i : Nat} {s : Rg} (h : i = aboveF L a ∧ hitF L a = some s) : cntF L a (i + 1) = cntF L a i + 1 := by
  unfold cntF
  rw [h.2]
  dsimp only
  rw [if_pos (by omega), if_neg (by omega)]
theorem cnt_no {L : List Rg} {a i : Nat} {s : Rg} (hs : L[i]? = some s) (h : ¬ (i = aboveF L a ∧ hitF L a = some s)) : cntF L a (i + 1) = cntF L a i := by
  unfold cntF
  cases hq : hitF L a with
  | none => rfl
  | some r =>
    dsimp only
    by_cases hi : i = aboveF L a
    · have h2 := (hit_at hq).1
      rw [← hi, hs] at h2
      exact absurd ⟨hi, by rw [hq, h2]⟩ h
    · by_cases h3 : aboveF L a < i
      · rw [if_pos (by omega), if_pos h3]
      · rw [if_neg (by omega), if_neg h3]

/-- What Find answers. -/
def fV (o : Option (Nat × Nat)) (c : Nat) : Value := match o with
  | some (p, q) => .tuple #[.agg #[.int .u64 (p : Int), .int .u64 (q : Int)], .int .i64 0]
  | none => .tuple #[.agg #[.int .u64 0, .int .u64 0], .int .i64 (c : Int)]
theorem find_uni (N : Nat) : ∃ (f : List Rg → Option (Nat × Nat)) (c : Nat), c ≠ 0 ∧ (∀ L k, Good L 4096 4194304 k → ∀ p q, f L = some (p, q) → ∃ l, q = p + l ∧ Found L 4096 4194304 l p) ∧
    ∀ L v W k, Good L 4096 4194304 k → k ≤ 999 → Lst W v L → Calls Try.prog 6 #[.agg #[.int .u64 4096, .int .u64 4194304, v], .int .u64 (N : Int)] W (Makes (fV (f L) c) W) := by
  by_cases h : N = 0 ∨ 274877906944 < N
  · refine ⟨fun _ => none, 2, by omega, fun _ _ _ _ _ h => by simp at h, fun L v W k hg hk hl => ?_⟩
    obtain ⟨sa, n, c, rfl, _⟩ := lst_one hl
    exact find_bad 4096 4194304 (N : Int) _ ⟨sa, n, c, rfl⟩ (by omega) W
  · obtain ⟨l, x, hs, hc⟩ := find_any N (by omega) (by omega)
    refine ⟨fun L => (lowF l x (up 4096 x) (wallsF L 4194304)).map (fun p => (p, p + l)), 15, by omega, fun L k hg p q hf => ?_, fun L v W k hg hk hl => ?_⟩
    · dsimp only at hf
      cases hq : lowF l x (up 4096 x) (wallsF L 4194304) with
      | none => rw [hq] at hf; cases hf
      | some r =>
        rw [hq] at hf
        simp only [Option.map_some, Option.some.injEq, Prod.mk.injEq] at hf
        obtain ⟨rfl, rfl⟩ := hf
        exact ⟨l, rfl, (found hg.asc hg.ins (by omega) hs hq).1⟩
    · have := hc 4096 4194304 v L W hg.asc (by omega) (by have := hg.len; omega) hl
      dsimp only
      cases hq : lowF l x (up 4096 x) (wallsF L 4194304) with
      | none => rw [hq] at this; exact this
      | some r => rw [hq] at this; exact this

set_option maxRecDepth 100000 in
set_option maxHeartbeats 16000000 in
theorem walk (num addr : BitVec 64) (v : Value) (l : List ActD) (w : World) (hl : IsActs w l v) : Calls Try.prog 3 #[v, .int .u64 (num.toNat : Int), .int .u64 (addr.toNat : Int)] w (Makes (.bool true) w) := by
  obtain ⟨s, cap, rfl, hacts⟩ := acts_form hl
  have C1 := hide one_any
  have CN : Hid (∀ W, Calls Try.prog 4 #[.agg #[.int .u64 4096, .int .u64 4194304]] W (Makes (.tuple #[.agg #[.int .u64 4096, .int .u64 4194304, .slice none 0 0], .int .i64 0]) W)) := hide (fun W => by
    have := new_any 4096 4194304 W
    rwa [if_pos (by decide)] at this)
  have CP : Hid (∀ (L : List Rg) (v : Value) (d : ActD) W, L.length ≤ 1000 → Lst W v L → ∃ b t : Nat, Calls Try.prog 5 #[.agg #[.int .u64 4096, .int .u64 4194304, v], .agg #[.int .i64 d.kind, .int .i64 d.pick, .int .u64 (d.n.toNat : Int), .int .u64 (d.s1.toNat : Int), .int .u64 (d.s2.toNat : Int)]] W (Makes (.agg #[.int .u64 (b : Int), .int .u64 (t : Int)]) W)) := hide (fun L v d W hn h => pick_any 4096 4194304 d.n.toNat d.s1.toNat d.s2.toNat d.kind d.pick v L hn W h)
  have CF := hide find_uni
  have CA : Hid (∀ (L : List Rg) (v : Value) (ln p : Nat) W, Good L 4096 4194304 999 → Found L 4096 4194304 ln p → Lst W v L → Calls Try.prog 7 #[.agg #[.int .u64 4096, .int .u64 4194304, v], .agg #[.int .u64 (p : Int), .int .u64 ((p + ln : Nat) : Int)]] W fun e w' => ∃ v', e = .returned (.tuple #[.agg #[.int .u64 4096, .int .u64 4194304, v'], .int .i64 0]) ∧ Lst w' v' (putF L p (p + ln)) ∧ Below W.heap.size W w') := hide (fun L v ln p W hg hf h => add_any 4096 4194304 p (p + ln) v L hg.asc hg.len (found_paged hf) (found_within hf) (found_free hf) W h)
  have CH : Hid (∀ (L : List Rg) (v : Value) (b t : Nat) W, L.length ≤ 1000 → Lst W v L → Calls Try.prog 8 #[.agg #[.int .u64 4096, .int .u64 4194304, v], .agg #[.int .u64 (b : Int), .int .u64 (t : Int)]] W fun e w' => ∃ v', e = .returned (.tuple #[.agg #[.int .u64 4096, .int .u64 4194304, v'], .int .i64 ((opHold L b t).2 : Int)]) ∧ Lst w' v' (opHold L b t).1 ∧ Below W.heap.size W w') := hide (fun L v b t W hn h => hold_any 4096 4194304 b t v L hn W h)
  have CD : Hid (∀ (L : List Rg) (v : Value) (b t : Nat) W, L.length ≤ 1000 → Lst W v L → Calls Try.prog 9 #[.agg #[.int .u64 4096, .int .u64 4194304, v], .agg #[.int .u64 (b : Int), .int .u64 (t : Int)]] W fun e w' => ∃ v', e = .returned (.tuple #[.agg #[.int .u64 4096, .int .u64 4194304, v'], .int .i64 ((opDrop L b t).2 : Int)]) ∧ Lst w' v' (opDrop L b t).1 ∧ Below W.heap.size W w') := hide (fun L v b t W hn h => drop_any 4096 4194304 b t v L hn W h)
  have CL : Hid (∀ (L : List Rg) (v : Value) W, L.length ≤ 1000 → Lst W v L → Calls Try.prog 10 #[.agg #[.int .u64 4096, .int .u64 4194304, v]] W fun e w' => ∃ v', e = .returned v' ∧ Lst w' v' L ∧ Below W.heap.size W w') := hide (fun L v W hn h => all_any 4096 4194304 v L W hn h)
  have CT : Hid (∀ (L : List Rg) (v : Value) W, Asc L → L.length ≤ 1000 → Lst W v L → Calls Try.prog 11 #[.agg #[.int .u64 4096, .int .u64 4194304, v], .int .u64 (addr.toNat : Int)] W (Makes (hitV (hitF L addr.toNat)) W)) := hide (fun L v W hA hn h => by rw [← at_hit]; exact at_any 4096 4194304 addr.toNat v L hA hn W h)
  have HA := hide hacts
  clear hl hacts
  have SS := cell_same
  go_enter Try.func3, Try.ntmps3
  go_upto_region 2 with (go_at_call 4; (with_reducible refine (CN.out _).mono ?_); rintro e w1 ⟨rfl, hb1⟩)
  refine wp_abs (fun W => MapAt W w1.heap.size 4096 4194304 (.slice none 0 0) [] ∧ Below w.heap.size w W) ⟨ma_new rfl (lst_nil _), bw_alloc hb1 _⟩ ?_
  have hmb := hb1.size
  clear hb1
  generalize w1.heap.size = mb at *
  rintro w2 ⟨hm2, hB2⟩
  go_upto_region 4 with fail
  repeat ((fail_if_success (with_reducible show Code.wp _ (Code.block _ _) _ _ _)); first | go_values | go_skip | go_guarded | go_step | go_upon | go_back | (simp only [Int.not_lt, Int.not_le] at *; go_simp) | (go_values <;> (try go_simp)))
  go_cut [9] (fun s9 wx => ∃ v L, MapAt wx mb 4096 4194304 v L ∧ Good L 4096 4194304 40 ∧ Below w.heap.size w wx)
  case first =>
    go_wp2_with fail
    go_loopw [9] (fun i wr => ∃ (k : Nat) (v : Value) (L : List Rg), i = .int .i64 (k : Int) ∧ k ≤ 40 ∧ k ≤ l.length ∧ MapAt wr mb 4096 4194304 v L ∧ Good L 4096 4194304 k ∧ Below w.heap.size w wr) (fun i _ => 40 - (intOf i).toNat)
    case atStart => exact ⟨0, _, [], rfl, by omega, by omega, hm2, good_nil _ _, hB2⟩
    case round =>
      obtain ⟨k, v, L, rfl, hk, hkl, hm, hg, hB⟩ := hrel
      by_cases hgo : k < l.length ∧ k < 40
      · obtain ⟨hk1, hk2⟩ := hgo
        obtain ⟨d, hd⟩ : ∃ d, l[k]? = some d := ⟨l[k], by simp [hk1]⟩
        obtain ⟨ab, off, rfl, hcells⟩ := HA.out k d hd
        have hlt : ab < w.heap.size := World.block_lt_of_cell? _ _ (hcells 0 _ rfl)
        have a0 := (hB.cell (p := ⟨ab, off + k * 5, none⟩) hlt).trans (hcells 0 _ rfl)
        have a1 := (hB.cell (p := ⟨ab, off + k * 5 + 1, none⟩) hlt).trans (hcells 1 _ rfl)
        have a2 := (hB.cell (p := ⟨ab, off + k * 5 + 2, none⟩) hlt).trans (hcells 2 _ rfl)
        have a3 := (hB.cell (p := ⟨ab, off + k * 5 + 3, none⟩) hlt).trans (hcells 3 _ rfl)
        have a4 := (hB.cell (p := ⟨ab, off + k * 5 + 4, none⟩) hlt).trans (hcells 4 _ rfl)
        have g1 : (k : Int) < (l.length : Int) := by omega
        have g2 : (k : Int) < 40 := by omega
        have g3 := lst_one hm.lst
        have HL := hide hkl
        clear hkl
        generalize l.length = len at *
        obtain ⟨sv, nv, cv, rfl, -⟩ := g3
        have hlen : L.length ≤ 1000 := by have := hg.len; omega
        have m0 := hm.c0
        have m1 := hm.c1
        have m2 := hm.c2
        have hmbl : mb < wr.heap.size := World.block_lt_of_cell? _ _ m0
        go_upto_region 8 with fail
        refine wp_abs (fun W => MapAt W mb 4096 4194304 (.slice sv nv cv) L ∧ Row W wr.heap.size [.int .i64 d.kind, .int .i64 d.pick, .int .u64 (d.n.toNat : Int), .int .u64 (d.s1.toNat : Int), .int .u64 (d.s2.toNat : Int)] ∧ Below w.heap.size w W) ⟨ma_al _ hm, row_new rfl rfl, below_alloc hB (Nat.le_refl _) _⟩ ?_
        generalize wr.heap.size = xb at *
        clear hm m0 m1 m2 hmbl a0 a1 a2 a3 a4 hB hlt hcells hd
        rintro w8 ⟨hm, ha, hB⟩
        obtain ⟨b, t, cp⟩ := CP.out L _ d w8 hlen hm.lst
        have CPP := hide cp
        have m0 := hm.c0
        have m1 := hm.c1
        have m2 := hm.c2
        have a0 := ha 0 _ rfl
        have a1 := ha 1 _ rfl
        have a2 := ha 2 _ rfl
        have a3 := ha 3 _ rfl
        have a4 := ha 4 _ rfl
        clear cp ha
        go_upto_region 9 with (go_at_call 5; (with_reducible refine CPP.out.mono ?_); rintro e w9 ⟨rfl, hb9⟩)
        refine wp_abs (fun W => MapAt W mb 4096 4194304 (.slice sv nv cv) L ∧ W.cell? ⟨xb, 0, none⟩ = some (.int .i64 d.kind) ∧ W.cell? ⟨xb, 2, none⟩ = some (.int .u64 (d.n.toNat : Int)) ∧ Row W w9.heap.size [.int .u64 (b : Int), .int .u64 (t : Int)] ∧ Below w.heap.size w W) ⟨ma_al _ (ma_be hb9 hm), c_al _ (c_be hb9 a0), c_al _ (c_be hb9 a2), row_new rfl rfl, below_alloc (bw_behind hb9 hB) (Nat.le_refl _) _⟩ ?_
        generalize w9.heap.size = sb at *
        clear hm m0 m1 m2 a0 a1 a2 a3 a4 hB hb9 CPP
        rintro wd ⟨hm, a0, a2, hs, hB⟩
        have m0 := hm.c0
        have m1 := hm.c1
        have m2 := hm.c2
        have s0 := hs 0 _ rfl
        have s1 := hs 1 _ rfl
        clear hs
        have htm : (d.n.toNat : Int).tmod 50000 = ((d.n.toNat % 50000 : Nat) : Int) := by rw [Int.tmod_eq_emod_of_nonneg (by omega)]; omega
        generalize d.kind = K at *
        generalize (d.n.toNat : Int) = NI at *
        generalize d.n.toNat % 50000 = NM at *
        have hcc : True := trivial
        by_cases hK : K = 0 ∨ K = 1
        · obtain ⟨f, c, hc0, hf, hcall⟩ := CF.out NM
          have h1 := hcall L (.slice sv nv cv) wd k hg (by omega) hm.lst
          clear hcall
          rcases hK with rfl | rfl
          all_goals
            cases hfl : f L with
            | none =>
              rw [hfl] at h1
              have CFI : Hid (Calls Try.prog 6 #[.agg #[.int .u64 4096, .int .u64 4194304, .slice sv nv cv], .int .u64 (NM : Int)] wd (Makes (.tuple #[.agg #[.int .u64 0, .int .u64 0], .int .i64 (c : Int)]) wd)) := hide h1
              clear h1
              have hc1 : ¬ (c : Int) = 0 := by omega
              generalize (c : Int) = CI at *
              go_wp2_with (go_at_call 6; (with_reducible refine CFI.out.mono ?_); rintro e wf ⟨rfl, hbf⟩)
              go_roundw
              case rel => exact ⟨k + 1, _, L, by go_num, by omega, by have := HL.out; omega, ma_al _ (ma_be hbf hm), good_more hg (by omega), below_alloc (bw_behind hbf hB) (Nat.le_refl _) _⟩
              case measure => simp [intOf]; omega
            | some pq =>
              obtain ⟨p, q⟩ := pq
              rw [hfl] at h1
              have CFI : Hid (Calls Try.prog 6 #[.agg #[.int .u64 4096, .int .u64 4194304, .slice sv nv cv], .int .u64 (NM : Int)] wd (Makes (.tuple #[.agg #[.int .u64 (p : Int), .int .u64 (q : Int)], .int .i64 0]) wd)) := hide h1
              clear h1
              obtain ⟨ln, rfl, hfd⟩ := hf L k hg p q hfl
              have CAI := hide (fun (v : Value) W (h : Lst W v L) => CA.out L v ln p W (good_more hg (by omega)) hfd h)
              have hgp := hide (good_put hg (by omega) hfd)
              clear hf hfl
              generalize ((p + ln : Nat) : Int) = QI at *
              generalize (p : Int) = PI at *
              go_upto_region 14 with (go_at_call 6; (with_reducible refine CFI.out.mono ?_); rintro e wf ⟨rfl, hbf⟩)
              refine wp_abs (fun W => MapAt W mb 4096 4194304 (.slice sv nv cv) L ∧ Row W wf.heap.size [.int .u64 PI, .int .u64 QI] ∧ Below w.heap.size w W) ⟨ma_al _ (ma_be hbf hm), row_new rfl rfl, below_alloc (bw_behind hbf hB) (Nat.le_refl _) _⟩ ?_
              generalize wf.heap.size = fb at *
              clear hm m0 m1 m2 a0 a2 s0 s1 hB hbf CFI
              rintro we ⟨hm, hfr, hB⟩
              have m0 := hm.c0
              have m1 := hm.c1
              have m2 := hm.c2
              have f0 := hfr 0 _ rfl
              have f1 := hfr 1 _ rfl
              go_wp2_with (go_at_call 7; (with_reducible refine (CAI.out _ _ hm.lst).mono ?_); rintro e wg ⟨v2, rfl, hl2, hbg⟩; obtain ⟨sv2, nv2, cv2, rfl, -⟩ := lst_one hl2; have HM2 := ma_be hbg hm; have e0 := HM2.own.free 0 (by omega); have e1 := HM2.own.free 1 (by omega); have e2 := HM2.own.free 2 (by omega); have x0 := HM2.c0; have x1 := HM2.c1; have x2 := HM2.c2)
              go_roundw
              case rel => exact ⟨k + 1, _, _, by go_num, by omega, by have := HL.out; omega, ma_store HM2 hl2, hgp.out, bw_set (by show w.heap.size ≤ mb; omega) (bw_set (by show w.heap.size ≤ mb; omega) (bw_set (by show w.heap.size ≤ mb; omega) (bw_behind hbg hB) _) _) _⟩
              case measure => simp [intOf]; omega
        · have hK0 : ¬ K = 0 := fun e => hK (.inl e)
          have hK1 : ¬ K = 1 := fun e => hK (.inr e)
          clear hK htm
          by_cases hK2 : K = 2
          · subst hK2
            clear hK0 hK1
            generalize hHB : (b : Int) = BI at *
            generalize hHT : (t : Int) = TI at *
            have CHI := hide (fun (v : Value) W (h : Lst W v L) => CH.out L v b t W hlen h)
            rw [hHB, hHT] at CHI
            generalize ((opHold L b t).2 : Int) = HN at *
            go_wp2_with (go_at_call 8; (with_reducible refine (CHI.out _ _ hm.lst).mono ?_); rintro e wg ⟨v2, rfl, hl2, hbg⟩; obtain ⟨sv2, nv2, cv2, rfl, -⟩ := lst_one hl2; have HM2 := ma_be hbg hm; have e0 := HM2.own.free 0 (by omega); have e1 := HM2.own.free 1 (by omega); have e2 := HM2.own.free 2 (by omega); have x0 := HM2.c0; have x1 := HM2.c1; have x2 := HM2.c2)
            go_roundw
            case rel => exact ⟨k + 1, _, _, by go_num, by omega, by have := HL.out; omega, ma_store HM2 hl2, good_more (good_hold hg b t) (by omega), bw_set (by show w.heap.size ≤ mb; omega) (bw_set (by show w.heap.size ≤ mb; omega) (bw_set (by show w.heap.size ≤ mb; omega) (bw_behind hbg hB) _) _) _⟩
            case measure => simp [intOf]; omega
          · by_cases hK3 : K = 3
            · subst hK3
              clear hK0 hK1 hK2
              generalize hHB : (b : Int) = BI at *
              generalize hHT : (t : Int) = TI at *
              have CDI := hide (fun (v : Value) W (h : Lst W v L) => CD.out L v b t W hlen h)
              rw [hHB, hHT] at CDI
              generalize ((opDrop L b t).2 : Int) = HN at *
              go_wp2_with (go_at_call 9; (with_reducible refine (CDI.out _ _ hm.lst).mono ?_); rintro e wg ⟨v2, rfl, hl2, hbg⟩; obtain ⟨sv2, nv2, cv2, rfl, -⟩ := lst_one hl2; have HM2 := ma_be hbg hm; have e0 := HM2.own.free 0 (by omega); have e1 := HM2.own.free 1 (by omega); have e2 := HM2.own.free 2 (by omega); have x0 := HM2.c0; have x1 := HM2.c1; have x2 := HM2.c2)
              go_roundw
              case rel => exact ⟨k + 1, _, _, by go_num, by omega, by have := HL.out; omega, ma_store HM2 hl2, good_more (good_drop hg b t) (by omega), bw_set (by show w.heap.size ≤ mb; omega) (bw_set (by show w.heap.size ≤ mb; omega) (bw_set (by show w.heap.size ≤ mb; omega) (bw_behind hbg hB) _) _) _⟩
              case measure => simp [intOf]; omega
            · go_wp2_with fail
              go_roundw
              case rel => exact ⟨k + 1, _, L, by go_num, by omega, by have := HL.out; omega, hm, good_more hg (by omega), hB⟩
              case measure => simp [intOf]; omega
      · have hend : (¬ (k : Int) < (l.length : Int)) ∨ ((k : Int) < (l.length : Int) ∧ ¬ (k : Int) < 40) := by omega
        have HG := hide hg
        have HM := hide hm
        clear hgo hkl hg hm
        generalize l.length = len at *
        rcases hend with hend | ⟨hend1, hend⟩
        all_goals
          go_wp2_with fail
          go_meet
          exact ⟨v, L, HM.out, good_more HG.out (by omega), hB⟩
  case rest =>
    obtain ⟨v, L, hm, hg, hB⟩ := hcut
    clear hm2 hB2 HA
    obtain ⟨sv, nv, cv, rfl, -⟩ := lst_one hm.lst
    have hlen : L.length ≤ 1000 := by have := hg.len; omega
    obtain ⟨X, Y, Z, IS, hhv, hsome, hnone⟩ : ∃ (X Y Z : Int) (IS : Bool), hitV (hitF L addr.toNat) = .tuple #[.agg #[.int .u64 X, .int .u64 Y, .int .i64 Z], .bool IS] ∧ (∀ s, hitF L addr.toNat = some s → X = (s.b : Int) ∧ Y = (s.t : Int) ∧ Z = (s.k : Int) ∧ IS = true) ∧ (hitF L addr.toNat = none → X = 0 ∧ Y = 0 ∧ Z = 0 ∧ IS = false) := by
      cases hq : hitF L addr.toNat with
      | none => exact ⟨0, 0, 0, false, rfl, fun s h => (by cases h), fun _ => ⟨rfl, rfl, rfl, rfl⟩⟩
      | some s => exact ⟨_, _, _, true, rfl, fun s2 h => (by injection h with h; subst h; exact ⟨rfl, rfl, rfl, rfl⟩), fun h => (by cases h)⟩
    have CTI : Hid (∀ (v : Value) W, Lst W v L → Calls Try.prog 11 #[.agg #[.int .u64 4096, .int .u64 4194304, v], .int .u64 (addr.toNat : Int)] W (Makes (.tuple #[.agg #[.int .u64 X, .int .u64 Y, .int .i64 Z], .bool IS]) W)) := hide (fun v W h => by rw [← hhv]; exact CT.out L v W hg.asc hlen h)
    have HS := hide hsome
    have HNO := hide hnone
    clear hhv hsome hnone
    have m0 := hm.c0
    have m1 := hm.c1
    have m2 := hm.c2
    go_upto_region 20 with (go_at_call 10; (with_reducible refine (CL.out L _ _ hlen hm.lst).mono ?_); rintro e wa ⟨v1, rfl, hl1, hb1⟩; obtain ⟨s1, n1, c1, rfl, hn1⟩ := lst_one hl1)
    have hma := ma_be hb1 hm
    have hBa : Below w.heap.size w wa := bw_behind hb1 hB
    clear hm m0 m1 m2 hB hb1
    have m0 := hma.c0
    have m1 := hma.c1
    have m2 := hma.c2
    have HN1 := hide hn1
    clear hn1
    go_upto_region 21 with (go_at_call 11; (with_reducible refine (CTI.out _ _ hma.lst).mono ?_); rintro e wb ⟨rfl, hb2⟩)
    refine wp_abs (fun W => MapAt W mb 4096 4194304 (.slice sv nv cv) L ∧ Lst W (.slice s1 n1 c1) L ∧ Row W wb.heap.size [.int .u64 X, .int .u64 Y, .int .i64 Z] ∧ Below w.heap.size w W) ⟨ma_al _ (ma_be hb2 hma), lst_al _ (lst_be hb2 hl1), row_new rfl rfl, below_alloc (bw_behind hb2 hBa) (Nat.le_refl _) _⟩ ?_
    generalize wb.heap.size = rbx at *
    clear hma m0 m1 m2 hl1 hBa hb2
    rintro wc ⟨hm, hl1, hrr, hB⟩
    go_upto_region 22 with fail
    repeat ((fail_if_success (with_reducible show Code.wp _ (Code.block _ _) _ _ _)); first | go_values | go_skip | go_guarded | go_step | go_upon | go_back | (simp only [Int.not_lt, Int.not_le] at *; go_simp) | (go_values <;> (try go_simp)))
    have CNT0 := hide (cnt_zero L addr.toNat)
    have CNTA := hide (cnt_all L addr.toNat)
    go_cut [17] (fun s17 wx => s17 = .int .i64 (cntF L addr.toNat L.length : Int) ∧ ∃ q, wx = wc.drewN q)
    case first =>
      have HG := hide hg.asc
      have r0 := hrr 0 _ rfl
      have r1 := hrr 1 _ rfl
      have r2 := hrr 2 _ rfl
      have HL1 := hide hl1
      clear hm hrr hB hg hl1
      go_wp2_with fail
      go_loopw [17, 18] (fun s17 s18 wr => ∃ i q : Nat, i ≤ n1 ∧ s17 = .int .i64 (cntF L addr.toNat i : Int) ∧ s18 = .int .i64 (i : Int) ∧ wr = wc.drewN q) (fun _ s18 _ => n1 - (intOf s18).toNat)
      case atStart => exact ⟨0, 0, by omega, by rw [CNT0.out]; rfl, rfl, rfl⟩
      case round =>
        obtain ⟨i, q, hi, rfl, rfl, rfl⟩ := hrel
        rcases Nat.lt_or_eq_of_le hi with hil | rfl
        · have hil2 : i < L.length := by rw [← HN1.out]; exact hil
          obtain ⟨r, hr⟩ : ∃ r, L[i]? = some r := ⟨L[i], by simp [hil2]⟩
          have hl2 := HL1.out
          rcases hl2 with ⟨_, h3⟩ | ⟨g, c2, h3, h4, h5, h6, h7⟩
          · rw [h3] at hil2
            simp at hil2
          injection h3 with h8 h9 h10
          subst h8 h10
          obtain ⟨d0, d1, d2⟩ := row_at h7 hr
          have hci : ¬ (c1 = i) := by omega
          have hcn : (n1 : Int) ≤ (c1 : Int) := by omega
          have hii : (i : Int) < (n1 : Int) := by omega
          have hii2 : (i : Int) < (L.length : Int) := by omega
          have hcn2 : (L.length : Int) ≤ (c1 : Int) := by omega
          have hcont := holds_iff HG.out hr (a := addr.toNat)
          have HR := hide hr
          clear h7 h9 h4 hr hil2
          by_cases hin : i = aboveF L addr.toNat ∧ hitF L addr.toNat = some r
          · obtain ⟨h1, h2⟩ := hcont.2 hin
            obtain ⟨hX, hY, hZ, _⟩ := HS.out r hin.2
            have hcy := cnt_yes hin
            have hc2 : cntF L addr.toNat i ≤ 1 := by unfold cntF; split <;> (try split) <;> omega
            have he := eqi_g X Y Z X Y Z
            rw [show same3 X Y Z X Y Z = true by unfold same3; simp] at he
            rw [← hX] at d0
            rw [← hY] at d1
            rw [← hZ] at d2
            have t1 : X ≤ (addr.toNat : Int) := by omega
            have t2 : (addr.toNat : Int) < Y := by omega
            have HCY : Hid ((cntF L addr.toNat (i + 1) : Int) = (cntF L addr.toNat i : Int) + 1) := hide (by omega)
            have hc3 : (cntF L addr.toNat i : Int) ≤ 1 := by omega
            have hc4 : 0 ≤ (cntF L addr.toNat i : Int) := by omega
            clear hX hY hZ hcont hin h1 h2 hcy hc2
            generalize (addr.toNat : Int) = AI at *
            generalize (cntF L addr.toNat i : Int) = CN at *
            go_upto_region 27 with fail
            go_quiet (fail)
            go_wp2_with fail
            go_roundw
            case rel => exact ⟨i + 1, _, by omega, by rw [HCY.out], by go_num, by first | rfl | rw [World.drewN_drewN]⟩
            case measure => simp [intOf]; omega
          · have HCY : Hid (cntF L addr.toNat (i + 1) = cntF L addr.toNat i) := hide (cnt_no HR.out hin)
            have hnot : ¬ (r.b : Int) ≤ (addr.toNat : Int) ∨ ((r.b : Int) ≤ (addr.toNat : Int) ∧ ¬ (addr.toNat : Int) < (r.t : Int)) := by
              have := mt hcont.1 hin
              omega
            clear hcont hin
            generalize (r.b : Int) = RB at *
            generalize (r.t : Int) = RT at *
            generalize (r.k : Int) = RK at *
            generalize (addr.toNat : Int) = AI at *
            rcases hnot with t1 | ⟨t1, t2⟩
            all_goals
              go_wp2_with fail
              go_roundw
              case rel => exact ⟨i + 1, q, by omega, by rw [HCY.out], by go_num, rfl⟩
              case measure => simp [intOf]; omega
        · have HE : Hid (cntF L addr.toNat L.length = cntF L addr.toNat i) := hide (by rw [← HN1.out])
          have hend : ¬ ((i : Int) < (L.length : Int)) := by have := HN1.out; omega
          go_wp2_with fail
          go_meet
          exact ⟨by rw [HE.out], q, rfl⟩
    case rest =>
      obtain ⟨rfl, q, rfl⟩ := hcut
      have hcnt : (cntF L addr.toNat L.length = 1 ∧ IS = true) ∨ (cntF L addr.toNat L.length = 0 ∧ IS = false ∧ X = 0 ∧ Y = 0 ∧ Z = 0) := by
        have hca := CNTA.out
        cases hq : hitF L addr.toNat with
        | none =>
          rw [hq] at hca
          obtain ⟨h1, h2, h3, h4⟩ := HNO.out hq
          exact .inr ⟨hca, h4, h1, h2, h3⟩
        | some r =>
          rw [hq] at hca
          exact .inl ⟨hca, (HS.out r hq).2.2.2⟩
      obtain ⟨f, cd, hcd, hf, hcall⟩ := CF.out num.toNat
      have CFI : Hid (∀ (v : Value) W, Lst W v L → Calls Try.prog 6 #[.agg #[.int .u64 4096, .int .u64 4194304, v], .int .u64 (num.toNat : Int)] W (Makes (fV (f L) cd) W)) := hide (fun v W h => hcall L v W 40 hg (by omega) h)
      have HF := hide (hf L 40 hg)
      have hm1 := ma_dr q hm
      have hl2 := lst_dr q hl1
      have hB1 := below_drewN hB q
      have r0 : (wc.drewN q).cell? ⟨rbx, 0, none⟩ = some (.int .u64 X) := hrr 0 _ rfl
      have r1 : (wc.drewN q).cell? ⟨rbx, 1, none⟩ = some (.int .u64 Y) := hrr 1 _ rfl
      have r2 : (wc.drewN q).cell? ⟨rbx, 2, none⟩ = some (.int .i64 Z) := hrr 2 _ rfl
      clear hm hl1 hB hrr CNT0 CNTA hcall hf
      generalize wc.drewN q = wd at *
      have HG := hide hg
      clear hg
      generalize hCN : cntF L addr.toNat L.length = CN at *
      clear hCN
      generalize (num.toNat : Int) = NUM at *
      generalize (addr.toNat : Int) = AI at *
      have E1 := eq_g X Y Z X Y Z
      have E0 := eqi_g 0 0 0 0 0 0
      rw [show same3 0 0 0 0 0 0 = true by decide] at E0
      have E3 := ne_g 0 0 0 0 0 0
      rw [show same3 0 0 0 0 0 0 = true by decide] at E3
      clear E1
      go_upto_region 29 with fail
      go_cut [147] (fun s147 wx => s147 = .bool false ∧ wx = wd)
      case first =>
        rcases hcnt with ⟨rfl, rfl⟩ | ⟨rfl, rfl, rfl, rfl, rfl⟩
        all_goals
          go_wp2_with fail
          go_meet
          exact ⟨rfl, rfl⟩
      case rest =>
        obtain ⟨rfl, rfl⟩ := hcut
        clear hcnt r0 r1 r2 E0 E3
        cases hfl : f L with
        | none =>
          rw [hfl] at CFI
          have CFJ : Hid (∀ (v : Value) W, Lst W v L → Calls Try.prog 6 #[.agg #[.int .u64 4096, .int .u64 4194304, v], .int .u64 NUM] W (Makes (.tuple #[.agg #[.int .u64 0, .int .u64 0], .int .i64 (cd : Int)]) W)) := hide (fun v W h => CFI.out v W h)
          have hcd1 : ¬ (cd : Int) = 0 := by omega
          have hcd2 : ((cd : Int) == 0) = false := by simp; omega
          clear CFI HF hfl
          generalize (cd : Int) = CDI at *
          have m0 := hm1.c0
          have m1 := hm1.c1
          have m2 := hm1.c2
          go_wp2_with (first | (go_at_call 6; (with_reducible refine (CFJ.out _ _ hm1.lst).mono ?_); rintro e wf ⟨rfl, hbf⟩) | (go_at_call 12; (with_reducible refine (C1.out _).mono ?_); rintro e wg ⟨rfl, hbg⟩))
          go_ret
          exact ⟨rfl, by (repeat (first | with_reducible assumption | with_reducible exact Below.refl _ _ | with_reducible refine Below.drew ?_ | with_reducible refine below_drewN ?_ _ | with_reducible refine bw_alloc ?_ _ | (with_reducible refine bw_set ?_ ?_ _; focus (dsimp only; omega)) | (with_reducible apply bw_behind; with_reducible assumption)))⟩
        | some pq =>
          obtain ⟨p, pe⟩ := pq
          rw [hfl] at CFI
          have CFJ : Hid (∀ (v : Value) W, Lst W v L → Calls Try.prog 6 #[.agg #[.int .u64 4096, .int .u64 4194304, v], .int .u64 NUM] W (Makes (.tuple #[.agg #[.int .u64 (p : Int), .int .u64 (pe : Int)], .int .i64 0]) W)) := hide (fun v W h => CFI.out v W h)
          obtain ⟨ln, rfl, hfd⟩ := HF.out p pe hfl
          have CAI := hide (fun (v : Value) W (h : Lst W v L) => CA.out L v ln p W (good_more HG.out (by omega)) hfd h)
          have hne := hfd.ne
          have CHI := hide (fun (v : Value) W (h : Lst W v (putF L p (p + ln))) => CH.out (putF L p (p + ln)) v p (p + ln) W (by rw [put_len]; have := HG.out.len; omega) h)
          rw [hold_put hne] at CHI
          have CDI := hide (fun (v : Value) W (h : Lst W v (holdF (putF L p (p + ln)) (aboveF L p) ⟨p, p + ln, 1⟩)) => CD.out _ v p (p + ln) W (by rw [hold_len, put_len]; have := HG.out.len; omega) h)
          rw [drop_hold hne] at CDI
          have CLI := hide (fun (v : Value) W (h : Lst W v L) => CL.out L v W hlen h)
          clear CFI HF hfl CF CA CH CD CL hfd hne HG CP CTI
          generalize putF L p (p + ln) = LP at *
          generalize holdF LP (aboveF L p) ⟨p, p + ln, 1⟩ = LH at *
          generalize ((p + ln : Nat) : Int) = QI at *
          generalize (p : Int) = PI at *
          have m0 := hm1.c0
          have m1 := hm1.c1
          have m2 := hm1.c2
          go_upto_region 32 with (go_at_call 6; (with_reducible refine (CFJ.out _ _ hm1.lst).mono ?_); rintro e wf ⟨rfl, hbf⟩)
          refine wp_abs (fun W => MapAt W mb 4096 4194304 (.slice sv nv cv) L ∧ Lst W (.slice s1 n1 c1) L ∧ Row W wf.heap.size [.int .u64 PI, .int .u64 QI] ∧ Below w.heap.size w W) ⟨ma_al _ (ma_be hbf hm1), lst_al _ (lst_be hbf hl2), row_new rfl rfl, below_alloc (bw_behind hbf hB1) (Nat.le_refl _) _⟩ ?_
          generalize wf.heap.size = fb at *
          clear hm1 hl2 m0 m1 m2 hB1 hbf
          rintro we ⟨hm, hl, hf, hB⟩
          have m0 := hm.c0
          have m1 := hm.c1
          have m2 := hm.c2
          have f0 := hf 0 _ rfl
          have f1 := hf 1 _ rfl
          go_upto_region 35 with (go_at_call 7; (with_reducible refine (CAI.out _ _ hm.lst).mono ?_); rintro e wg ⟨v2, rfl, hlp, hbg⟩; obtain ⟨sv2, nv2, cv2, rfl, -⟩ := lst_one hlp)
          refine wp_abs (fun W => MapAt W wg.heap.size 4096 4194304 (.slice sv2 nv2 cv2) LP ∧ Lst W (.slice s1 n1 c1) L ∧ Row W fb [.int .u64 PI, .int .u64 QI] ∧ Below w.heap.size w W) ⟨ma_new rfl hlp, lst_al _ (lst_be hbg hl), k_al _ (k_be hbg hf), below_alloc (bw_behind hbg hB) (Nat.le_refl _) _⟩ ?_
          generalize wg.heap.size = xb at *
          clear hm hl hf m0 m1 m2 f0 f1 hB hbg hlp
          rintro wh ⟨hm, hl, hf, hB⟩
          have m0 := hm.c0
          have m1 := hm.c1
          have m2 := hm.c2
          have f0 := hf 0 _ rfl
          have f1 := hf 1 _ rfl
          go_upto_region 36 with (go_at_call 8; (with_reducible refine (CHI.out _ _ hm.lst).mono ?_); rintro e wi ⟨v3, rfl, hlp, hbg⟩; obtain ⟨sv3, nv3, cv3, rfl, -⟩ := lst_one hlp)
          refine wp_abs (fun W => MapAt W wi.heap.size 4096 4194304 (.slice sv3 nv3 cv3) LH ∧ Lst W (.slice s1 n1 c1) L ∧ Row W fb [.int .u64 PI, .int .u64 QI] ∧ Below w.heap.size w W) ⟨ma_new rfl hlp, lst_al _ (lst_be hbg hl), k_al _ (k_be hbg hf), below_alloc (bw_behind hbg hB) (Nat.le_refl _) _⟩ ?_
          generalize wi.heap.size = yb at *
          clear hm hl hf m0 m1 m2 f0 f1 hB hbg hlp
          rintro wj ⟨hm, hl, hf, hB⟩
          have m0 := hm.c0
          have m1 := hm.c1
          have m2 := hm.c2
          have f0 := hf 0 _ rfl
          have f1 := hf 1 _ rfl
          go_upto_region 37 with (go_at_call 9; (with_reducible refine (CDI.out _ _ hm.lst).mono ?_); rintro e wk ⟨v4, rfl, hlp, hbg⟩; obtain ⟨sv4, nv4, cv4, rfl, -⟩ := lst_one hlp)
          refine wp_abs (fun W => MapAt W wk.heap.size 4096 4194304 (.slice sv4 nv4 cv4) L ∧ Lst W (.slice s1 n1 c1) L ∧ Row W fb [.int .u64 PI, .int .u64 QI] ∧ Below w.heap.size w W) ⟨ma_new rfl hlp, lst_al _ (lst_be hbg hl), k_al _ (k_be hbg hf), below_alloc (bw_behind hbg hB) (Nat.le_refl _) _⟩ ?_
          generalize wk.heap.size = zb at *
          clear hm hl hf m0 m1 m2 f0 f1 hB hbg hlp
          rintro wm ⟨hm, hl, hf, hB⟩
          have m0 := hm.c0
          have m1 := hm.c1
          have m2 := hm.c2
          go_upto_region 38 with (go_at_call 10; (with_reducible refine (CLI.out _ _ hm.lst).mono ?_); rintro e wn ⟨v5, rfl, hlp, hbg⟩; obtain ⟨s5, n5, c5, rfl, hn5⟩ := lst_one hlp)
          refine wp_abs (fun W => MapAt W zb 4096 4194304 (.slice sv4 nv4 cv4) L ∧ Lst W (.slice s1 n1 c1) L ∧ Lst W (.slice s5 n5 c5) L ∧ Row W fb [.int .u64 PI, .int .u64 QI] ∧ Below w.heap.size w W) ⟨ma_be hbg hm, lst_be hbg hl, hlp, k_be hbg hf, bw_behind hbg hB⟩ ?_
          clear hm hl hf m0 m1 m2 hB hbg hlp
          rintro wo ⟨hm, hl1, hl5, hf, hB⟩
          have HN5 := hide hn5
          clear hn5
          have hlen2 : (L.length : Int) = (L.length : Int) := rfl
          go_upto_region 40 with fail
          repeat ((fail_if_success (with_reducible show Code.wp _ (Code.block _ _) _ _ _)); first | go_values | go_skip | go_guarded | go_step | go_upon | go_back | (simp only [Int.not_lt, Int.not_le] at *; go_simp) | (go_values <;> (try go_simp)))
          go_cut [] (fun wx => ∃ q, wx = wo.drewN q)
          case first =>
            have HL1 := hide hl1
            have HL5 := hide hl5
            clear hm hl1 hl5 hf hB
            go_wp2_with fail
            go_loopw [27] (fun s27 wr => ∃ i q : Nat, i ≤ L.length ∧ s27 = .int .i64 (i : Int) ∧ wr = wo.drewN q) (fun s27 _ => L.length - (intOf s27).toNat)
            case atStart => exact ⟨0, 0, by omega, rfl, rfl⟩
            case round =>
              obtain ⟨i, q, hi, rfl, rfl⟩ := hrel
              rcases Nat.lt_or_eq_of_le hi with hil | rfl
              · obtain ⟨r, hr⟩ : ∃ r, L[i]? = some r := ⟨L[i], by simp [hil]⟩
                have hl1 := HL1.out
                have hl5 := HL5.out
                rcases hl1 with ⟨_, h3⟩ | ⟨g, c2, h3, h4, h5, h6, h7⟩
                · rw [h3] at hil
                  simp at hil
                rcases hl5 with ⟨_, k3⟩ | ⟨g5, c3, k3, k4, k5, k6, k7⟩
                · rw [k3] at hil
                  simp at hil
                injection h3 with h8 h9 h10
                subst h8 h10
                injection k3 with k8 k9 k10
                subst k8 k10
                obtain ⟨d0, d1, d2⟩ := row_at h7 hr
                obtain ⟨b0, b1, b2⟩ := row_at k7 hr
                have he := eqi_g (r.b : Int) (r.t : Int) (r.k : Int) (r.b : Int) (r.t : Int) (r.k : Int)
                rw [show same3 (r.b : Int) (r.t : Int) (r.k : Int) (r.b : Int) (r.t : Int) (r.k : Int) = true by unfold same3; simp] at he
                have hci : ¬ (c1 = i) := by omega
                have hci5 : ¬ (c5 = i) := by omega
                have hcn2 : (L.length : Int) ≤ (c1 : Int) := by omega
                have hcn5 : (L.length : Int) ≤ (c5 : Int) := by omega
                have hii2 : (i : Int) < (L.length : Int) := by omega
                clear h7 h9 h4 hr k7 k9 k4
                generalize (r.b : Int) = RB at *
                generalize (r.t : Int) = RT at *
                generalize (r.k : Int) = RK at *
                go_upto_region 43 with fail
                go_quiet (fail)
                go_wp2_with fail
                go_roundw
                case rel => exact ⟨i + 1, _, by omega, by go_num, by first | rfl | rw [World.drewN_drewN]⟩
                case measure => simp [intOf]; omega
              · go_wp2_with fail
                go_meet
                exact ⟨q, rfl⟩
          case rest =>
            obtain ⟨q, rfl⟩ := hcut
            have hm1 := ma_dr q hm
            have hf1 := k_dr q hf
            have hB1 := below_drewN hB q
            clear hm hl1 hl5 hf hB
            generalize wo.drewN q = wp at *
            have m0 := hm1.c0
            have m1 := hm1.c1
            have m2 := hm1.c2
            go_upto_region 46 with (go_at_call 6; (with_reducible refine (CFJ.out _ _ hm1.lst).mono ?_); rintro e wf ⟨rfl, hbf⟩)
            refine wp_abs (fun W => Row W fb [.int .u64 PI, .int .u64 QI] ∧ Row W wf.heap.size [.int .u64 PI, .int .u64 QI] ∧ Below w.heap.size w W) ⟨k_al _ (k_be hbf hf1), row_new rfl rfl, below_alloc (bw_behind hbf hB1) (Nat.le_refl _) _⟩ ?_
            generalize wf.heap.size = gb at *
            clear hm1 hf1 m0 m1 m2 hB1 hbf
            rintro wr ⟨hf, hg, hB⟩
            have f0 := hf 0 _ rfl
            have f1 := hf 1 _ rfl
            have g0 := hg 0 _ rfl
            have g1 := hg 1 _ rfl
            have E1 := eq_s PI QI PI QI
            have E2 := eqi_s PI QI PI QI
            simp only [decide_true, Bool.and_self] at E1 E2
            clear hf hg
            go_wp2_with (go_at_call 12; (with_reducible refine (C1.out _).mono ?_); rintro e wg ⟨rfl, hbg⟩)
            go_ret
            exact ⟨rfl, by (repeat (first | with_reducible assumption | with_reducible exact Below.refl _ _ | with_reducible refine Below.drew ?_ | with_reducible refine below_drewN ?_ _ | with_reducible refine bw_alloc ?_ _ | (with_reducible refine bw_set ?_ ?_ _; focus (dsimp only; omega)) | (with_reducible apply bw_behind; with_reducible assumption)))⟩
end Go.Proofs.Ytnepnckiciapfaa.RegionTells
