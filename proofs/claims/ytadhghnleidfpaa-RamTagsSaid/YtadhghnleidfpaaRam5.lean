/-
  What Page.putCapability turns, and what Page.capability answers.
-/
import Derived.Test.YtadhghnleidfpaaRamCap
import Derived.Test.YtadhghnleidfpaaRam3
import Derived.Deep.RegionLaw
namespace Go.Proofs.Ytadhghnleidfpaa
open Go.RowKit Words

/-- copy out of a row of cells into others, as one step of a region that draws its order. -/
theorem step_copy_cells {P : Program} {ops : Array Oper} {o : Oper} {a : Act} {w : World} {K : Act → World → Prop} {Q : Exit → Act → World → Prop} {E : Prop} (hgd : o.guard = none) (d s : Operand) (dT sT : TypeId)
    (ho : o.op = .call { callee := .builtin .copy, args := #[d, s], argTypes := #[dT, sT] }) (elem : TypeId) (hu : P.underlying dT = some (.slice elem)) (hsz : (P.info? elem).map (·.size) = some 1)
    (b off dLen dCap : Nat) (ad : Addr) (sLen sCap : Nat) (hd : a.eval d = .slice (some ⟨b, off, none⟩) dLen dCap) (hs : a.eval s = .slice (some ad) sLen sCap) (cs : List Value) (hn : cs.length = Nat.min sLen dLen)
    (hsrc : ∀ j v, cs[j]? = some v → w.cell? (ad.add j) = some v) (hc : ∀ j, j < cs.length → (w.cell? ⟨b, off + j, none⟩).isSome = true) (hf : ∀ j, j < cs.length → w.frozen? ⟨b, off + j, none⟩ = false) (h1 : ∀ v ∈ cs, v.oneCell' = true)
    (h : K (a.put o.dst (goInt cs.length)) (w.setCells b off cs)) : if Region.wanted o (yielded ops a.tmps) = true then Oper.wp P o a w K Q else E := by
  have hw : Region.wanted o (yielded ops a.tmps) = true := by simp [Region.wanted, hgd]
  rw [if_pos hw]
  have hrun := run_copy_cells (P := P) w dT sT o.type elem b off dLen dCap ad sLen sCap cs hu hsz hn hsrc hc hf h1
  unfold Oper.wp
  simp [execOp, ho, resolve, invoke, builtin, hd, hs, hrun, Result.andThen]
  exact h
/-- Bytes off .. off + 15 are those of f. -/
def putC (B : Nat → BitVec 8) (off : Nat) (f : Nat → BitVec 8) : Nat → BitVec 8 := fun j => if off ≤ j ∧ j < off + 16 then f (j - off) else B j
def sixteen (f : Nat → BitVec 8) : List Value := [byI (f 0), byI (f 1), byI (f 2), byI (f 3), byI (f 4), byI (f 5), byI (f 6), byI (f 7), byI (f 8), byI (f 9), byI (f 10), byI (f 11), byI (f 12), byI (f 13), byI (f 14), byI (f 15)]
theorem sixteen_at (f : Nat → BitVec 8) (j : Nat) (hj : j < 16) : (sixteen f)[j]? = some (byI (f j)) := by
  have : j = 0 ∨ j = 1 ∨ j = 2 ∨ j = 3 ∨ j = 4 ∨ j = 5 ∨ j = 6 ∨ j = 7 ∨ j = 8 ∨ j = 9 ∨ j = 10 ∨ j = 11 ∨ j = 12 ∨ j = 13 ∨ j = 14 ∨ j = 15 := by omega
  rcases this with rfl | rfl | rfl | rfl | rfl | rfl | rfl | rfl | rfl | rfl | rfl | rfl | rfl | rfl | rfl | rfl <;> rfl
theorem sixteen_one (f : Nat → BitVec 8) : ∀ v ∈ sixteen f, v.oneCell' = true := by
  intro v hv
  obtain ⟨j, hj, rfl⟩ := List.getElem_of_mem hv
  have h := sixteen_at f j hj
  rw [List.getElem?_eq_getElem hj] at h
  injection h with h
  rw [h]
  rfl
theorem pg_cells {W : World} {N o : Nat} {B : Nat → BitVec 8} {s : BitVec 256} {off : Nat} (f : Nat → BitVec 8) (ho : off + 16 ≤ 4096) (h : PageAt W N o B s) : PageAt (W.setCells N (o + off) (sixteen f)) N o (putC B off f) s := by
  refine ⟨fun k hk => ?_, fun q hq => ?_, fun k hk => by rw [World.frozen?_setCells]; exact h.free k hk⟩
  · unfold putC
    by_cases e : off ≤ k ∧ k < off + 16
    · rw [if_pos e]
      obtain ⟨j, rfl⟩ : ∃ j, k = off + j := ⟨k - off, by omega⟩
      have hj : j < (sixteen f).length := by show j < 16; omega
      have h2 := World.cell?_setCells_in N (sixteen f) (o + off) W (fun i hi => by
        have hi : i < 16 := hi
        rw [Nat.add_assoc, h.byte (off + i) (by omega)]; rfl) j hj
      rw [Nat.add_assoc] at h2
      rw [h2, Nat.add_sub_cancel_left]
      have h3 := sixteen_at f j hj
      rw [List.getElem?_eq_getElem hj] at h3
      exact h3
    · rw [if_neg e]
      refine (World.cell?_setCells_out N _ _ W _ (fun _ _ => ?_)).trans (h.byte k hk)
      show o + k < o + off ∨ o + off + 16 ≤ o + k
      omega
  · refine (World.cell?_setCells_out N _ _ W _ (fun _ _ => ?_)).trans (h.word q hq)
    show o + 4096 + q < o + off ∨ o + off + 16 ≤ o + 4096 + q
    omega
theorem out_cells {N o : Nat} {a : World} : ∀ (l : List Value) (i : Nat) (b : World), o ≤ i → i + l.length ≤ o + 4100 → Out N o a b → Out N o a (b.setCells N i l)
  | [], _, _, _, _, h => h
  | v :: l, i, b, h1, h2, h => by
    rw [World.setCells]
    have h3 : i + (l.length + 1) ≤ o + 4100 := h2
    exact out_cells l (i + 1) _ (by omega) (by omega) (out_in v h1 (by omega) h)
theorem setCells_else (N : Nat) (l : List Value) (i : Nat) (W : World) (a : Addr) (v : Value) (hne : N ≠ a.block) (h : W.cell? a = some v) : (W.setCells N i l).cell? a = some v :=
  (World.cell?_setCells_out N l i W a (fun e _ => absurd e.symm hne)).trans h
theorem setCells_size (N : Nat) : ∀ (l : List Value) (i : Nat) (W : World), (W.setCells N i l).heap.size = W.heap.size
  | [], _, _ => rfl
  | v :: l, i, W => by rw [World.setCells, setCells_size N l (i + 1) _]; simp [World.setCell]
theorem u8_one : (Try.prog.info? 5).map (·.size) = some 1 := by kernel_rfl

set_option maxRecDepth 100000 in
set_option maxHeartbeats 4000000 in
theorem putcap_any (N o off : Nat) (G : Int) (q : Bool) (m a : BitVec 64) (B : Nat → BitVec 8) (s : BitVec 256) (ho : off + 16 ≤ 4096) (hG : (off : Int) / 16 = G) (hG2 : (off : Int).tdiv 16 = G) (w : World) (h : PageAt w N o B s) :
    Calls Try.prog 12 #[.pointer (some ⟨N, o, none⟩), .int .i64 (off : Int), .agg #[.bool q, .int .u64 (m.toNat : Int), .int .u64 (a.toNat : Int)]] w fun e w' => e = .returned (.tuple #[]) ∧ PageAt w' N o (putC B off (capF m a)) (withS s G q) ∧ Out N o w w' := by
  have HP := hide h
  have hG3 : IntKind.i64.wrap G = G := by rw [IntKind.wrap_i64]; omega
  have hN : N < w.heap.size := h.here
  clear h
  have c1 := fun W => bytes_fn q m a W
  have hl : sixteen (capF m a) = [.int .u8 ((capF m a 0).toNat : Int), .int .u8 ((capF m a 1).toNat : Int), .int .u8 ((capF m a 2).toNat : Int), .int .u8 ((capF m a 3).toNat : Int), .int .u8 ((capF m a 4).toNat : Int), .int .u8 ((capF m a 5).toNat : Int), .int .u8 ((capF m a 6).toNat : Int), .int .u8 ((capF m a 7).toNat : Int), .int .u8 ((capF m a 8).toNat : Int), .int .u8 ((capF m a 9).toNat : Int), .int .u8 ((capF m a 10).toNat : Int), .int .u8 ((capF m a 11).toNat : Int), .int .u8 ((capF m a 12).toNat : Int), .int .u8 ((capF m a 13).toNat : Int), .int .u8 ((capF m a 14).toNat : Int), .int .u8 ((capF m a 15).toNat : Int)] := rfl
  unfold byI at c1
  generalize ((capF m a 0).toNat : Int) = X0 at *
  generalize ((capF m a 1).toNat : Int) = X1 at *
  generalize ((capF m a 2).toNat : Int) = X2 at *
  generalize ((capF m a 3).toNat : Int) = X3 at *
  generalize ((capF m a 4).toNat : Int) = X4 at *
  generalize ((capF m a 5).toNat : Int) = X5 at *
  generalize ((capF m a 6).toNat : Int) = X6 at *
  generalize ((capF m a 7).toNat : Int) = X7 at *
  generalize ((capF m a 8).toNat : Int) = X8 at *
  generalize ((capF m a 9).toNat : Int) = X9 at *
  generalize ((capF m a 10).toNat : Int) = X10 at *
  generalize ((capF m a 11).toNat : Int) = X11 at *
  generalize ((capF m a 12).toNat : Int) = X12 at *
  generalize ((capF m a 13).toNat : Int) = X13 at *
  generalize ((capF m a 14).toNat : Int) = X14 at *
  generalize ((capF m a 15).toNat : Int) = X15 at *
  have C1 := hide c1
  have HL := hide hl
  clear c1 hl
  have C2 := hide (fun W => with_any s G q W)
  have HT := hide (fun W => @pg_tags W N o (putC B off (capF m a)) s (withS s G q))
  generalize withS s G q = t at *
  generalize ((wd t 0).toNat : Int) = T0 at *
  generalize ((wd t 1).toNat : Int) = T1 at *
  generalize ((wd t 2).toNat : Int) = T2 at *
  generalize ((wd t 3).toNat : Int) = T3 at *
  generalize (m.toNat : Int) = M at *
  generalize (a.toNat : Int) = A at *
  have SS := cell_same
  have LB' := ltB_add
  have LS := ltB_self
  have LA' := alloc_reads
  have LH := alloc_holds
  go_enter Try.func12, Try.ntmps12
  go_upto_region 2 with (first | (go_at_call 10; (with_reducible first | refine (C1.out _).mono ?_); rintro e w1 ⟨rfl, hb1⟩; have hr1 := below_reads hb1; have hh1 := below_holds hb1; obtain ⟨m1, hs1⟩ := below_grew hb1))
  refine wp_abs (fun W => PageAt W N o B s ∧ Out N o w W ∧ Below w.heap.size w W ∧ W.cell? ⟨w.heap.size, 0, none⟩ = some (.bool q) ∧ W.cell? ⟨w.heap.size + 1 + m1, 0, none⟩ = some (.int .u8 X0) ∧ W.cell? ⟨w.heap.size + 1 + m1, 1, none⟩ = some (.int .u8 X1) ∧ W.cell? ⟨w.heap.size + 1 + m1, 2, none⟩ = some (.int .u8 X2) ∧ W.cell? ⟨w.heap.size + 1 + m1, 3, none⟩ = some (.int .u8 X3) ∧ W.cell? ⟨w.heap.size + 1 + m1, 4, none⟩ = some (.int .u8 X4) ∧ W.cell? ⟨w.heap.size + 1 + m1, 5, none⟩ = some (.int .u8 X5) ∧ W.cell? ⟨w.heap.size + 1 + m1, 6, none⟩ = some (.int .u8 X6) ∧ W.cell? ⟨w.heap.size + 1 + m1, 7, none⟩ = some (.int .u8 X7) ∧ W.cell? ⟨w.heap.size + 1 + m1, 8, none⟩ = some (.int .u8 X8) ∧ W.cell? ⟨w.heap.size + 1 + m1, 9, none⟩ = some (.int .u8 X9) ∧ W.cell? ⟨w.heap.size + 1 + m1, 10, none⟩ = some (.int .u8 X10) ∧ W.cell? ⟨w.heap.size + 1 + m1, 11, none⟩ = some (.int .u8 X11) ∧ W.cell? ⟨w.heap.size + 1 + m1, 12, none⟩ = some (.int .u8 X12) ∧ W.cell? ⟨w.heap.size + 1 + m1, 13, none⟩ = some (.int .u8 X13) ∧ W.cell? ⟨w.heap.size + 1 + m1, 14, none⟩ = some (.int .u8 X14) ∧ W.cell? ⟨w.heap.size + 1 + m1, 15, none⟩ = some (.int .u8 X15) ∧ W.heap.size = w.heap.size + 1 + m1 + 1) ?_ ?_
  · refine ⟨?_, ?_, ?_, ?_, ?_, ?_, ?_, ?_, ?_, ?_, ?_, ?_, ?_, ?_, ?_, ?_, ?_, ?_, ?_, ?_, ?_⟩
    · have hP := HP.out
      repeat (first | with_reducible assumption | with_reducible refine pg_dr _ ?_ | with_reducible refine pg_d1 ?_ | with_reducible refine pg_al _ ?_ | (with_reducible refine pg_set ?_ ?_; focus (dsimp only; omega)) | (with_reducible apply pg_be; with_reducible assumption))
    · repeat (first | with_reducible assumption | with_reducible exact Out.refl _ _ _ | with_reducible refine out_dr _ ?_ | with_reducible refine out_d1 ?_ | with_reducible refine out_al _ ?_ | (with_reducible refine out_new _ ?_ ?_; focus (dsimp only; omega)) | (with_reducible refine out_in _ ?_ ?_ ?_; (focus omega); (focus omega)) | (with_reducible apply out_be; with_reducible assumption))
    · repeat (first | with_reducible assumption | with_reducible exact Below.refl _ _ | with_reducible refine Below.drew ?_ | with_reducible refine below_drewN ?_ _ | with_reducible refine bw_alloc ?_ _ | (with_reducible refine bw_set ?_ ?_ _; focus (dsimp only; omega)) | (with_reducible apply bw_behind; with_reducible assumption))
    · (first | with_reducible assumption | ((repeat (first | with_reducible assumption | with_reducible refine c_dr _ ?_ | with_reducible refine c_d1 ?_ | with_reducible refine c_al _ ?_ | (with_reducible refine c_set ?_ ?_; focus (dsimp only; omega)) | (with_reducible apply c_be; with_reducible assumption))); done) | ((repeat (first | with_reducible assumption | with_reducible refine pg_dr _ ?_ | with_reducible refine pg_d1 ?_ | with_reducible refine pg_al _ ?_ | (with_reducible refine pg_set ?_ ?_; focus (dsimp only; omega)) | (with_reducible apply pg_be; with_reducible assumption))); done) | ((repeat (first | with_reducible assumption | with_reducible exact Out.refl _ _ _ | with_reducible refine out_dr _ ?_ | with_reducible refine out_d1 ?_ | with_reducible refine out_al _ ?_ | (with_reducible refine out_new _ ?_ ?_; focus (dsimp only; omega)) | (with_reducible refine out_in _ ?_ ?_ ?_; (focus omega); (focus omega)) | (with_reducible apply out_be; with_reducible assumption))); done) | ((repeat (first | with_reducible assumption | with_reducible refine o_dr _ ?_ | with_reducible refine o_d1 ?_ | with_reducible refine o_set ?_ | (with_reducible refine o_new ?_ ?_; (focus (simp)); (focus (simp))) | with_reducible refine o_al _ ?_ | (with_reducible apply o_be; with_reducible assumption))); done) | ((repeat (first | with_reducible assumption | with_reducible exact Below.refl _ _ | with_reducible refine Below.drew ?_ | with_reducible refine below_drewN ?_ _ | with_reducible refine bw_alloc ?_ _ | (with_reducible refine bw_set ?_ ?_ _; focus (dsimp only; omega)) | (with_reducible apply bw_behind; with_reducible assumption))); done) | (simp [go_sem, *]; omega) | (simp (maxDischargeDepth := 4) [go_sem, *]; done))
    · rw [show w.heap.size + 1 + m1 = w1.heap.size by simp [hs1]]; simp [go_sem]
    · rw [show w.heap.size + 1 + m1 = w1.heap.size by simp [hs1]]; simp [go_sem]
    · rw [show w.heap.size + 1 + m1 = w1.heap.size by simp [hs1]]; simp [go_sem]
    · rw [show w.heap.size + 1 + m1 = w1.heap.size by simp [hs1]]; simp [go_sem]
    · rw [show w.heap.size + 1 + m1 = w1.heap.size by simp [hs1]]; simp [go_sem]
    · rw [show w.heap.size + 1 + m1 = w1.heap.size by simp [hs1]]; simp [go_sem]
    · rw [show w.heap.size + 1 + m1 = w1.heap.size by simp [hs1]]; simp [go_sem]
    · rw [show w.heap.size + 1 + m1 = w1.heap.size by simp [hs1]]; simp [go_sem]
    · rw [show w.heap.size + 1 + m1 = w1.heap.size by simp [hs1]]; simp [go_sem]
    · rw [show w.heap.size + 1 + m1 = w1.heap.size by simp [hs1]]; simp [go_sem]
    · rw [show w.heap.size + 1 + m1 = w1.heap.size by simp [hs1]]; simp [go_sem]
    · rw [show w.heap.size + 1 + m1 = w1.heap.size by simp [hs1]]; simp [go_sem]
    · rw [show w.heap.size + 1 + m1 = w1.heap.size by simp [hs1]]; simp [go_sem]
    · rw [show w.heap.size + 1 + m1 = w1.heap.size by simp [hs1]]; simp [go_sem]
    · rw [show w.heap.size + 1 + m1 = w1.heap.size by simp [hs1]]; simp [go_sem]
    · rw [show w.heap.size + 1 + m1 = w1.heap.size by simp [hs1]]; simp [go_sem]
    · simp [*]
  rintro w2 ⟨hP, hO, hB, cq, x0, x1, x2, x3, x4, x5, x6, x7, x8, x9, x10, x11, x12, x13, x14, x15, hs2⟩
  have HP2 := hide hP
  have HO2 := hide hO
  clear hP hO
  have i0 : (0 : Int) ≤ (off : Int) := by omega
  have i1 : (off : Int) ≤ 4096 := by omega
  have i2 : ¬ 4096 = off := by omega
  have hC : ∀ j v, (sixteen (capF m a))[j]? = some v → w2.drew.cell? ((⟨w.heap.size + 1 + m1, 0, none⟩ : Addr).add j) = some v := by
    rw [HL.out]
    intro j v hv
    have hj : j < 16 := (List.getElem?_eq_some_iff.1 hv).1
    rw [Addr.add_mid, Nat.zero_add]
    have : j = 0 ∨ j = 1 ∨ j = 2 ∨ j = 3 ∨ j = 4 ∨ j = 5 ∨ j = 6 ∨ j = 7 ∨ j = 8 ∨ j = 9 ∨ j = 10 ∨ j = 11 ∨ j = 12 ∨ j = 13 ∨ j = 14 ∨ j = 15 := by omega
    rcases this with rfl | rfl | rfl | rfl | rfl | rfl | rfl | rfl | rfl | rfl | rfl | rfl | rfl | rfl | rfl | rfl
    · rw [← show Value.int .u8 X0 = v from by simpa using hv]
      exact c_d1 x0
    · rw [← show Value.int .u8 X1 = v from by simpa using hv]
      exact c_d1 x1
    · rw [← show Value.int .u8 X2 = v from by simpa using hv]
      exact c_d1 x2
    · rw [← show Value.int .u8 X3 = v from by simpa using hv]
      exact c_d1 x3
    · rw [← show Value.int .u8 X4 = v from by simpa using hv]
      exact c_d1 x4
    · rw [← show Value.int .u8 X5 = v from by simpa using hv]
      exact c_d1 x5
    · rw [← show Value.int .u8 X6 = v from by simpa using hv]
      exact c_d1 x6
    · rw [← show Value.int .u8 X7 = v from by simpa using hv]
      exact c_d1 x7
    · rw [← show Value.int .u8 X8 = v from by simpa using hv]
      exact c_d1 x8
    · rw [← show Value.int .u8 X9 = v from by simpa using hv]
      exact c_d1 x9
    · rw [← show Value.int .u8 X10 = v from by simpa using hv]
      exact c_d1 x10
    · rw [← show Value.int .u8 X11 = v from by simpa using hv]
      exact c_d1 x11
    · rw [← show Value.int .u8 X12 = v from by simpa using hv]
      exact c_d1 x12
    · rw [← show Value.int .u8 X13 = v from by simpa using hv]
      exact c_d1 x13
    · rw [← show Value.int .u8 X14 = v from by simpa using hv]
      exact c_d1 x14
    · rw [← show Value.int .u8 X15 = v from by simpa using hv]
      exact c_d1 x15

  have HC := hide hC
  clear hC x0 x1 x2 x3 x4 x5 x6 x7 x8 x9 x10 x11 x12 x13 x14 x15
  have Hn : Hid ((sixteen (capF m a)).length = Nat.min 16 (4096 - off)) := hide (by show 16 = min 16 (4096 - off); omega)
  have Hc : Hid (∀ j, j < (sixteen (capF m a)).length → (w2.drew.cell? ⟨N, o + off + j, none⟩).isSome = true) := hide (fun j hj => by
    have hj : j < 16 := hj
    rw [Nat.add_assoc]
    show (w2.cell? ⟨N, o + (off + j), none⟩).isSome = true
    rw [HP2.out.byte (off + j) (by omega)]
    rfl)
  have Hf : Hid (∀ j, j < (sixteen (capF m a)).length → w2.drew.frozen? ⟨N, o + off + j, none⟩ = false) := hide (fun j hj => by
    have hj : j < 16 := hj
    rw [Nat.add_assoc]
    exact HP2.out.free (off + j) (by omega))
  have H1 := hide (sixteen_one (capF m a))
  have HG := hide (pg_cells (capF m a) ho (pg_d1 HP2.out))
  have HO := hide (out_cells (sixteen (capF m a)) (o + off) _ (by omega) (by show o + off + 16 ≤ _; omega) (out_d1 HO2.out))
  have hne : N ≠ w.heap.size := by omega
  have HQ := hide (setCells_else N (sixteen (capF m a)) (o + off) w2.drew ⟨w.heap.size, 0, none⟩ (.bool q) hne (c_d1 cq))
  have HS := hide (setCells_size N (sixteen (capF m a)) (o + off) w2.drew)
  obtain ⟨L, hL⟩ : ∃ L, sixteen (capF m a) = L := ⟨_, rfl⟩
  rw [hL] at HC Hn Hc Hf H1 HG HO HQ HS
  clear hL HL
  go_region_law (refine step_copy_cells rfl (.tmp 13) (.tmp 14) 57 57 rfl 5 (by kernel_rfl) u8_one N (o + off) (4096 - off) (4096 - off) ⟨w.heap.size + 1 + m1, 0, none⟩ 16 16 (by simp [Act.eval, Act.put]) (by simp [Act.eval, Act.put]) L Hn.out HC.out Hc.out Hf.out H1.out ?_)
  go_upto_region 3 with fail
  refine wp_abs (fun W => PageAt W N o (putC B off (capF m a)) s ∧ Out N o w W ∧ W.cell? ⟨w.heap.size, 0, none⟩ = some (.bool q) ∧ W.heap.size = w.heap.size + 1 + m1 + 1) ?_ ?_
  · exact ⟨HG.out, HO.out, HQ.out, HS.out.trans (by simpa using hs2)⟩
  clear HP2 HO2 HC Hn Hc Hf H1 HG HO HQ HS cq hs2 hB
  rintro w3 ⟨hP, hO, cq, hs3⟩
  have hN3 := hP.here
  have HP3 := hide hP
  have HO3 := hide hO
  have c0 := hP.word 0 (by omega)
  have c1 := hP.word 1 (by omega)
  have c2 := hP.word 2 (by omega)
  have c3 := hP.word 3 (by omega)
  have f0 := hP.free 4096 (by omega)
  have f1 := hP.free 4097 (by omega)
  have f2 := hP.free 4098 (by omega)
  have f3 := hP.free 4099 (by omega)
  have hN4 : ltB N w3.heap.size = true := decide_eq_true hN3
  clear hP hO
  generalize ((wd s 0).toNat : Int) = A0 at *
  generalize ((wd s 1).toNat : Int) = A1 at *
  generalize ((wd s 2).toNat : Int) = A2 at *
  generalize ((wd s 3).toNat : Int) = A3 at *
  go_region_with (first | (go_at_call 18; (with_reducible first | refine (C2.out _).mono ?_); rintro e w2 ⟨rfl, hb2⟩; have hr2 := below_reads hb2; have hh2 := below_holds hb2; obtain ⟨m2, hs2⟩ := below_grew hb2))
  all_goals
    refine bodyPost_end (v := .tuple #[]) (by simp (maxDischargeDepth := 4) [results, Try.results12, go_sem, *]) rfl ?_
    refine ⟨rfl, ?_, ?_⟩
    · have hP := HP3.out
      first | (refine HT.out _ ?_; (repeat (first | with_reducible assumption | with_reducible refine pg_dr _ ?_ | with_reducible refine pg_d1 ?_ | with_reducible refine pg_al _ ?_ | (with_reducible refine pg_set ?_ ?_; focus (dsimp only; omega)) | (with_reducible apply pg_be; with_reducible assumption))); done) | (refine pg_d1 (HT.out _ ?_); (repeat (first | with_reducible assumption | with_reducible refine pg_dr _ ?_ | with_reducible refine pg_d1 ?_ | with_reducible refine pg_al _ ?_ | (with_reducible refine pg_set ?_ ?_; focus (dsimp only; omega)) | (with_reducible apply pg_be; with_reducible assumption))); done) | (refine pg_d1 (pg_d1 (HT.out _ ?_)); (repeat (first | with_reducible assumption | with_reducible refine pg_dr _ ?_ | with_reducible refine pg_d1 ?_ | with_reducible refine pg_al _ ?_ | (with_reducible refine pg_set ?_ ?_; focus (dsimp only; omega)) | (with_reducible apply pg_be; with_reducible assumption))); done)
    · refine HO3.out.trans ?_
      repeat (first | with_reducible assumption | with_reducible exact Out.refl _ _ _ | with_reducible refine out_dr _ ?_ | with_reducible refine out_d1 ?_ | with_reducible refine out_al _ ?_ | (with_reducible refine out_new _ ?_ ?_; focus (dsimp only; omega)) | (with_reducible refine out_in _ ?_ ?_ ?_; (focus omega); (focus omega)) | (with_reducible apply out_be; with_reducible assumption))
end Go.Proofs.Ytadhghnleidfpaa
