/-
  What the document's own Translate answers, turns and keeps, as functions of the memory's words, the sets and the entries.
-/
import Derived.Test.YtkajndonefkegaaDoorMmuRefDa
import Derived.Test.YtkajndonefkegaaDoorMmuRefH
import Derived.Test.YtkajndonefkegaaDoorMmuRefUNone
import Derived.Test.YtkajndonefkegaaDoorMmuRefUBad
import Derived.Test.YtkajndonefkegaaDoorMmuRefUSame
import Derived.Test.YtkajndonefkegaaDoorMmuRefUStore
set_option maxRecDepth 100000
set_option maxHeartbeats 64000000
namespace Go.Proofs.YtkajndonefkegaaDoor
open Go.RowKit Words FieldMath PteMath

theorem eqi_rmk (b0 b1 b2 b3 b4 b5 b6 b7 b8 b9 b10 b11 D X : Bool) (N : Int) : ∀ W, (Op.equalIn 10000 66 (.agg #[.bool b0, .bool b1, .bool b2, .bool b3, .bool b4, .bool b5, .bool true, .bool D, .bool b8, .bool b9, .bool X, .bool b11, .int .u64 N]) (.agg #[.bool b0, .bool b1, .bool b2, .bool b3, .bool b4, .bool b5, .bool b6, .bool b7, .bool b8, .bool b9, .bool b10, .bool b11, .int .u64 N])).run Tryd.prog W = .ok (b6 && (D == b7) && (X == b10)) W := by
  intro W
  cases b6
  · simp [go_sem]
  · cases b7 <;> cases D
    all_goals first | (cases b10 <;> cases X <;> simp [go_sem]; done) | simp [go_sem]
theorem eq_rmk (b0 b1 b2 b3 b4 b5 b6 b7 b8 b9 b10 b11 D X : Bool) (N : Int) : ∀ W, (binOp .eql 66 (.agg #[.bool b0, .bool b1, .bool b2, .bool b3, .bool b4, .bool b5, .bool true, .bool D, .bool b8, .bool b9, .bool X, .bool b11, .int .u64 N]) (.agg #[.bool b0, .bool b1, .bool b2, .bool b3, .bool b4, .bool b5, .bool b6, .bool b7, .bool b8, .bool b9, .bool b10, .bool b11, .int .u64 N])).run Tryd.prog W = .ok (.bool (b6 && (D == b7) && (X == b10))) W := fun W => by
  rw [run_eql_struct, eqi_rmk]
  rfl
theorem ne_rmk (b0 b1 b2 b3 b4 b5 b6 b7 b8 b9 b10 b11 D X : Bool) (N : Int) : ∀ W, (binOp .neq 66 (.agg #[.bool b0, .bool b1, .bool b2, .bool b3, .bool b4, .bool b5, .bool true, .bool D, .bool b8, .bool b9, .bool X, .bool b11, .int .u64 N]) (.agg #[.bool b0, .bool b1, .bool b2, .bool b3, .bool b4, .bool b5, .bool b6, .bool b7, .bool b8, .bool b9, .bool b10, .bool b11, .int .u64 N])).run Tryd.prog W = .ok (.bool (!(b6 && (D == b7) && (X == b10)))) W := fun W => by
  rw [run_neq_struct, eqi_rmk]
  rfl

theorem d_walk (w : World) (b : Nat) (B : Nat -> Prop) (s1 : Option Addr) (n1 q1 : Nat) (s2 : Option Addr) (n2 q2 : Nat) (sa : Option Addr) (na ca : Nat) (sb : Option Addr) (nb cb : Nat) (ls : List LayD) (K : Nat -> List (LnX Int)) (E : List Fd) (n : Nat) (hk : Kept ls K E n) (_hn : n ≤ 60) (hd : DocAt w b B s1 n1 q1 s2 n2 q2 sa na ca sb nb cb ls K E) (v : BitVec 64) : ∀ W, Below w.heap.size w W -> Calls Tryd.prog 39 #[.agg #[.int .i64 8, .slice sa na ca, .slice sb nb cb, .slice none 0 0], .int .u64 0, .int .u64 (v.toNat : Int)] W (Makes (rwalkV (walkM (laidM ls) 8 0 v.toNat)) W) := fun W hb => by
  have := rwalk_more ls (by have := hk.ll; omega) sa na ca sb nb cb 0#64 v W (sl_be hb hd.mem.1) (sl_be hb hd.mem.2.1)
  rw [show (0#64).toNat = 0 from rfl] at this
  exact this
theorem d_look (w : World) (b : Nat) (B : Nat -> Prop) (s1 : Option Addr) (n1 q1 : Nat) (s2 : Option Addr) (n2 q2 : Nat) (sa : Option Addr) (na ca : Nat) (sb : Option Addr) (nb cb : Nat) (ls : List LayD) (K : Nat -> List (LnX Int)) (E : List Fd) (n : Nat) (hk : Kept ls K E n) (_hn : n ≤ 60) (hd : DocAt w b B s1 n1 q1 s2 n2 q2 sa na ca sb nb cb ls K E) (A : Int) (v : BitVec 64) : ∀ W, Below w.heap.size w W -> Calls Tryd.prog 35 #[.slice s1 n1 q1, .int .u64 A, .int .u64 ((v.toNat / 4096 : Nat) : Int)] W (Makes (rlookV ((K (v.toNat / 4096 % 4)).find? (pageQ A ((v.toNat / 4096 : Nat) : Int)))) W) := fun W hb => by
  have h8 := upF_length K 4 (fun r hr => hk.inv.inv.len r hr)
  have := rlook_any (.slice s1 n1 q1) A ((v.toNat / 4096 : Nat) : Int) (upF K 4) (by omega) W (rb_t (rb_be hb hd.lines))
  rw [ref_look hk.inv.inv.sets A ((v.toNat / 4096 : Nat) : Int) (v.toNat / 4096 % 4) (by omega) (by omega)] at this
  exact this
theorem d_drop (w : World) (b : Nat) (B : Nat -> Prop) (s1 : Option Addr) (n1 q1 : Nat) (s2 : Option Addr) (n2 q2 : Nat) (sa : Option Addr) (na ca : Nat) (sb : Option Addr) (nb cb : Nat) (ls : List LayD) (K : Nat -> List (LnX Int)) (E : List Fd) (n : Nat) (hk : Kept ls K E n) (_hn : n ≤ 60) (hd : DocAt w b B s1 n1 q1 s2 n2 q2 sa na ca sb nb cb ls K E) (A : Int) (v : BitVec 64) : ∀ W, Below w.heap.size w W -> w.heap.size + 5 ≤ W.heap.size -> Calls Tryd.prog 16 #[.slice s1 n1 q1, .int .u64 A, .int .u64 ((v.toNat / 4096 : Nat) : Int)] W (fun e w' => ∃ s n q, e = .returned (.slice s n q) /\ RefB w' (w.heap.size + 5) (.slice s n q) (upF (dropM K A ((v.toNat / 4096 : Nat) : Int)) 4) /\ Below W.heap.size W w') := fun W hb h5 => by
  have h8 := upF_length K 4 (fun r hr => hk.inv.inv.len r hr)
  refine (rdrop_any (.slice s1 n1 q1) A ((v.toNat / 4096 : Nat) : Int) (upF K 4) (by omega) W (rb_t (rb_be hb hd.lines))).mono ?_
  rintro e w' ⟨u, rfl, hR, hB⟩
  obtain ⟨s, m, q, rfl⟩ := rb_slice hR
  rw [ref_drop] at hR
  exact ⟨s, m, q, rfl, rb_less h5 hR, hB⟩
theorem d_put (w : World) (b : Nat) (B : Nat -> Prop) (s1 : Option Addr) (n1 q1 : Nat) (s2 : Option Addr) (n2 q2 : Nat) (sa : Option Addr) (na ca : Nat) (sb : Option Addr) (nb cb : Nat) (ls : List LayD) (K : Nat -> List (LnX Int)) (E : List Fd) (n : Nat) (hk : Kept ls K E n) (_hn : n ≤ 60) (hd : DocAt w b B s1 n1 q1 s2 n2 q2 sa na ca sb nb cb ls K E) (A : Int) (v : BitVec 64) : ∀ W, Below w.heap.size w W -> w.heap.size + 5 ≤ W.heap.size -> Calls Tryd.prog 40 #[.slice s1 n1 q1, .agg #[.int .u64 A, .int .u64 ((v.toNat / 4096 : Nat) : Int), .int .u64 (E.length : Int)]] W (fun e w' => ∃ s n q, e = .returned (.slice s n q) /\ RefB w' (w.heap.size + 5) (.slice s n q) (upF (lputM K (v.toNat / 4096 % 4) (A, ((v.toNat / 4096 : Nat) : Int), (E.length : Int))) 4) /\ Below W.heap.size W w') := fun W hb h5 => by
  have h8 := upF_length K 4 (fun r hr => hk.inv.inv.len r hr)
  refine (rput_any (.slice s1 n1 q1) A ((v.toNat / 4096 : Nat) : Int) (E.length : Int) (v.toNat / 4096 % 4) (upF K 4) (by omega) (by omega) (fun l hl => by
    obtain ⟨r, hr, hm⟩ := mem_upF hl
    exact hk.inv.inv.nn r hr l hm) (by omega) W (rb_t (rb_be hb hd.lines))).mono ?_
  rintro e w' ⟨u, rfl, hR, hB⟩
  obtain ⟨s, m, q, rfl⟩ := rb_slice hR
  rw [ref_put hk.inv (v.toNat / 4096 % 4) (by omega) _ (by show ((v.toNat / 4096 : Nat) : Int) % 4 = _; omega)] at hR
  exact ⟨s, m, q, rfl, rb_less h5 hR, hB⟩
theorem d_store (w : World) (b : Nat) (B : Nat -> Prop) (s1 : Option Addr) (n1 q1 : Nat) (s2 : Option Addr) (n2 q2 : Nat) (sa : Option Addr) (na ca : Nat) (sb : Option Addr) (nb cb : Nat) (ls : List LayD) (K : Nat -> List (LnX Int)) (E : List Fd) (n : Nat) (hk : Kept ls K E n) (_hn : n ≤ 60) (hd : DocAt w b B s1 n1 q1 s2 n2 q2 sa na ca sb nb cb ls K E) (k : Int) (t : Bool) (x : BitVec 64) (a : Nat) (ha : a < 32768) (ha8 : a % 8 = 0) : ∀ W, Below w.heap.size w W -> w.heap.size + 5 ≤ W.heap.size -> Calls Tryd.prog 13 #[.agg #[.int .i64 8, .slice sa na ca, .slice sb nb cb, .slice none 0 0], .int .u64 (a : Int), .int .i64 8, .int .u64 ((mkW x k t).toNat : Int)] W (fun e w' => ∃ sa' na' ca' sb' nb' cb', e = .returned (.tuple #[.agg #[.int .i64 8, .slice sa' na' ca', .slice sb' nb' cb', .slice none 0 0], .int .i64 0]) /\ MemR w' (fun g => w.heap.size + 5 ≤ g) sa' na' ca' sb' nb' cb' (laidR (ls ++ [mkL a x k t])) /\ Below W.heap.size W w') := fun W hb h5 => by
  refine (rstore_any sa na ca sb nb cb (laidR ls) a (mkW x k t) ha8 ha (by rw [laidR_length]; have := hk.ll; omega) W (sl_be hb hd.mem.1) (sl_be hb hd.mem.2.1)).mono ?_
  rintro e w' ⟨sa', na', ca', sb', nb', cb', rfl, h1, h2, h3, h4, h6⟩
  refine ⟨sa', na', ca', sb', nb', cb', rfl, ?_, h3⟩
  rw [laidR_add, mkL_word, mkL_page a x k t ha, mkL_idx, show a / 4096 * 4096 + 8 * (a % 4096 / 8) = a by omega]
  exact ⟨h1, h2, fun g hg => Nat.le_trans h5 (h4 g hg), fun g hg => Nat.le_trans h5 (h6 g hg)⟩
theorem not_same {x : BitVec 64} {k : Int} {t : Bool} (h : ¬ sameW x k t = true) : (!((x.getLsbD 6) && (markD (x.getLsbD 7) k == x.getLsbD 7) && (markC (x.getLsbD 60) k t == x.getLsbD 60))) = true := by
  show (!(sameW x k t)) = true
  cases h' : sameW x k t with
  | true => exact absurd h' h
  | false => rfl
theorem is_same {x : BitVec 64} {k : Int} {t : Bool} (h : sameW x k t = true) : (!((x.getLsbD 6) && (markD (x.getLsbD 7) k == x.getLsbD 7) && (markC (x.getLsbD 60) k t == x.getLsbD 60))) = false := by
  show (!(sameW x k t)) = false
  rw [h]; rfl
theorem tdiv_v (v : BitVec 64) : ((v.toNat : Int)).tdiv 4096 = ((v.toNat / 4096 : Nat) : Int) := by
  rw [Int.tdiv_eq_ediv_of_nonneg (by omega)]
  omega
theorem div_v (v : BitVec 64) : (v.toNat : Int) / 4096 = ((v.toNat / 4096 : Nat) : Int) := by omega
theorem wrap_v (v : BitVec 64) : IntKind.u64.wrap ((v.toNat / 4096 : Nat) : Int) = ((v.toNat / 4096 : Nat) : Int) := by
  rw [IntKind.wrap_u64]
  have := v.isLt
  omega
theorem rtrans_any (w : World) (b : Nat) (hbw : b ≤ w.heap.size) (B : Nat -> Prop) (hB : ∀ g, w.heap.size ≤ g -> B g) (s1 : Option Addr) (n1 q1 : Nat) (s2 : Option Addr) (n2 q2 : Nat) (sa : Option Addr) (na ca : Nat) (sb : Option Addr) (nb cb : Nat) (ls : List LayD) (K : Nat -> List (LnX Int)) (E : List Fd) (n : Nat) (hk : Kept ls K E n) (hn : n ≤ 60) (hd : DocAt w b B s1 n1 q1 s2 n2 q2 sa na ca sb nb cb ls K E) (A : Int) (_hA : Wf A) (k : Int) (t G : Bool) (v : BitVec 64) : Calls Tryd.prog 8 #[.agg #[.slice s1 n1 q1, .slice s2 n2 q2, .int .u64 0, .int .u64 A, .bool G], .agg #[.int .i64 8, .slice sa na ca, .slice sb nb cb, .slice none 0 0], .int .u64 (v.toNat : Int), .int .i64 k, .bool t] w (OutD w b B A G (transD ls K E A v.toNat k t G)) := by
  have hn2 := ent_len hd.ents
  subst hn2
  have hE9 : E.length ≤ 900 := by have := hk.el; omega
  have cW := d_walk w b B s1 n1 q1 s2 E.length q2 sa na ca sb nb cb ls K E n hk hn hd v
  have cL := d_look w b B s1 n1 q1 s2 E.length q2 sa na ca sb nb cb ls K E n hk hn hd A v
  unfold transD
  by_cases hv : v.toNat < 274877906944
  · rw [if_pos hv]
    have hV : ¬ (274877906944 ≤ (v.toNat : Int)) := by omega
    cases ho : (K (v.toNat / 4096 % 4)).find? (pageQ A ((v.toNat / 4096 : Nat) : Int)) with
    | none =>
      rw [ho] at cL
      dsimp only
      cases hw : walkM (laidM ls) 8 0 v.toNat with
      | none =>
        rw [hw] at cW
        unfold findD
        rw [hw]
        dsimp only
        exact Calls.mono (rt_none (w := w) (b := b) (_hbw := hbw) (B := B) (_hB := hB) (A := A) (k := k) (t := t) (G := G) (hH := .inl cL) (L' := upF (dropM K A ((v.toNat / 4096 : Nat) : Int)) 4) (cW := cW) (cD := d_drop w b B s1 n1 q1 s2 E.length q2 sa na ca sb nb cb ls K E n hk hn hd A v) (_n1 := tdiv_v v) (_n2 := div_v v) (_n3 := wrap_v v) (_hV := hV) (hEE0 := rfl) (hE9 := hE9) (hZ := rfl) (hS := rfl) (hQ := rfl) (hEE := rfl) (hDD := rfl) (_hL := hd.lines) (hE := hd.ents) (hD := hd.mem)) (fun e w' h => outd_of rfl rfl rfl rfl rfl rfl h)
      | some y =>
        obtain ⟨x, a⟩ := y
        obtain ⟨ha, ha8⟩ := walk_lt hw
        rw [hw] at cW
        have cC := fun W => rcheck_any (x.getLsbD 0) (x.getLsbD 1) (x.getLsbD 2) (x.getLsbD 3) (x.getLsbD 4) (x.getLsbD 5) (x.getLsbD 6) (x.getLsbD 7) (x.getLsbD 58) (x.getLsbD 59) (x.getLsbD 60) (x.getLsbD 61) t G (getB x 10 44) k W
        unfold findD
        rw [hw]
        dsimp only
        by_cases hQ2 : ckW x k t G = 0
        · rw [if_pos hQ2]
          unfold ckW at hQ2
          rw [hQ2] at cC
          have cM := fun W => rmarked_any (x.getLsbD 0) (x.getLsbD 1) (x.getLsbD 2) (x.getLsbD 3) (x.getLsbD 4) (x.getLsbD 5) (x.getLsbD 6) (x.getLsbD 7) (x.getLsbD 58) (x.getLsbD 59) (x.getLsbD 60) (x.getLsbD 61) t ((getB x 10 44).toNat : Int) k W
          have cP := fun W => rplace_any (x.getLsbD 0) (x.getLsbD 1) (x.getLsbD 2) (x.getLsbD 3) (x.getLsbD 4) (x.getLsbD 5) true (markD (x.getLsbD 7) k) (x.getLsbD 58) (x.getLsbD 59) (markC (x.getLsbD 60) k t) (x.getLsbD 61) ((getB x 10 44).toNat : Int) (v.toNat : Int) k (by omega) W
          have cU := d_put w b B s1 n1 q1 s2 E.length q2 sa na ca sb nb cb ls K E n hk hn hd A v
          have hS : accS k (x.getLsbD 59) 0 = ((k == 3) && !(x.getLsbD 59)) := if_pos rfl
          by_cases hs : sameW x k t = true
          · unfold markL
            rw [if_pos hs]
            have NE1 := fun W => ne_rmk (x.getLsbD 0) (x.getLsbD 1) (x.getLsbD 2) (x.getLsbD 3) (x.getLsbD 4) (x.getLsbD 5) (x.getLsbD 6) (x.getLsbD 7) (x.getLsbD 58) (x.getLsbD 59) (x.getLsbD 60) (x.getLsbD 61) (markD (x.getLsbD 7) k) (markC (x.getLsbD 60) k t) ((getB x 10 44).toNat : Int) W
            rw [is_same hs] at NE1
            exact Calls.mono (rt_same (w := w) (b := b) (_hbw := hbw) (B := B) (_hB := hB) (A := A) (k := k) (t := t) (G := G) (hH := .inl cL) (cW := cW) (cC := cC) (cM := cM) (cU := cU) (cP := cP) (_n1 := tdiv_v v) (_n2 := div_v v) (_n3 := wrap_v v) (_hV := hV) (hEE0 := rfl) (hE9 := hE9) (av := (a : Int)) (hEE := rfl) (hDD := rfl) (NE1 := NE1) (hQ := rfl) (_hL := hd.lines) (hE := hd.ents) (hD := hd.mem)) (fun e w' h => outd_of rfl hS.symm rfl rfl rfl rfl h)
          · unfold markL
            rw [if_neg hs]
            have NE1 := fun W => ne_rmk (x.getLsbD 0) (x.getLsbD 1) (x.getLsbD 2) (x.getLsbD 3) (x.getLsbD 4) (x.getLsbD 5) (x.getLsbD 6) (x.getLsbD 7) (x.getLsbD 58) (x.getLsbD 59) (x.getLsbD 60) (x.getLsbD 61) (markD (x.getLsbD 7) k) (markC (x.getLsbD 60) k t) ((getB x 10 44).toNat : Int) W
            rw [not_same hs] at NE1
            have cO := fun W => rword_any (x.getLsbD 0) (x.getLsbD 1) (x.getLsbD 2) (x.getLsbD 3) (x.getLsbD 4) (x.getLsbD 5) true (markD (x.getLsbD 7) k) (x.getLsbD 58) (x.getLsbD 59) (markC (x.getLsbD 60) k t) (x.getLsbD 61) (getB x 10 44) W
            rw [← word_is, show wk (bs (x.getLsbD 0) (x.getLsbD 1) (x.getLsbD 2) (x.getLsbD 3) (x.getLsbD 4) (x.getLsbD 5) true (markD (x.getLsbD 7) k) (x.getLsbD 58) (x.getLsbD 59) (markC (x.getLsbD 60) k t) (x.getLsbD 61)) (getB x 10 44) 12 = mkW x k t from rfl] at cO
            have cS := d_store w b B s1 n1 q1 s2 E.length q2 sa na ca sb nb cb ls K E n hk hn hd k t x a ha ha8
            exact Calls.mono (rt_store (w := w) (b := b) (_hbw := hbw) (B := B) (_hB := hB) (A := A) (k := k) (t := t) (G := G) (hH := .inl cL) (cW := cW) (cC := cC) (cM := cM) (cU := cU) (cP := cP) (cO := cO) (cS := cS) (_n1 := tdiv_v v) (_n2 := div_v v) (_n3 := wrap_v v) (_hV := hV) (hEE0 := rfl) (hE9 := hE9) (av := (a : Int)) (hEE := rfl) (NE1 := NE1) (hQ := rfl) (_hL := hd.lines) (hE := hd.ents) (_hD := hd.mem)) (fun e w' h => outd_of rfl hS.symm rfl rfl rfl rfl h)
        · rw [if_neg hQ2]
          exact Calls.mono (rt_bad (w := w) (b := b) (_hbw := hbw) (B := B) (_hB := hB) (A := A) (k := k) (t := t) (G := G) (hH := .inl cL) (cW := cW) (cC := cC) (_n1 := tdiv_v v) (_n2 := div_v v) (_n3 := wrap_v v) (_hV := hV) (hEE0 := rfl) (hE9 := hE9) (_hQ := by simpa [ckW] using hQ2) (hZ := rfl) (hS := rfl) (hLL := rfl) (hEE := rfl) (hDD := rfl) (hL := hd.lines) (hE := hd.ents) (hD := hd.mem)) (fun e w' h => outd_of rfl rfl rfl rfl rfl rfl h)
    | some l =>
      rw [ho] at cL
      have hl := hk.idx _ l (List.mem_of_find?_eq_some ho)
      obtain ⟨i, hi, hi2, hX⟩ := ge_at hl.1 hl.2
      obtain ⟨F, hF⟩ := hk.wf _ (List.mem_of_getElem? hX)
      obtain ⟨l1, l2, l3⟩ := l
      dsimp only at hi hX hF cL ⊢
      generalize gE E l3 = X at *
      subst hi
      obtain ⟨g, hs2, hrow⟩ : ∃ g, s2 = some ⟨g, 0, none⟩ /\ Row w g (entF E) := by
        rcases (ez_rb_t hd.ents).form with ⟨_, h2⟩ | ⟨g, cap, h1, _, _, h4⟩
        · rw [h2] at hi2
          exact absurd hi2 (Nat.not_lt_zero _)
        · injection h1 with h1
          exact ⟨g, h1, h4⟩
      have hE0 : ∀ j u, [.bool X.e0, .bool X.e1, .bool X.e2, .bool X.e3, .bool X.e4, .bool X.e5, .bool X.e6, .bool X.e7, .bool X.e8, .bool X.e9, .bool X.e10, .bool X.e11, .int .u64 X.f][j]? = some u -> w.cell? ⟨g, i * 13 + j, none⟩ = some u := fun j u hu => hrow _ u (by
        have hj : j < 13 := (List.getElem?_eq_some_iff.1 hu).1
        rw [ez_refF_at E i j X hX hj]
        exact hu)
      have cC0 : ∀ W, Calls Tryd.prog 36 #[.agg #[.bool X.e0, .bool X.e1, .bool X.e2, .bool X.e3, .bool X.e4, .bool X.e5, .bool X.e6, .bool X.e7, .bool X.e8, .bool X.e9, .bool X.e10, .bool X.e11, .int .u64 X.f], .int .i64 k, .bool t, .bool G] W (Makes (.int .i64 (lineQ X k t G)) W) := fun W => by
        have := rcheck_any X.e0 X.e1 X.e2 X.e3 X.e4 X.e5 X.e6 X.e7 X.e8 X.e9 X.e10 X.e11 t G F k W
        rw [← hF] at this
        exact this
      have cM0 := fun W => rmarked_any X.e0 X.e1 X.e2 X.e3 X.e4 X.e5 X.e6 X.e7 X.e8 X.e9 X.e10 X.e11 t X.f k W
      have EQ0 := fun W => eq_rmk X.e0 X.e1 X.e2 X.e3 X.e4 X.e5 X.e6 X.e7 X.e8 X.e9 X.e10 X.e11 (markD X.e7 k) (markC X.e10 k t) X.f W
      have EI0 := fun W => eqi_rmk X.e0 X.e1 X.e2 X.e3 X.e4 X.e5 X.e6 X.e7 X.e8 X.e9 X.e10 X.e11 (markD X.e7 k) (markC X.e10 k t) X.f W
      by_cases hQ : lineQ X k t G = 0
      · by_cases hs : sameX X k t = true
        · rw [if_neg (fun h => by rw [hs] at h; exact absurd h.2 (by simp))]
          rw [show (X.e6 && (markD X.e7 k == X.e7) && (markC X.e10 k t == X.e10)) = true from hs] at EQ0 EI0
          rw [hQ] at cC0 ⊢
          have cP := fun W => rplace_any X.e0 X.e1 X.e2 X.e3 X.e4 X.e5 X.e6 X.e7 X.e8 X.e9 X.e10 X.e11 X.f (v.toNat : Int) k (by omega) W
          have hS : accS k X.e9 0 = ((k == 3) && !X.e9) := if_pos rfl
          exact Calls.mono (rt_hit_same (w := w) (b := b) (_hbw := hbw) (B := B) (_hB := hB) (A := A) (k := k) (t := t) (G := G) (g := g) (X := i) (cL := cL) (hs2 := hs2) (_i0 := by omega) (_i1 := by omega) (hE0 := hE0) (cC0 := cC0) (cM0 := cM0) (cP := cP) (_n1 := tdiv_v v) (_n2 := div_v v) (_n3 := wrap_v v) (_hV := hV) (hEE0 := rfl) (hE9 := hE9) (EQ0 := EQ0) (_EI0 := EI0) (hQ := rfl) (hLL := rfl) (hEE := rfl) (hDD := rfl) (hL := hd.lines) (hE := hd.ents) (hD := hd.mem)) (fun e w' h => outd_of rfl hS.symm rfl rfl rfl rfl h)
        · have hs' : sameX X k t = false := by simpa using hs
          rw [if_pos ⟨hQ, hs'⟩]
          rw [show (X.e6 && (markD X.e7 k == X.e7) && (markC X.e10 k t == X.e10)) = false from hs'] at EQ0 EI0
          rw [hQ] at cC0
          cases hw : walkM (laidM ls) 8 0 v.toNat with
          | none =>
            rw [hw] at cW
            unfold findD
            rw [hw]
            dsimp only
            exact Calls.mono (rt_none (w := w) (b := b) (_hbw := hbw) (B := B) (_hB := hB) (A := A) (k := k) (t := t) (G := G) (hH := .inr ⟨g, i, l1, l2, markD X.e7 k, markC X.e10 k t, X.e0, X.e1, X.e2, X.e3, X.e4, X.e5, X.e6, X.e7, X.e8, X.e9, X.e10, X.e11, X.f, cL, cC0, cM0, EQ0, EI0, hs2, by omega, hE0⟩) (L' := upF (dropM K A ((v.toNat / 4096 : Nat) : Int)) 4) (cW := cW) (cD := d_drop w b B s1 n1 q1 s2 E.length q2 sa na ca sb nb cb ls K E n hk hn hd A v) (_n1 := tdiv_v v) (_n2 := div_v v) (_n3 := wrap_v v) (_hV := hV) (hEE0 := rfl) (hE9 := hE9) (hZ := rfl) (hS := rfl) (hQ := rfl) (hEE := rfl) (hDD := rfl) (_hL := hd.lines) (hE := hd.ents) (hD := hd.mem)) (fun e w' h => outd_of rfl rfl rfl rfl rfl rfl h)
          | some y =>
            obtain ⟨x, a⟩ := y
            obtain ⟨ha, ha8⟩ := walk_lt hw
            rw [hw] at cW
            have cC := fun W => rcheck_any (x.getLsbD 0) (x.getLsbD 1) (x.getLsbD 2) (x.getLsbD 3) (x.getLsbD 4) (x.getLsbD 5) (x.getLsbD 6) (x.getLsbD 7) (x.getLsbD 58) (x.getLsbD 59) (x.getLsbD 60) (x.getLsbD 61) t G (getB x 10 44) k W
            unfold findD
            rw [hw]
            dsimp only
            by_cases hQ2 : ckW x k t G = 0
            · rw [if_pos hQ2]
              unfold ckW at hQ2
              rw [hQ2] at cC
              have cM := fun W => rmarked_any (x.getLsbD 0) (x.getLsbD 1) (x.getLsbD 2) (x.getLsbD 3) (x.getLsbD 4) (x.getLsbD 5) (x.getLsbD 6) (x.getLsbD 7) (x.getLsbD 58) (x.getLsbD 59) (x.getLsbD 60) (x.getLsbD 61) t ((getB x 10 44).toNat : Int) k W
              have cP := fun W => rplace_any (x.getLsbD 0) (x.getLsbD 1) (x.getLsbD 2) (x.getLsbD 3) (x.getLsbD 4) (x.getLsbD 5) true (markD (x.getLsbD 7) k) (x.getLsbD 58) (x.getLsbD 59) (markC (x.getLsbD 60) k t) (x.getLsbD 61) ((getB x 10 44).toNat : Int) (v.toNat : Int) k (by omega) W
              have cU := d_put w b B s1 n1 q1 s2 E.length q2 sa na ca sb nb cb ls K E n hk hn hd A v
              have hS : accS k (x.getLsbD 59) 0 = ((k == 3) && !(x.getLsbD 59)) := if_pos rfl
              by_cases hs : sameW x k t = true
              · unfold markL
                rw [if_pos hs]
                have NE1 := fun W => ne_rmk (x.getLsbD 0) (x.getLsbD 1) (x.getLsbD 2) (x.getLsbD 3) (x.getLsbD 4) (x.getLsbD 5) (x.getLsbD 6) (x.getLsbD 7) (x.getLsbD 58) (x.getLsbD 59) (x.getLsbD 60) (x.getLsbD 61) (markD (x.getLsbD 7) k) (markC (x.getLsbD 60) k t) ((getB x 10 44).toNat : Int) W
                rw [is_same hs] at NE1
                exact Calls.mono (rt_same (w := w) (b := b) (_hbw := hbw) (B := B) (_hB := hB) (A := A) (k := k) (t := t) (G := G) (hH := .inr ⟨g, i, l1, l2, markD X.e7 k, markC X.e10 k t, X.e0, X.e1, X.e2, X.e3, X.e4, X.e5, X.e6, X.e7, X.e8, X.e9, X.e10, X.e11, X.f, cL, cC0, cM0, EQ0, EI0, hs2, by omega, hE0⟩) (cW := cW) (cC := cC) (cM := cM) (cU := cU) (cP := cP) (_n1 := tdiv_v v) (_n2 := div_v v) (_n3 := wrap_v v) (_hV := hV) (hEE0 := rfl) (hE9 := hE9) (av := (a : Int)) (hEE := rfl) (hDD := rfl) (NE1 := NE1) (hQ := rfl) (_hL := hd.lines) (hE := hd.ents) (hD := hd.mem)) (fun e w' h => outd_of rfl hS.symm rfl rfl rfl rfl h)
              · unfold markL
                rw [if_neg hs]
                have NE1 := fun W => ne_rmk (x.getLsbD 0) (x.getLsbD 1) (x.getLsbD 2) (x.getLsbD 3) (x.getLsbD 4) (x.getLsbD 5) (x.getLsbD 6) (x.getLsbD 7) (x.getLsbD 58) (x.getLsbD 59) (x.getLsbD 60) (x.getLsbD 61) (markD (x.getLsbD 7) k) (markC (x.getLsbD 60) k t) ((getB x 10 44).toNat : Int) W
                rw [not_same hs] at NE1
                have cO := fun W => rword_any (x.getLsbD 0) (x.getLsbD 1) (x.getLsbD 2) (x.getLsbD 3) (x.getLsbD 4) (x.getLsbD 5) true (markD (x.getLsbD 7) k) (x.getLsbD 58) (x.getLsbD 59) (markC (x.getLsbD 60) k t) (x.getLsbD 61) (getB x 10 44) W
                rw [← word_is, show wk (bs (x.getLsbD 0) (x.getLsbD 1) (x.getLsbD 2) (x.getLsbD 3) (x.getLsbD 4) (x.getLsbD 5) true (markD (x.getLsbD 7) k) (x.getLsbD 58) (x.getLsbD 59) (markC (x.getLsbD 60) k t) (x.getLsbD 61)) (getB x 10 44) 12 = mkW x k t from rfl] at cO
                have cS := d_store w b B s1 n1 q1 s2 E.length q2 sa na ca sb nb cb ls K E n hk hn hd k t x a ha ha8
                exact Calls.mono (rt_store (w := w) (b := b) (_hbw := hbw) (B := B) (_hB := hB) (A := A) (k := k) (t := t) (G := G) (hH := .inr ⟨g, i, l1, l2, markD X.e7 k, markC X.e10 k t, X.e0, X.e1, X.e2, X.e3, X.e4, X.e5, X.e6, X.e7, X.e8, X.e9, X.e10, X.e11, X.f, cL, cC0, cM0, EQ0, EI0, hs2, by omega, hE0⟩) (cW := cW) (cC := cC) (cM := cM) (cU := cU) (cP := cP) (cO := cO) (cS := cS) (_n1 := tdiv_v v) (_n2 := div_v v) (_n3 := wrap_v v) (_hV := hV) (hEE0 := rfl) (hE9 := hE9) (av := (a : Int)) (hEE := rfl) (NE1 := NE1) (hQ := rfl) (_hL := hd.lines) (hE := hd.ents) (_hD := hd.mem)) (fun e w' h => outd_of rfl hS.symm rfl rfl rfl rfl h)
            · rw [if_neg hQ2]
              exact Calls.mono (rt_bad (w := w) (b := b) (_hbw := hbw) (B := B) (_hB := hB) (A := A) (k := k) (t := t) (G := G) (hH := .inr ⟨g, i, l1, l2, markD X.e7 k, markC X.e10 k t, X.e0, X.e1, X.e2, X.e3, X.e4, X.e5, X.e6, X.e7, X.e8, X.e9, X.e10, X.e11, X.f, cL, cC0, cM0, EQ0, EI0, hs2, by omega, hE0⟩) (cW := cW) (cC := cC) (_n1 := tdiv_v v) (_n2 := div_v v) (_n3 := wrap_v v) (_hV := hV) (hEE0 := rfl) (hE9 := hE9) (_hQ := by simpa [ckW] using hQ2) (hZ := rfl) (hS := rfl) (hLL := rfl) (hEE := rfl) (hDD := rfl) (hL := hd.lines) (hE := hd.ents) (hD := hd.mem)) (fun e w' h => outd_of rfl rfl rfl rfl rfl rfl h)
      · rw [if_neg (fun h => hQ h.1)]
        have hZ1 : accA X.f (v.toNat : Int) (lineQ X k t G) = 0 := if_neg hQ
        have hS1 : accS k X.e9 (lineQ X k t G) = false := if_neg hQ
        rw [hZ1, hS1]
        exact Calls.mono (rt_hit_bad (w := w) (b := b) (_hbw := hbw) (B := B) (_hB := hB) (A := A) (k := k) (t := t) (G := G) (g := g) (X := i) (cL := cL) (hs2 := hs2) (_i0 := by omega) (_i1 := by omega) (hE0 := hE0) (cC := cC0) (_n1 := tdiv_v v) (_n2 := div_v v) (_n3 := wrap_v v) (_hV := hV) (hEE0 := rfl) (hE9 := hE9) (_hQ := by simpa using hQ) (hZ := rfl) (hS := rfl) (hLL := rfl) (hEE := rfl) (hDD := rfl) (hL := hd.lines) (hE := hd.ents) (hD := hd.mem)) (fun e w' h => outd_of rfl rfl rfl rfl rfl rfl h)
  · rw [if_neg hv]
    exact Calls.mono (rt_far (w := w) (b := b) (_hbw := hbw) (B := B) (_hB := hB) (A := A) (k := k) (t := t) (G := G) (V := (v.toNat : Int)) (_hV := by omega) (hZ := rfl) (hS := rfl) (hQ := rfl) (hLL := rfl) (hEE := rfl) (hDD := rfl) (hL := hd.lines) (hE := hd.ents) (hD := hd.mem)) (fun e w' h => outd_of rfl rfl rfl rfl rfl rfl h)
end Go.Proofs.YtkajndonefkegaaDoor
