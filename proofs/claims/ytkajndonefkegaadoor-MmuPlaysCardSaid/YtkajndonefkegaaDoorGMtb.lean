/-
  Texts laid one behind the other: MtbMem, MtbM, Mtb1.
-/
import Derived.Test.YtkajndonefkegaaDoorGBase
set_option maxRecDepth 100000
set_option maxHeartbeats 64000000
namespace Go.Proofs.YtkajndonefkegaaDoor
open Go.RowKit

structure Fd where
  e0 : Bool
  e1 : Bool
  e2 : Bool
  e3 : Bool
  e4 : Bool
  e5 : Bool
  e6 : Bool
  e7 : Bool
  e8 : Bool
  e9 : Bool
  e10 : Bool
  e11 : Bool
  f : Int
  a : Int
abbrev LnX (α : Type) := Int × Int × α
abbrev Ln := LnX Fd
abbrev lineI (A N : Int) (X : Fd) : List Value := [.int .u64 A, .int .u64 N, .bool X.e0, .bool X.e1, .bool X.e2, .bool X.e3, .bool X.e4, .bool X.e5, .bool X.e6, .bool X.e7, .bool X.e8, .bool X.e9, .bool X.e10, .bool X.e11, .int .u64 X.f, .int .u64 X.a]
abbrev lineC (l : Ln) : List Value := lineI l.1 l.2.1 l.2.2
theorem lineC_length (l : Ln) : (lineC l).length = 16 := rfl
theorem lineC_one (l : Ln) : ∀ v ∈ lineC l, v.oneCell' = true := by
  intro v hv
  simp only [lineC, lineI, List.mem_cons, List.not_mem_nil, or_false] at hv
  rcases hv with rfl | rfl | rfl | rfl | rfl | rfl | rfl | rfl | rfl | rfl | rfl | rfl | rfl | rfl | rfl | rfl <;> rfl
def zeroL : Ln := (0, 0, Fd.mk false false false false false false false false false false false false 0 0)
def updL {α : Type} (R : Nat -> α) (k : Nat) (l : α) : Nat -> α := fun j => if j = k then l else R j

structure Out1 (N : Nat) (w W : World) : Prop where
  os : W.os = w.os
  tape : W.tape = w.tape
  output : W.output = w.output
  size : w.heap.size ≤ W.heap.size
  block : ∀ k, k < w.heap.size -> k ≠ N -> W.heap[k]? = w.heap[k]?
  cell : ∀ j, 132 ≤ j -> N < w.heap.size -> W.cell? ⟨N, j, none⟩ = w.cell? ⟨N, j, none⟩
  free : ∀ j, N < w.heap.size -> W.frozen? ⟨N, j, none⟩ = w.frozen? ⟨N, j, none⟩
theorem Out1.refl (N : Nat) (w : World) : Out1 N w w := ⟨rfl, rfl, rfl, Nat.le_refl _, fun _ _ _ => rfl, fun _ _ _ => rfl, fun _ _ => rfl⟩
theorem Out1.trans {N : Nat} {a b c : World} (h : Out1 N a b) (k : Out1 N b c) : Out1 N a c := by
  have hs := h.size
  exact ⟨k.os.trans h.os, k.tape.trans h.tape, k.output.trans h.output, Nat.le_trans h.size k.size, fun i hi hn => (k.block i (by omega) hn).trans (h.block i hi hn), fun j hj hN => (k.cell j hj (by omega)).trans (h.cell j hj hN), fun j hN => (k.free j (by omega)).trans (h.free j hN)⟩
theorem u_be {N n : Nat} {a b c : World} (k : Below n b c) (hn : a.heap.size ≤ n) (h : Out1 N a b) : Out1 N a c := by
  have hs := h.size
  exact ⟨k.os.trans h.os, k.tape.trans h.tape, k.output.trans h.output, Nat.le_trans h.size k.size, fun i hi hne => (k.block i (by omega)).trans (h.block i hi hne), fun j hj hN => (k.cell (p := ⟨N, j, none⟩) (by show N < _; omega)).trans (h.cell j hj hN), fun j hN => (k.frozen (p := ⟨N, j, none⟩) (by show N < _; omega)).trans (h.free j hN)⟩
theorem Out1.of_below {N n : Nat} {a b : World} (h : Below n a b) (hn : a.heap.size ≤ n) : Out1 N a b := u_be h hn (Out1.refl _ _)
theorem u_bh {N : Nat} {a b c : World} (k : Below b.heap.size b c) (h : Out1 N a b) : Out1 N a c := u_be k h.size h
theorem u_al {N : Nat} {a b : World} (ob : Obj) (h : Out1 N a b) : Out1 N a (b.alloc ob) := u_bh (below_alloc (Below.refl _ _) (Nat.le_refl _) ob) h
theorem u_dr {N : Nat} {a b : World} (n : Nat) (h : Out1 N a b) : Out1 N a (b.drewN n) := ⟨h.os, h.tape, h.output, h.size, h.block, h.cell, h.free⟩
theorem u_d1 {N : Nat} {a b : World} (h : Out1 N a b) : Out1 N a b.drew := ⟨h.os, h.tape, h.output, h.size, h.block, h.cell, h.free⟩
theorem u_in {N : Nat} {a b : World} {i : Nat} (u : Value) (hi : i < 132) (h : Out1 N a b) : Out1 N a (b.setCell ⟨N, i, none⟩ u) :=
  ⟨h.os, h.tape, h.output, Nat.le_trans h.size (by simp [World.setCell]), fun k hk hn => (Below.heap_setCell _ _ _ _ hn).trans (h.block k hk hn), fun j hj hN => (World.cell?_setCell_other _ _ _ _ (fun x => by have := congrArg Addr.off x; simp at this; omega)).trans (h.cell j hj hN), fun j hN => by rw [World.frozen?_setCell]; exact h.free j hN⟩
theorem u_new {N : Nat} {a b : World} {p : Addr} (u : Value) (hp : a.heap.size ≤ p.block) (h : Out1 N a b) : Out1 N a (b.setCell p u) :=
  ⟨h.os, h.tape, h.output, Nat.le_trans h.size (by simp [World.setCell]), fun k hk hn => (Below.heap_setCell _ _ _ _ (by omega)).trans (h.block k hk hn), fun j hj hN => (World.cell?_setCell_other _ _ _ _ (fun x => by have := congrArg Addr.block x; simp at this; omega)).trans (h.cell j hj hN), fun j hN => by rw [World.frozen?_setCell]; exact h.free j hN⟩
theorem u_sc {N : Nat} {a : World} : ∀ (l : List Value) (b : World) (i : Nat), i + l.length ≤ 132 -> Out1 N a b -> Out1 N a (b.setCells N i l)
  | [], _, _, _, h => h
  | v :: l, b, i, hi, h => by
    rw [World.setCells]
    rw [List.length_cons] at hi
    exact u_sc l _ _ (by omega) (u_in v (by omega) h)
theorem Out1.below {N n : Nat} {a b : World} (h : Out1 N a b) (h1 : n ≤ N) (h2 : n ≤ a.heap.size) : Below n a b := ⟨h.os, h.tape, h.output, h.size, fun k hk => h.block k (by omega) (by omega)⟩
theorem Out1.reads {N : Nat} {a b : World} (h : Out1 N a b) {p : Addr} {v : Value} (hp : p.block ≠ N) (hc : a.cell? p = some v) : b.cell? p = some v := by
  have hl := World.block_lt_of_cell? a p hc
  exact (World.cell?_of_block (w := a) (h.block p.block hl hp)).trans hc
theorem u_own {N b k : Nat} {w w' : World} (h : Out1 N w w') (hne : b ≠ N) (ho : Own w b k) : Own w' b k := fun i hi => by
  obtain ⟨v, hv⟩ := Option.isSome_iff_exists.1 (ho i hi).1
  have hlt : b < w.heap.size := World.block_lt_of_cell? w _ hv
  have hb := h.block b hlt hne
  refine ⟨by rw [h.reads hne hv]; rfl, ?_⟩
  have h2 := (ho i hi).2
  simp only [World.frozen?, hb] at h2 ⊢
  exact h2
theorem c_bn {n : Nat} {W W' : World} {a : Addr} {v : Value} (hb : Below n W W') (hlt : a.block < n) (h : W.cell? a = some v) : W'.cell? a = some v := (hb.cell hlt).trans h

structure TlbAt (W : World) (N : Nat) (R : Nat -> Ln) (F : Nat -> Nat) : Prop where
  line : ∀ k, k < 8 -> W.rangeAt N (16 * k) (lineC (R k))
  fill : ∀ q, q < 4 -> W.cell? ⟨N, 128 + q, none⟩ = some (.int .i64 (F q : Int))
  there : W.there N 0 132
theorem TlbAt.here {W : World} {N : Nat} {R : Nat -> Ln} {F : Nat -> Nat} (h : TlbAt W N R F) : N < W.heap.size := World.block_lt_of_cell? W _ (h.fill 0 (by omega))
theorem TlbAt.part {W : World} {N : Nat} {R : Nat -> Ln} {F : Nat -> Nat} (h : TlbAt W N R F) (o n : Nat) (ho : o + n ≤ 132) : W.there N o n := fun j hj => by
  have := h.there (o + j) (by omega)
  rw [Nat.zero_add] at this
  exact this
theorem ta_bn {n : Nat} {W W' : World} {N : Nat} {R : Nat -> Ln} {F : Nat -> Nat} (hb : Below n W W') (hlt : N < n) (h : TlbAt W N R F) : TlbAt W' N R F :=
  ⟨fun k hk j v hv => (hb.cell (p := ⟨N, 16 * k + j, none⟩) hlt).trans (h.line k hk j v hv), fun q hq => (hb.cell (p := ⟨N, 128 + q, none⟩) hlt).trans (h.fill q hq), fun j hj => by
    have := h.there j hj
    rw [hb.cell (p := ⟨N, 0 + j, none⟩) hlt, hb.frozen (p := ⟨N, 0 + j, none⟩) hlt]
    exact this⟩
theorem ta_be {W W' : World} {N : Nat} {R : Nat -> Ln} {F : Nat -> Nat} (hb : Below W.heap.size W W') (h : TlbAt W N R F) : TlbAt W' N R F := ta_bn hb h.here h
theorem ta_dr {W : World} {N : Nat} {R : Nat -> Ln} {F : Nat -> Nat} (n : Nat) (h : TlbAt W N R F) : TlbAt (W.drewN n) N R F := ⟨h.line, h.fill, h.there⟩
theorem ta_d1 {W : World} {N : Nat} {R : Nat -> Ln} {F : Nat -> Nat} (h : TlbAt W N R F) : TlbAt W.drew N R F := ⟨h.line, h.fill, h.there⟩
theorem ta_al {W : World} {N : Nat} {R : Nat -> Ln} {F : Nat -> Nat} (ob : Obj) (h : TlbAt W N R F) : TlbAt (W.alloc ob) N R F := ta_be (below_alloc (Below.refl _ _) (Nat.le_refl _) ob) h
theorem ta_set {W : World} {N : Nat} {R : Nat -> Ln} {F : Nat -> Nat} {p : Addr} {u : Value} (hne : p.block ≠ N) (h : TlbAt W N R F) : TlbAt (W.setCell p u) N R F :=
  ⟨fun k hk j v hv => c_set hne (h.line k hk j v hv), fun q hq => c_set hne (h.fill q hq), fun j hj => ⟨by
    obtain ⟨v, hv⟩ := Option.isSome_iff_exists.1 (h.there j hj).1
    rw [c_set hne hv]; rfl, by rw [World.frozen?_setCell]; exact (h.there j hj).2⟩⟩
theorem ta_line {W : World} {N k i : Nat} {R : Nat -> Ln} {F : Nat -> Nat} (l : Ln) (hk : k < 8) (hi : i = 16 * k) (h : TlbAt W N R F) : TlbAt (W.setCells N i (lineC l)) N (updL R k l) F := by
  subst hi
  refine ⟨fun j hj => ?_, fun q hq => ?_, World.there_setCells h.there _ _ _⟩
  · unfold updL
    by_cases e : j = k
    · subst e
      rw [if_pos rfl]
      exact World.rangeAt_setCells_same _ _ _ _ (h.part _ _ (by rw [lineC_length]; omega))
    · rw [if_neg e]
      exact World.rangeAt_setCells_apart (h.line j hj) _ _ _ (by rw [lineC_length, lineC_length]; omega)
  · rw [World.cell?_setCells_out N _ _ W _ (fun _ _ => by rw [lineC_length]; show 128 + q < _ ∨ _ ≤ 128 + q; omega)]
    exact h.fill q hq
theorem ta_fill {W : World} {N q i : Nat} {R : Nat -> Ln} {F : Nat -> Nat} {v : Int} (n : Nat) (hv : v = (n : Int)) (hq : q < 4) (hi : i = 128 + q) (h : TlbAt W N R F) : TlbAt (W.setCell ⟨N, i, none⟩ (.int .i64 v)) N R (updL F q n) := by
  subst hi hv
  have ne : ∀ {a b : Nat}, a ≠ b -> (⟨N, a, none⟩ : Addr) ≠ ⟨N, b, none⟩ := fun h x => h (congrArg Addr.off x)
  refine ⟨fun k hk j v hv => ?_, fun r hr => ?_, fun j hj => ⟨?_, by rw [World.frozen?_setCell]; exact (h.there j hj).2⟩⟩
  · have hj : j < 16 := (List.getElem?_eq_some_iff.1 hv).1
    rw [World.cell?_setCell_other _ _ _ _ (ne (by omega))]
    exact h.line k hk j v hv
  · unfold updL
    by_cases e : r = q
    · subst e
      rw [if_pos rfl]
      exact World.cell?_setCell_same _ _ _ (h.fill r hr)
    · rw [if_neg e, World.cell?_setCell_other _ _ _ _ (ne (by omega))]
      exact h.fill r hr
  · obtain ⟨v, hv⟩ := Option.isSome_iff_exists.1 (h.there j hj).1
    obtain ⟨v', hv'⟩ := RowKit.cell?_setCell_some (p := ⟨N, 128 + q, none⟩) (x := .int .i64 (n : Int)) hv
    rw [hv']; rfl
theorem ta_out {W W' : World} {N M : Nat} {R : Nat -> Ln} {F : Nat -> Nat} (ho : Out1 M W W') (hne : N ≠ M) (h : TlbAt W N R F) : TlbAt W' N R F := by
  have hb := ho.block N h.here hne
  refine ⟨fun k hk j v hv => ho.reads hne (h.line k hk j v hv), fun q hq => ho.reads hne (h.fill q hq), fun j hj => ⟨?_, ?_⟩⟩
  · obtain ⟨v, hv⟩ := Option.isSome_iff_exists.1 (h.there j hj).1
    rw [ho.reads hne hv]; rfl
  · have h2 := (h.there j hj).2
    simp only [World.frozen?, hb] at h2 ⊢
    exact h2
theorem ta_hi {W : World} {N i : Nat} {R : Nat -> Ln} {F : Nat -> Nat} {u : Value} (hi : 132 ≤ i) (h : TlbAt W N R F) : TlbAt (W.setCell ⟨N, i, none⟩ u) N R F := by
  have ne : ∀ {a b : Nat}, a ≠ b -> (⟨N, a, none⟩ : Addr) ≠ ⟨N, b, none⟩ := fun h x => h (congrArg Addr.off x)
  refine ⟨fun k hk j v hv => ?_, fun q hq => ?_, fun j hj => ⟨?_, by rw [World.frozen?_setCell]; exact (h.there j hj).2⟩⟩
  · have hj : j < 16 := (List.getElem?_eq_some_iff.1 hv).1
    rw [World.cell?_setCell_other _ _ _ _ (ne (by omega))]
    exact h.line k hk j v hv
  · rw [World.cell?_setCell_other _ _ _ _ (ne (by omega))]
    exact h.fill q hq
  · rw [World.cell?_setCell_other _ _ _ _ (ne (by omega))]
    exact (h.there j hj).1
def zap (R : Nat -> Ln) (k m : Nat) : Nat -> Ln := fun j => if k ≤ j /\ j < k + m then zeroL else R j
theorem ta_zap {W : World} {N k : Nat} {R : Nat -> Ln} {F : Nat -> Nat} : ∀ (m : Nat) {i : Nat}, k + m ≤ 8 -> i = 16 * k -> TlbAt W N R F -> TlbAt (W.setCells N i ((List.replicate m (lineC zeroL)).flatten)) N (zap R k m) F := by
  intro m i hk hi h
  subst hi
  have hl : ((List.replicate m (lineC zeroL)).flatten).length = 16 * m := by simp [List.length_flatten]; omega
  refine ⟨fun j hj => ?_, fun q hq => ?_, World.there_setCells h.there _ _ _⟩
  · unfold zap
    by_cases e : k ≤ j /\ j < k + m
    · rw [if_pos e]
      obtain ⟨d, rfl⟩ : ∃ d, j = k + d := ⟨j - k, by omega⟩
      intro t v hv
      have ht : t < 16 := (List.getElem?_eq_some_iff.1 hv).1
      have := World.rangeAt_setCells_same W N (16 * k) _ (h.part _ _ (by rw [hl]; omega)) (16 * d + t) v ?_
      · rw [show 16 * k + (16 * d + t) = 16 * (k + d) + t by omega] at this
        exact this
      · have hm : d < m := by omega
        clear hl
        have : ∀ (m d : Nat), d < m -> ((List.replicate m (lineC zeroL)).flatten)[16 * d + t]? = (lineC zeroL)[t]? := by
          intro m
          induction m with
          | zero => intro d hd; omega
          | succ m ih =>
            intro d hd
            rw [List.replicate_succ, List.flatten_cons]
            cases d with
            | zero => rw [List.getElem?_append_left (by rw [lineC_length]; omega)]; simp
            | succ d =>
              rw [List.getElem?_append_right (by rw [lineC_length]; omega), lineC_length, show 16 * (d + 1) + t - 16 = 16 * d + t by omega]
              exact ih d (by omega)
        rw [this m d hm]
        exact hv
    · rw [if_neg e]
      exact World.rangeAt_setCells_apart (h.line j hj) _ _ _ (by rw [lineC_length, hl]; omega)
  · rw [World.cell?_setCells_out N _ _ W _ (fun _ _ => by rw [hl]; show 128 + q < _ ∨ _ ≤ 128 + q; omega)]
    exact h.fill q hq

theorem struct_line : Tryd.prog.underlying 36 = some (.struct ((match Tryd.prog.underlying 36 with | some (.struct fs) => fs | _ => #[]))) := by kernel_rfl
theorem infoL : Option.map (fun x => x.size) (Tryd.prog.info? 36) = some 16 := by kernel_rfl
theorem row_of {W : World} {N o : Nat} {cs : List Value} (h : W.rangeAt N o cs) (j : Nat) (v : Value) (hv : cs[j]? = some v) : W.cell? ⟨N, o + j, none⟩ = some v := h j v hv

theorem wpList_store_line {P : Program} {ops : Array Oper} {rest : List Oper} {op : Oper} {a : Act} {w : World} {Q : Exit -> Act -> World -> Prop} (hgd : op.guard = none) (ty : TypeId) (x y : Operand) (ho : op.op = .store ty x y)
    (N i k : Nat) (A B : Int) (X : Fd) (hx : a.eval x = .pointer (some ⟨N, i, none⟩)) (hy : a.eval y = .agg #[.int .u64 A, .int .u64 B, .bool X.e0, .bool X.e1, .bool X.e2, .bool X.e3, .bool X.e4, .bool X.e5, .bool X.e6, .bool X.e7, .bool X.e8, .bool X.e9, .bool X.e10, .bool X.e11, .int .u64 X.f, .int .u64 X.a]) (hi : (P.info? ty).map (·.size) = some 16) {R : Nat -> Ln} {F : Nat -> Nat} (hk : k < 8) (hik : i = 16 * k) (ht : TlbAt w N R F)
    (h : ∀ W', TlbAt W' N (updL R k (A, B, X)) F -> Out1 N w W' -> W'.heap.size = w.heap.size -> wpList P ops Q rest (a.put op.dst undef) W') : wpList P ops Q (op :: rest) a w :=
  wpList_store_mid hgd ty x y ho N i _ hx hy (ht.part _ _ (by show i + 16 ≤ 132; omega)) hi (by simp [Value.oneCell']) (h _ (ta_line (A, B, X) hk hik ht) (u_sc _ _ _ (by show i + 16 ≤ 132; omega) (Out1.refl _ _)) (setCells_size _ _ _ _))

theorem wpList_load_line {ops : Array Oper} {rest : List Oper} {op : Oper} {a : Act} {w : World} {Q : Exit -> Act -> World -> Prop} (hgd : op.guard = none) (x : Operand) (ho : op.op = .load 36 x)
    (b o : Nat) (hx : a.eval x = .pointer (some ⟨b, o, none⟩)) (A B : Int) (X : Fd) (hc : w.rangeAt b o (lineI A B X)) (h : wpList Tryd.prog ops Q rest (a.put op.dst (.agg #[.int .u64 A, .int .u64 B, .bool X.e0, .bool X.e1, .bool X.e2, .bool X.e3, .bool X.e4, .bool X.e5, .bool X.e6, .bool X.e7, .bool X.e8, .bool X.e9, .bool X.e10, .bool X.e11, .int .u64 X.f, .int .u64 X.a])) w) : wpList Tryd.prog ops Q (op :: rest) a w :=
  wpList_load_mid hgd 36 x ho b o hx (lineI A B X) _ hc struct_line rfl infoL h
theorem rg_be {W W' : World} {N o : Nat} {A B : Int} {X : Fd} (hb : Below W.heap.size W W') (h : W.rangeAt N o (lineI A B X)) : W'.rangeAt N o (lineI A B X) := fun j v hv => c_be hb (h j v hv)
theorem rg_bn {n : Nat} {W W' : World} {N o : Nat} {A B : Int} {X : Fd} (hb : Below n W W') (hlt : N < n) (h : W.rangeAt N o (lineI A B X)) : W'.rangeAt N o (lineI A B X) := fun j v hv => (hb.cell (p := ⟨N, o + j, none⟩) hlt).trans (h j v hv)
theorem rg_al {W : World} {N o : Nat} {A B : Int} {X : Fd} (ob : Obj) (h : W.rangeAt N o (lineI A B X)) : (W.alloc ob).rangeAt N o (lineI A B X) := fun j v hv => c_al ob (h j v hv)
theorem rg_dr {W : World} {N o : Nat} {A B : Int} {X : Fd} (n : Nat) (h : W.rangeAt N o (lineI A B X)) : (W.drewN n).rangeAt N o (lineI A B X) := h
theorem rg_d1 {W : World} {N o : Nat} {A B : Int} {X : Fd} (h : W.rangeAt N o (lineI A B X)) : W.drew.rangeAt N o (lineI A B X) := h
theorem rg_set {W : World} {N o : Nat} {A B : Int} {X : Fd} {p : Addr} {u : Value} (hne : p.block ≠ N) (h : W.rangeAt N o (lineI A B X)) : (W.setCell p u).rangeAt N o (lineI A B X) := fun j v hv => c_set hne (h j v hv)
theorem rg_out {W W' : World} {M N o : Nat} {A B : Int} {X : Fd} (ho : Out1 M W W') (hne : N ≠ M) (h : W.rangeAt N o (lineI A B X)) : W'.rangeAt N o (lineI A B X) := fun j v hv => ho.reads hne (h j v hv)
theorem wpList_store_box {P : Program} {ops : Array Oper} {rest : List Oper} {op : Oper} {a : Act} {w : World} {Q : Exit -> Act -> World -> Prop} (hgd : op.guard = none) (ty : TypeId) (x y : Operand) (ho : op.op = .store ty x y)
    (b : Nat) (A B : Int) (X : Fd) (hx : a.eval x = .pointer (some ⟨b, 0, none⟩)) (hy : a.eval y = .agg #[.int .u64 A, .int .u64 B, .bool X.e0, .bool X.e1, .bool X.e2, .bool X.e3, .bool X.e4, .bool X.e5, .bool X.e6, .bool X.e7, .bool X.e8, .bool X.e9, .bool X.e10, .bool X.e11, .int .u64 X.f, .int .u64 X.a]) (hi : (P.info? ty).map (·.size) = some 16) (ht : Own w b 16)
    (h : ∀ W', W'.rangeAt b 0 (lineI A B X) -> Below b w W' -> Own W' b 16 -> W'.heap.size = w.heap.size -> wpList P ops Q rest (a.put op.dst undef) W') : wpList P ops Q (op :: rest) a w :=
  wpList_store_mid hgd ty x y ho b 0 _ hx hy (th_own ht) hi (by simp [Value.oneCell']) (h _ (World.rangeAt_setCells_same _ _ _ _ (th_own ht)) (below_sc _) (o_sc ht) (setCells_size _ _ _ _))

theorem run_clear_wide {P : Program} (w : World) (t e ty : TypeId) (z : Value) (k : Nat) (ht : P.underlying t = some (.slice e)) (hv : ∀ w, (zeroValue e).run P w = .ok z w) (hz : z.cells.size = k) (h1 : ∀ v ∈ z.cells.toList, v.oneCell' = true) (b o n c : Nat) (hn : 0 < n) (hw : w.there b o (n * k)) :
    (Builtin.clear_ #[t] ty #[.slice (some ⟨b, o, none⟩) n c]).run P w = .ok (.tuple #[]) (w.setCells b o ((List.replicate n z.cells.toList).flatten)) := by
  have hlen : ∀ n, ((List.replicate n z.cells.toList).flatten).length = n * k := by
    intro n; simp [List.length_flatten, hz]
  have hgf : ∀ (n i : Nat), i < n * k -> ((List.replicate n z.cells.toList).flatten)[i]? = z.cells.toList[i % k]? := by
    intro n
    induction n with
    | zero => intro i hi; omega
    | succ n ih =>
      intro i hi
      have hz' : z.cells.toList.length = k := by rw [Array.length_toList, hz]
      rw [List.replicate_succ, List.flatten_cons]
      rcases Nat.lt_or_ge i k with h | h
      · rw [List.getElem?_append_left (by omega), Nat.mod_eq_of_lt h]
      · rw [List.getElem?_append_right (by omega), hz', ih (i - k) (by rw [Nat.succ_mul] at hi; omega), Nat.mod_eq_sub_mod h]
  have hzc : (Builtin.zeroCells z.cells n).toList = (List.replicate n z.cells.toList).flatten := by
    apply List.ext_getElem?
    intro i
    rcases Nat.lt_or_ge i (n * k) with h | h
    · have hk : 0 < k := Nat.pos_of_ne_zero (fun e => by subst e; omega)
      have hm : i % k < z.cells.size := by rw [hz]; exact Nat.mod_lt _ hk
      rw [hgf n i h]
      simp [Builtin.zeroCells, hz, h]
      rw [getElem!_pos z.cells (i % k) hm]
      exact (Array.getElem?_eq_getElem hm).symm
    · rw [List.getElem?_eq_none (by simp [Builtin.zeroCells, hz]; exact h), List.getElem?_eq_none (by rw [hlen]; exact h)]
  have hst := run_storeCells_cells (P := P) b o ((List.replicate n z.cells.toList).flatten) 0 w (fun j hj => by rw [hlen] at hj; rw [Nat.add_zero]; exact (hw j hj).1) (fun j hj => by rw [hlen] at hj; rw [Nat.add_zero]; exact (hw j hj).2) (fun v hv' => by
    obtain ⟨l, hl, hvl⟩ := List.mem_flatten.1 hv'
    rw [List.eq_of_mem_replicate hl] at hvl
    exact h1 v hvl)
  simp only [Nat.add_zero] at hst
  obtain ⟨m, rfl⟩ : ∃ m, n = m + 1 := ⟨n - 1, by omega⟩
  simp [Builtin.clear_, run_underlying ht, hv, hzc, hst]
theorem zero_line : ∃ z, (∀ w, (zeroValue 36).run Tryd.prog w = .ok z w) /\ z.cells.toList = lineC zeroL := ⟨.agg #[.int .u64 0, .int .u64 0, .bool false, .bool false, .bool false, .bool false, .bool false, .bool false, .bool false, .bool false, .bool false, .bool false, .bool false, .bool false, .int .u64 0, .int .u64 0], fun w => by kernel_rfl, rfl⟩
theorem slice_line : Tryd.prog.underlying 73 = some (.slice 36) := by kernel_rfl
theorem run_clear_lines (w : World) (ty : TypeId) (N i k n c : Nat) {R : Nat -> Ln} {F : Nat -> Nat} (hn : 0 < n) (hk : k + n ≤ 8) (hi : i = 16 * k) (h : TlbAt w N R F) :
    (Builtin.clear_ #[73] ty #[.slice (some ⟨N, i, none⟩) n c]).run Tryd.prog w = .ok (.tuple #[]) (w.setCells N i ((List.replicate n (lineC zeroL)).flatten)) := by
  obtain ⟨z, hz, hzc⟩ := zero_line
  have := run_clear_wide (P := Tryd.prog) w 73 36 ty z 16 slice_line hz (by rw [← Array.length_toList, hzc]; rfl) (by rw [hzc]; exact lineC_one _) N i n c hn (h.part _ _ (by omega))
  rw [hzc] at this
  exact this
theorem wpList_clear_lines {ops : Array Oper} {rest : List Oper} {op : Oper} {a : Act} {w : World} {Q : Exit -> Act -> World -> Prop} (hgd : op.guard = none) (s : Operand)
    (ho : op.op = .call { callee := .builtin .clear, args := #[s], argTypes := #[73] }) (N i k n c : Nat) (hs : a.eval s = .slice (some ⟨N, i, none⟩) n c) {R : Nat -> Ln} {F : Nat -> Nat} (hn : 0 < n) (hk : k + n ≤ 8) (hi : i = 16 * k) (ht : TlbAt w N R F)
    (h : ∀ W', TlbAt W' N (zap R k n) F -> Out1 N w W' -> W'.heap.size = w.heap.size -> wpList Tryd.prog ops Q rest (a.put op.dst (.tuple #[])) W') : wpList Tryd.prog ops Q (op :: rest) a w := by
  refine wpList_plain hgd fun K hK => ?_
  have hrun := run_clear_lines w op.type N i k n c hn hk hi ht
  unfold Oper.wp
  simp [execOp, ho, resolve, invoke, builtin, hs, hrun, Result.andThen]
  exact hK _ _ (h _ (ta_zap n hk hi ht) (u_sc _ _ _ (by rw [show ((List.replicate n (lineC zeroL)).flatten).length = 16 * n by simp [List.length_flatten]; omega]; omega) (Out1.refl _ _)) (setCells_size _ _ _ _))
end Go.Proofs.YtkajndonefkegaaDoor

namespace Go.Proofs.YtkajndonefkegaaDoor
open Go.RowKit

def TlbM (W : World) (N : Nat) (M : Nat -> List Ln) : Prop := ∃ R, TlbAt W N R (fun q => (M q).length) /\ ∀ q, q < 4 -> (M q).length ≤ 2 /\ ∀ j l, (M q)[j]? = some l -> R (2 * q + j) = l
theorem tm_be {W W' : World} {N : Nat} {M : Nat -> List Ln} (hb : Below W.heap.size W W') (h : TlbM W N M) : TlbM W' N M := by
  obtain ⟨R, h1, h2⟩ := h
  exact ⟨R, ta_be hb h1, h2⟩
theorem tm_bn {n : Nat} {W W' : World} {N : Nat} {M : Nat -> List Ln} (hb : Below n W W') (hlt : N < n) (h : TlbM W N M) : TlbM W' N M := by
  obtain ⟨R, h1, h2⟩ := h
  exact ⟨R, ta_bn hb hlt h1, h2⟩
theorem tm_dr {W : World} {N : Nat} {M : Nat -> List Ln} (n : Nat) (h : TlbM W N M) : TlbM (W.drewN n) N M := by
  obtain ⟨R, h1, h2⟩ := h
  exact ⟨R, ta_dr n h1, h2⟩
theorem tm_d1 {W : World} {N : Nat} {M : Nat -> List Ln} (h : TlbM W N M) : TlbM W.drew N M := by
  obtain ⟨R, h1, h2⟩ := h
  exact ⟨R, ta_d1 h1, h2⟩
theorem tm_al {W : World} {N : Nat} {M : Nat -> List Ln} (ob : Obj) (h : TlbM W N M) : TlbM (W.alloc ob) N M := tm_be (below_alloc (Below.refl _ _) (Nat.le_refl _) ob) h
theorem tm_set {W : World} {N : Nat} {M : Nat -> List Ln} {p : Addr} {u : Value} (hne : p.block ≠ N) (h : TlbM W N M) : TlbM (W.setCell p u) N M := by
  obtain ⟨R, h1, h2⟩ := h
  exact ⟨R, ta_set hne h1, h2⟩
theorem TlbM.here {W : World} {N : Nat} {M : Nat -> List Ln} (h : TlbM W N M) : N < W.heap.size := by
  obtain ⟨R, h1, h2⟩ := h
  exact h1.here
theorem tm_out {W W' : World} {N K : Nat} {M : Nat -> List Ln} (ho : Out1 K W W') (hne : N ≠ K) (h : TlbM W N M) : TlbM W' N M := by
  obtain ⟨R, h1, h2⟩ := h
  exact ⟨R, ta_out ho hne h1, h2⟩
theorem tm_congr {W : World} {N : Nat} {M M' : Nat -> List Ln} (he : ∀ q, q < 4 -> M q = M' q) (h : TlbM W N M) : TlbM W N M' := by
  obtain ⟨R, h1, h2⟩ := h
  refine ⟨R, ⟨h1.line, fun q hq => ?_, h1.there⟩, fun q hq => ?_⟩
  · show W.cell? ⟨N, 128 + q, none⟩ = some (Value.int .i64 ((M' q).length : Int))
    rw [← he q hq]
    exact h1.fill q hq
  · rw [← he q hq]
    exact h2 q hq
def upTo {α : Type} (M M2 : Nat -> List (LnX α)) (k : Nat) : Nat -> List (LnX α) := fun q => if q < k then M2 q else M q
theorem updL_upTo (M M2 : Nat -> List Ln) (q m : Nat) (hm : (M2 q).length = m) : updL (fun r => (upTo M M2 q r).length) q m = fun r => (upTo M M2 (q + 1) r).length := by
  funext r
  unfold updL upTo
  by_cases e : r = q
  · subst e
    rw [if_pos rfl, if_pos (by omega), hm]
  · rw [if_neg e]
    dsimp only
    by_cases h : r < q
    · rw [if_pos h, if_pos (by omega)]
    · rw [if_neg h, if_neg (by omega)]
theorem tm_hi {W : World} {N i : Nat} {M : Nat -> List Ln} {u : Value} (hi : 132 ≤ i) (h : TlbM W N M) : TlbM (W.setCell ⟨N, i, none⟩ u) N M := by
  obtain ⟨R, h1, h2⟩ := h
  exact ⟨R, ta_hi hi h1, h2⟩
end Go.Proofs.YtkajndonefkegaaDoor

namespace Go.Proofs.YtkajndonefkegaaDoor
open Go.RowKit

theorem setof_let (X Y : Int) (_h : X % 4 = Y) (_h0 : 0 ≤ X) (_h2 : IntKind.u64.wrap Y = Y) (_h3 : X.tmod 4 = Y) (w : World) : Calls Tryd.prog 60 #[.int .u64 X] w (Quiet (.int .u64 Y) w) := by
  go_enter Tryd.func60, Tryd.ntmps60
  go_wp2
  go_ret
  exact ⟨rfl, 0, rfl⟩
theorem setof_any (X : Int) (q : Nat) (h : X % 4 = (q : Int)) (h0 : 0 ≤ X) (w : World) : Calls Tryd.prog 60 #[.int .u64 X] w (Quiet (.int .u64 (q : Int)) w) :=
  setof_let X (q : Int) h h0 (by rw [IntKind.wrap_u64]; omega) (by rw [Int.tmod_eq_emod_of_nonneg h0]; exact h) w

theorem isof_let (A B : Int) (X : Fd) (a n : Int) (w : World) : Calls Tryd.prog 52 #[.agg #[.int .u64 A, .int .u64 B, .bool X.e0, .bool X.e1, .bool X.e2, .bool X.e3, .bool X.e4, .bool X.e5, .bool X.e6, .bool X.e7, .bool X.e8, .bool X.e9, .bool X.e10, .bool X.e11, .int .u64 X.f, .int .u64 X.a], .int .u64 a, .int .u64 n] w (Makes (.bool ((A == a) && (B == n))) w) := by
  obtain ⟨SS, LB', LS, LA', LH⟩ := rules5
  by_cases e : A = a
  · subst e
    go_enter Tryd.func52, Tryd.ntmps52
    go_wp2
    go_ret
    refine ⟨by simp, ?_⟩
    repeat (with_reducible first | assumption | exact Below.refl _ _ | refine Below.drew ?_ | refine below_drewN ?_ _ | refine bw_alloc ?_ _ | (refine bw_set ?_ ?_ _; focus (dsimp only; omega)) | (apply bw_behind; assumption))
  · have e2 : (A == a) = false := by simpa using e
    go_enter Tryd.func52, Tryd.ntmps52
    go_wp2
    go_ret
    refine ⟨by simp [e2], ?_⟩
    repeat (with_reducible first | assumption | exact Below.refl _ _ | refine Below.drew ?_ | refine below_drewN ?_ _ | refine bw_alloc ?_ _ | (refine bw_set ?_ ?_ _; focus (dsimp only; omega)) | (apply bw_behind; assumption))

theorem cdrop_let (A B : Int) (X : Fd) (a n : Int) (ba bn : Nat) (w : World) (ga : w.cell? ⟨ba, 0, none⟩ = some (.int .u64 a)) (gn : w.cell? ⟨bn, 0, none⟩ = some (.int .u64 n)) : Calls Tryd.prog 51 #[.agg #[.int .u64 A, .int .u64 B, .bool X.e0, .bool X.e1, .bool X.e2, .bool X.e3, .bool X.e4, .bool X.e5, .bool X.e6, .bool X.e7, .bool X.e8, .bool X.e9, .bool X.e10, .bool X.e11, .int .u64 X.f, .int .u64 X.a], .pointer (some ⟨ba, 0, none⟩), .pointer (some ⟨bn, 0, none⟩)] w (Makes (.bool ((A == a) && (B == n))) w) := by
  obtain ⟨SS, LB', LS, LA', LH⟩ := rules5
  have C1 := hide (fun W => isof_let A B X a n W)
  have hba : ltB ba w.heap.size = true := decide_eq_true (World.block_lt_of_cell? _ _ ga)
  have hbn : ltB bn w.heap.size = true := decide_eq_true (World.block_lt_of_cell? _ _ gn)
  go_enter Tryd.func51, Tryd.ntmps51
  go_wp2_with (go_at_call 52; (with_reducible refine (C1.out _).mono ?_); rintro e w1 ⟨rfl, hb1⟩; obtain ⟨hr1, hh1, m1, hs1⟩ := bl_all hb1)
  go_ret
  refine ⟨rfl, ?_⟩
  repeat (with_reducible first | assumption | exact Below.refl _ _ | refine Below.drew ?_ | refine below_drewN ?_ _ | refine bw_alloc ?_ _ | (refine bw_set ?_ ?_ _; focus (dsimp only; omega)) | (apply bw_behind; assumption))

theorem cflush_let (A B : Int) (X : Fd) (a : Int) (ba : Nat) (w : World) (ga : w.cell? ⟨ba, 0, none⟩ = some (.int .u64 a)) : Calls Tryd.prog 53 #[.agg #[.int .u64 A, .int .u64 B, .bool X.e0, .bool X.e1, .bool X.e2, .bool X.e3, .bool X.e4, .bool X.e5, .bool X.e6, .bool X.e7, .bool X.e8, .bool X.e9, .bool X.e10, .bool X.e11, .int .u64 X.f, .int .u64 X.a], .pointer (some ⟨ba, 0, none⟩)] w (Makes (.bool (A == a)) w) := by
  obtain ⟨SS, LB', LS, LA', LH⟩ := rules5
  have hba : ltB ba w.heap.size = true := decide_eq_true (World.block_lt_of_cell? _ _ ga)
  go_enter Tryd.func53, Tryd.ntmps53
  go_wp2
  go_ret
  refine ⟨rfl, ?_⟩
  repeat (with_reducible first | assumption | exact Below.refl _ _ | refine Below.drew ?_ | refine below_drewN ?_ _ | refine bw_alloc ?_ _ | (refine bw_set ?_ ?_ _; focus (dsimp only; omega)) | (apply bw_behind; assumption))

theorem cclear_let (A B : Int) (X : Fd) (w : World) : Calls Tryd.prog 54 #[.agg #[.int .u64 A, .int .u64 B, .bool X.e0, .bool X.e1, .bool X.e2, .bool X.e3, .bool X.e4, .bool X.e5, .bool X.e6, .bool X.e7, .bool X.e8, .bool X.e9, .bool X.e10, .bool X.e11, .int .u64 X.f, .int .u64 X.a]] w (Makes (.bool true) w) := by
  obtain ⟨SS, LB', LS, LA', LH⟩ := rules5
  go_enter Tryd.func54, Tryd.ntmps54
  go_wp2
  go_ret
  refine ⟨rfl, ?_⟩
  repeat (with_reducible first | assumption | exact Below.refl _ _ | refine Below.drew ?_ | refine below_drewN ?_ _ | refine bw_alloc ?_ _ | (refine bw_set ?_ ?_ _; focus (dsimp only; omega)) | (apply bw_behind; assumption))

theorem of_let (N q : Nat) (n : Nat) (hn : n ≤ 2) (hq : q < 4) (w : World) (hc : w.cell? ⟨N, 128 + q, none⟩ = some (.int .i64 (n : Int))) : Calls Tryd.prog 55 #[.pointer (some ⟨N, 0, none⟩), .int .u64 (q : Int)] w (Quiet (.slice (some ⟨N, q * 32, none⟩) n n) w) := by
  have h1 : ¬ ((4 : Int) ≤ (q : Int)) := by omega
  have h2 : (q : Int) < 4 := by omega
  have h3 : (0 : Int) ≤ (q : Int) := by omega
  have h4 : (0 : Int) ≤ (n : Int) := by omega
  have h5 : (n : Int) ≤ 2 := by omega
  have h6 : (n : Int) ≤ ((2 : Nat) : Int) := by omega
  go_enter Tryd.func55, Tryd.ntmps55
  go_wp2
  go_ret
  exact ⟨rfl, 0, rfl⟩
end Go.Proofs.YtkajndonefkegaaDoor
