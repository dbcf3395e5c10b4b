/-
  Texts laid one behind the other: Quiet, Grows, Keep, LawFrame, More, Long, Stored.
  The form of a contract of a function that only computes: it answers a value, and turns nothing but the count of what was drawn. No program text here.
  Contracts of functions that make memory of their own: what was there stays; and the facts that a walk needs behind such a call, as rules. No program text here.
  What a cell holds stays: behind a draw, behind new memory, behind a store into another block, behind a call that keeps what was there; rules for a walk, one step each. No program text here.
  The frame of every law of this seat: if the call answers true and turns nothing that was there, for all arguments that can be read, then the law's row holds. No program text here.
  More rules for a walk, to be imported by the texts of new layers: rows of cells, worlds made letters, arrays of structs by value. No program text here.
  Rows of cells stored whole (values of more than eight cells): rules for a walk, one step each. No program text here.
  A value of many cells stored into a variable of its own: behind it the world is a letter, of which its cells are told, and that nothing else has turned. No program text here.
-/
import Derived.Test.YtkajndonefkegaaDoorRows
import Derived.WalkKit
import Derived.WalkSpells
import Derived.WalkLawsBesides
import Derived.Deep.QuietTactic
import Derived.BigQuiet
import Derived.ProofKit
import Derived.OpenShut
import Derived.Deep.RegionHeld3
import Derived.Deep.MidRow
namespace Go.Proofs.YtkajndonefkegaaDoor
open Go.RowKit

theorem hide {p : Prop} (h : p) : Hid p := h
/-- The call answers v, and turns nothing but the count of what was drawn. -/
def Quiet (v : Value) (w : World) (e : Ending) (w' : World) : Prop := e = .returned v ∧ ∃ n, w' = w.drewN n
theorem Quiet.mk0 {v : Value} {w : World} : Quiet v w (.returned v) w := ⟨rfl, 0, rfl⟩
theorem Quiet.mkN {v : Value} {w : World} {n : Nat} : Quiet v w (.returned v) (w.drewN n) := ⟨rfl, n, rfl⟩
theorem Quiet.region {f : FuncId} {args : Array Value} {v : Value} (c : ∀ W : World, Calls Tryd.prog f args W (Quiet v W)) {w : World} {n : Nat} :
    Calls Tryd.prog f args (w.drewN n) fun e w'' => e = .returned v ∧ ∃ m, w'' = w.drewN m :=
  (c _).mono fun _ _ ⟨he, m, hm⟩ => ⟨he, n + m, by rw [hm, World.drewN_drewN]⟩
theorem Quiet.regionAdd {f : FuncId} {args : Array Value} {v : Value} (c : ∀ W : World, Calls Tryd.prog f args W (Quiet v W)) {w : World} {a n : Nat} :
    Calls Tryd.prog f args (w.drewN (a + n)) fun e w'' => e = .returned v ∧ ∃ m, w'' = w.drewN (a + m) :=
  (c _).mono fun _ _ ⟨he, m, hm⟩ => ⟨he, n + m, by rw [hm, World.drewN_drewN, Nat.add_assoc]⟩
theorem ret_int {k : IntKind} {a b : Int} (h : a = b) : Ending.returned (.int k a) = .returned (.int k b) := by rw [h]
theorem ret_bool {a b : Bool} (h : a = b) : Ending.returned (.bool a) = .returned (.bool b) := by rw [h]

/-- A world in which what lay below n lies as it lay in w. -/
structure Behind (n : Nat) (w : World) where
  world : World
  below : Below n w world
theorem Behind.any (w : World) : Nonempty (Behind w.heap.size w) := ⟨⟨w, Below.refl _ _⟩⟩
/-- A region that draws its order, and calls what makes memory of its own (but hands back one value in every world), walked once in the order of the text. -/
theorem wp_region_behind {P : Program} {id : Nat} {Q : Exit → Act → World → Prop} {a : Act} {w : World} {l : List Oper} (w0 : World) (hm : P.follows .mixedOrders = true) (hB : Region.lexB .any l.toArray = true) (hC : Below w0.heap.size w0 w)
    (h : wpQuiet P l.toArray (fun w' => ∃ y : Behind w0.heap.size w0, w' = y.world) (fun a' => ∀ w', (∃ y : Behind w0.heap.size w0, w' = y.world) → Q .normal a' w') l a) : (Code.region id l.toArray true).wp P Q a w :=
  wp_region_quiet (C := fun w' => ∃ y : Behind w0.heap.size w0, w' = y.world) hm hB ⟨⟨w.drew, hC.drew⟩, rfl⟩ h
/-- A call's contract at a world of the class. -/
theorem Behind.call {P : Program} {f : FuncId} {args : Array Value} {v : Value} {w0 : World} (c : ∀ W : World, Calls P f args W fun e W' => e = .returned v ∧ Below W.heap.size W W') (y : Behind w0.heap.size w0) :
    Calls P f args y.world fun e w'' => e = .returned v ∧ ∃ z : Behind w0.heap.size w0, w'' = z.world :=
  (c _).mono fun _ _ ⟨he, hb⟩ => ⟨he, ⟨_, y.below.trans (hb.mono y.below.size)⟩, rfl⟩

end Go.Proofs.YtkajndonefkegaaDoor

namespace Go.Proofs.YtkajndonefkegaaDoor
open Go.RowKit

/-- The call answers v; what was there stays; it may make memory. -/
def Makes (v : Value) (w : World) (e : Ending) (w' : World) : Prop := e = .returned v ∧ Below w.heap.size w w'

theorem below_grew {n : Nat} {w w' : World} (h : Below n w w') : ∃ m, w'.heap.size = w.heap.size + m := ⟨w'.heap.size - w.heap.size, by have := h.size; omega⟩
/-- 'a < b', in a form that a walk reckons addend by addend. -/
def ltB (a b : Nat) : Bool := decide (a < b)
theorem ltB_add : ∀ a b c : Nat, ltB a (b + c) = (ltB a b || decide (a < b + c)) := fun a b c => by
  unfold ltB
  by_cases h : a < b
  · have h2 : a < b + c := by omega
    simp [h, h2]
  · simp [h]
theorem ltB_self : ∀ a : Nat, ltB a a = false := fun a => by unfold ltB; simp
theorem below_reads {n : Nat} {w w' : World} (h : Below n w w') : ∀ b i, ltB b n = true → w'.cell? ⟨b, i, none⟩ = w.cell? ⟨b, i, none⟩ := fun _ _ hb => h.cell (of_decide_eq_true hb)
theorem below_holds {n : Nat} {w w' : World} (h : Below n w w') : ∀ b i, ltB b n = true → w'.frozen? ⟨b, i, none⟩ = w.frozen? ⟨b, i, none⟩ := fun _ _ hb => h.frozen (of_decide_eq_true hb)
theorem alloc_reads : ∀ (w : World) (o : Obj) (b i : Nat), ltB b w.heap.size = true → (w.alloc o).cell? ⟨b, i, none⟩ = w.cell? ⟨b, i, none⟩ := fun w o _ _ hb => World.cell?_alloc_lt w o _ (of_decide_eq_true hb)
theorem alloc_holds : ∀ (w : World) (o : Obj) (b i : Nat), ltB b w.heap.size = true → (w.alloc o).frozen? ⟨b, i, none⟩ = w.frozen? ⟨b, i, none⟩ := fun w o _ _ hb => World.frozen?_alloc_old w o _ (by have := of_decide_eq_true hb; simp; omega)
/-- A cell that is there reads what was stored. -/
theorem cell_same : ∀ (w : World) (a : Addr) (v : Value), (w.cell? a).isSome = true → (w.setCell a v).cell? a = some v := fun w a v h => by
  obtain ⟨u, hu⟩ := Option.isSome_iff_exists.1 h
  exact World.cell?_setCell_same _ _ _ hu
theorem quiet_makes {v : Value} {w : World} {e : Ending} {w' : World} (h : Quiet v w e w') : Makes v w e w' := by
  obtain ⟨he, n, rfl⟩ := h
  exact ⟨he, below_drewN (Below.refl _ _) n⟩
theorem below_alloc {n : Nat} {a w : World} (h : Below n a w) (hn : n ≤ a.heap.size) (o : Obj) : Below n a (w.alloc o) := h.alloc (Nat.le_trans hn h.size) o
theorem below_behind {n : Nat} {w a b : World} (h : Below n w a) (hn : n ≤ w.heap.size) (k : Below a.heap.size a b) : Below n w b := h.trans (k.mono (Nat.le_trans hn h.size))
/-! What was there when the call began lies as it lay: step by step, no side goal but what a walk pays. -/
theorem bw_alloc {w a : World} (h : Below w.heap.size w a) (o : Obj) : Below w.heap.size w (a.alloc o) := below_alloc h (Nat.le_refl _) o
theorem bw_set {w a : World} {p : Addr} (hp : w.heap.size ≤ p.block) (h : Below w.heap.size w a) (v : Value) : Below w.heap.size w (a.setCell p v) := h.setCell hp v
theorem bw_behind {w a b : World} (k : Below a.heap.size a b) (h : Below w.heap.size w a) : Below w.heap.size w b := below_behind h (Nat.le_refl _) k
end Go.Proofs.YtkajndonefkegaaDoor

namespace Go.Proofs.YtkajndonefkegaaDoor
open Go.RowKit
theorem c_dr {W : World} {a : Addr} {v : Value} (k : Nat) (h : W.cell? a = some v) : (W.drewN k).cell? a = some v := h
theorem c_d1 {W : World} {a : Addr} {v : Value} (h : W.cell? a = some v) : W.drew.cell? a = some v := h
theorem c_al {W : World} {a : Addr} {v : Value} (o : Obj) (h : W.cell? a = some v) : (W.alloc o).cell? a = some v := (World.cell?_alloc_lt W o a (World.block_lt_of_cell? W a h)).trans h
theorem c_set {W : World} {a p : Addr} {v u : Value} (hne : p.block ≠ a.block) (h : W.cell? a = some v) : (W.setCell p u).cell? a = some v := by
  exact (World.cell?_setCell_other _ _ _ _ (fun e => hne (congrArg Addr.block e))).trans h
theorem c_be {W W' : World} {a : Addr} {v : Value} (hb : Below W.heap.size W W') (h : W.cell? a = some v) : W'.cell? a = some v := (hb.cell (World.block_lt_of_cell? W a h)).trans h
/-- The first k cells of a block are there, and may be written. -/
def Own (W : World) (b k : Nat) : Prop := ∀ i, i < k → (W.cell? ⟨b, i, none⟩).isSome = true ∧ W.frozen? ⟨b, i, none⟩ = false
theorem o_new {W : World} {cs : Array Value} {t : TypeId} {b k : Nat} (hb : b = W.heap.size) (hk : k ≤ cs.size) : Own (W.alloc (.cells cs t)) b k := fun i hi => by
  subst hb
  have : i < cs.size := Nat.lt_of_lt_of_le hi hk
  constructor
  · simp [go_sem, this]
  · simp [go_sem]
theorem o_dr {W : World} {b k : Nat} (n : Nat) (h : Own W b k) : Own (W.drewN n) b k := h
theorem o_d1 {W : World} {b k : Nat} (h : Own W b k) : Own W.drew b k := h
theorem o_be {W W' : World} {b k : Nat} (hb : Below W.heap.size W W') (h : Own W b k) : Own W' b k := fun i hi => by
  obtain ⟨v, hv⟩ := Option.isSome_iff_exists.1 (h i hi).1
  have hlt : b < W.heap.size := World.block_lt_of_cell? W _ hv
  exact ⟨by rw [hb.cell (p := ⟨b, i, none⟩) hlt]; exact (h i hi).1, by rw [hb.frozen (p := ⟨b, i, none⟩) hlt]; exact (h i hi).2⟩
theorem o_al {W : World} {b k : Nat} (o : Obj) (h : Own W b k) : Own (W.alloc o) b k := o_be (below_alloc (Below.refl _ _) (Nat.le_refl _) o) h
theorem o_set {W : World} {b k : Nat} {p : Addr} {u : Value} (h : Own W b k) : Own (W.setCell p u) b k := fun i hi => by
  obtain ⟨v, hv⟩ := Option.isSome_iff_exists.1 (h i hi).1
  obtain ⟨v', hv'⟩ := RowKit.cell?_setCell_some (p := p) (x := u) hv
  exact ⟨by rw [hv']; rfl, by rw [World.frozen?_setCell]; exact (h i hi).2⟩
theorem Own.some {W : World} {b k : Nat} (h : Own W b k) (i : Nat) (hi : i < k) : (W.cell? ⟨b, i, none⟩).isSome = true := (h i hi).1
theorem Own.val {W : World} {b k : Nat} (h : Own W b k) (i : Nat) (hi : i < k) : ∃ v, W.cell? ⟨b, i, none⟩ = .some v := Option.isSome_iff_exists.1 (h i hi).1
theorem Own.free {W : World} {b k : Nat} (h : Own W b k) (i : Nat) (hi : i < k) : W.frozen? ⟨b, i, none⟩ = false := (h i hi).2
theorem s_dr {W : World} (n : Nat) : (W.drewN n).heap.size = W.heap.size := rfl
theorem s_d1 {W : World} : W.drew.heap.size = W.heap.size := rfl
theorem s_al {W : World} (o : Obj) : (W.alloc o).heap.size = W.heap.size + 1 := by simp
theorem s_set {W : World} (p : Addr) (v : Value) : (W.setCell p v).heap.size = W.heap.size := by simp
end Go.Proofs.YtkajndonefkegaaDoor

namespace Go.Proofs.YtkajndonefkegaaDoor.Frame
open Go.ChangeShapes Go.WideShapes Go.ChangeAt Go.RowKit

theorem own : ownKnob Tryd.prog.godebug = none := by kernel_rfl
theorem laidOut : laidOutB Tryd.prog = true := by kernel_rfl

section
variable {H : Type} {enc : TypeId × Value → H} {P : Program}
theorem below_all (hl : laidOutB P = true) {W W' : World} (hb : Below W.heap.size W W') :
    ∀ (ts : List TypeId) (vs : List Value) (ds : List (DataW H)) (ps : List MemPlace), ts.all (fun t => P.readableRec t && decide (t < P.types.size)) = true →
      DataW.TrodAll enc P W 0 (fun _ => true) true ts vs ds ps → (∀ x ∈ ps, x.block < W.heap.size) → DataW.TrodAll enc P W' 0 (fun b => decide (b < W.heap.size)) true ts vs ds ps
  | [], [], [], ps, _, h, _ => h
  | t :: ts, v :: vs, d :: ds, ps, hr, ⟨p, q, h1, h2, e⟩, hlt => by
    simp only [List.all_cons, Bool.and_eq_true, decide_eq_true_eq] at hr
    exact ⟨p, q, Below.trod hl hr.1.1 hr.1.2 h1 hb (fun x hx => hlt x (by rw [e]; simp [hx])),
      below_all hl hb ts vs ds q hr.2 h2 (fun x hx => hlt x (by rw [e]; simp [hx])), e⟩
theorem trodAll_length {w : World} {base : Nat} {spare : Nat → Bool} {held : Bool} :
    ∀ (ts : List TypeId) (vs : List Value) (ds : List (DataW H)) (ps : List MemPlace), DataW.TrodAll enc P w base spare held ts vs ds ps → ds.length = ts.length
  | [], [], [], _, _ => rfl
  | _ :: ts, _ :: vs, _ :: ds, _, ⟨_, q, _, h2, _⟩ => by simp [trodAll_length ts vs ds q h2]
end

/-- A law's call, of all arguments that can be read: true, and nothing that was there turns. -/
def Walks (f : FuncId) (fn : Func) : Prop :=
  ∀ (H : Type) (enc : TypeId × Value → H) (W : World) (base : Nat) (args : Array Value) (ds : List (DataW H)) (ps : List MemPlace),
    (∀ (j : Nat) t v, fn.params[j]? = some t → args[j]? = some v → Value.okWide Tryd.prog W .any base t v) →
    DataW.TrodAll enc Tryd.prog W 0 (fun _ => true) true fn.params.toList args.toList ds ps →
    Calls Tryd.prog f args W fun e W' => e = .returned (.bool true) ∧ Below W.heap.size W W'

set_option maxRecDepth 100000 in
theorem lift (os : Os) (started : os.Started) (H : Type) (enc : TypeId × Value → H) (f : FuncId) (fn : Func) (s : ChangeSpec) (tb : TypeId)
    (noInit : Tryd.checked.prog.inits.idxOf? f = none) (hfn : Tryd.prog.funcs[f]? = some fn) (hb : Tryd.prog.underlying tb = some .bool) (hres : fn.resultTypes = #[tb]) (hvars : s.vars = [])
    (hread : fn.params.toList.all (fun t => Tryd.prog.readableRec t && decide (t < Tryd.prog.types.size)) = true)
    (hspec : ∀ ds : List (DataW H), ds.length = fn.params.toList.length → (s.fn H ds).results = [.lit (.bool true)] ∧ (s.fn H ds).args = ds ∧ (s.fn H ds).vars = [])
    (witness : ∃ (w : World) (tape : Tape) (i : Input), w.os = os ∧ (w.forCall tape i).Shaped Tryd.checked.prog ∧ i.vars = [] ∧ Input.okWide Tryd.checked.prog (w.forCall tape i) .any w.heap.size f i ∧
      s.pre6 enc Tryd.checked.prog fn [] false (w.forCall tape i).memory i.args ∧ Assume.holds {} Tryd.checked.prog (lone (Frame.enter Tryd.checked.prog f i.args .normal) [] (w.forCall tape i)))
    (walk : Walks f fn) :
    ReturnsInHanded {} Tryd.checked os f .any (s.pre6 enc Tryd.prog fn [] false) (s.post enc Tryd.prog fn false true false false) := by
  refine returnsInHanded_of_change (C := Tryd.checked) own started noInit hfn witness ?_
  intro W base args ds gs before hval hW _ _
  have hW' := hW
  obtain ⟨p, q, hA, hV, rfl, hfz, hnd⟩ := hW
  have hlen := trodAll_length _ _ _ _ hA
  obtain ⟨rfl, rfl⟩ : gs = [] ∧ q = [] := by
    rw [hvars] at hV
    cases gs with
    | nil => exact ⟨rfl, hV⟩
    | cons g gs => exact absurd hV (by simp [DataW.TrodVars])
  obtain ⟨e1, e2, e3⟩ := hspec ds hlen
  refine (walk H enc W base args ds p hval hA).mono fun e W' ⟨he, bel⟩ => ?_
  subst he
  have hlt : ∀ x ∈ p, x.block < W.heap.size := fun x hx => hW'.lt x (by simp [hx])
  refine ⟨_, rfl, ds, [], p ++ [], [], p, [], hW', ?_, ?_, ?_, bel.frame _, fun h => by cases h⟩
  · rw [List.append_nil, e1, hres]
    exact trodAll_mk1 (shut_bool hb true)
  · rw [List.append_nil, e2]
    exact below_all laidOut bel _ _ _ _ hread hA hlt
  · rw [List.append_nil, e3, hvars]
    exact rfl

/-- One call behind the other. -/
theorem below_then {w a b : World} (h : Below w.heap.size w a) (k : Below a.heap.size a b) : Below w.heap.size w b := h.trans (k.mono h.size)

/-! arguments, opened -/
theorem list_of {α β : Type} (f : β → α) (p : β → Prop) : ∀ l : List α, (∀ i, i < l.length → ∃ z, l[i]? = some (f z) ∧ p z) → ∃ zs : List β, l = zs.map f ∧ ∀ z ∈ zs, p z
  | [], _ => ⟨[], rfl, by simp⟩
  | x :: l, h => by
    obtain ⟨z, hz, hp⟩ := h 0 (by simp)
    obtain ⟨zs, rfl, hzs⟩ := list_of f p l (fun i hi => by simpa using h (i + 1) (by simpa using hi))
    refine ⟨z :: zs, by simp at hz; simp [hz], ?_⟩
    intro y hy
    rcases List.mem_cons.1 hy with rfl | hy
    · exact hp
    · exact hzs y hy
section
variable {H : Type} {enc : TypeId × Value → H} {P : Program} {W : World} {base : Nat} {t e : TypeId} {k : IntKind} {n : Nat} {v : Value} {d : DataW H} {ps : List MemPlace}
/-- An array of integers by value. -/
theorem open_arr (ht : P.underlying t = some (.array n e)) (he : P.underlying e = some (.int k)) (hce : P.cellsOf e = 1) (hct : P.cellsOf t = n)
    (hv : Value.okWide P W .any base t v) (h : DataW.Trod enc P W 0 (fun _ => true) true t v d ps) :
    ∃ zs : List Int, v = .agg (zs.map (Value.int k)).toArray ∧ zs.length = n ∧ ∀ z ∈ zs, (Lit.int k z).wf = true := by
  obtain ⟨cs, rfl, hsz, _⟩ : ∃ cs, v = .agg cs ∧ cs.size = P.cellsOf t ∧ Row.okWide P W .any base t cs := by
    simpa [Value.okWide, ht] using hv
  obtain ⟨fuel, hf⟩ := h
  obtain ⟨xs, m, _, _, hl, hxl, hel⟩ := DataW.trod_array ht hf
  simp only [Value.cells] at hl hel
  obtain ⟨l⟩ := cs
  simp only [hct] at hl hsz
  have hln : l.length = n := hl
  obtain ⟨zs, hzs, hp⟩ := list_of (Value.int k) (fun z => (Lit.int k z).wf = true) l (fun i hi => by
    have hi' : i < n := by omega
    have := hel i hi'
    rw [hce, Nat.mul_one] at this
    have e1 : (l.drop i).take 1 = [l[i]] := by
      rw [List.drop_eq_getElem_cons hi]; rfl
    have e2 : i < xs.length := by omega
    rw [e1, List.getElem?_eq_getElem e2] at this
    obtain ⟨z, ez, _, hw⟩ := DataW.trod_int he this
    exact ⟨z, by rw [List.getElem?_eq_getElem hi]; simpa using ez, hw⟩)
  exact ⟨zs, by rw [hzs], by rw [hzs] at hln; simpa using hln, hp⟩
end
theorem arr2 {zs : List Int} (h : zs.length = 2) : ∃ a b, zs = [a, b] := by
  match zs, h with | [a, b], _ => exact ⟨a, b, rfl⟩
theorem arr3 {zs : List Int} (h : zs.length = 3) : ∃ a b c, zs = [a, b, c] := by
  match zs, h with | [a, b, c], _ => exact ⟨a, b, c, rfl⟩
theorem arr4 {zs : List Int} (h : zs.length = 4) : ∃ a b c d, zs = [a, b, c, d] := by
  match zs, h with | [a, b, c, d], _ => exact ⟨a, b, c, d, rfl⟩
theorem wf_i64 {x : Int} (h : (Lit.int .i64 x).wf = true) : -9223372036854775808 ≤ x ∧ x < 9223372036854775808 := by
  have := bounds_i64 h; omega
theorem wf_u64 {x : Int} (h : (Lit.int .u64 x).wf = true) : ∃ X : BitVec 64, x = (X.toNat : Int) := by
  have := bounds_u64 h
  refine ⟨BitVec.ofNat 64 x.toNat, ?_⟩
  rw [BitVec.toNat_ofNat, Nat.mod_eq_of_lt (by omega)]
  omega

/-! Values without pointers (integers, bools, strings, and structs and arrays of these): which cells a reading of them has. -/
/-- An integer of a kind (.inl k), a bool (.inr false), a string (.inr true). -/
abbrev Kd := IntKind ⊕ Bool
def Fit : Kd → Value → Prop
  | .inl k, c => ∃ z, c = .int k z ∧ (Lit.int k z).wf = true
  | .inr false, c => ∃ z, c = .bool z
  | .inr true, c => ∃ z : ByteArray, c = .string z ∧ z.size ≤ maxLen
def Fits : List Kd → List Value → Prop
  | [], [] => True
  | k :: ks, c :: cs => Fit k c ∧ Fits ks cs
  | _, _ => False
theorem Fits.append : ∀ {ks ls : List Kd} {cs es : List Value}, Fits ks cs → Fits ls es → Fits (ks ++ ls) (cs ++ es)
  | [], _, [], _, _, h => h
  | _ :: _, _, _ :: _, _, ⟨h1, h2⟩, h => ⟨h1, Fits.append h2 h⟩
theorem Fits.len : ∀ {ks : List Kd} {cs : List Value}, Fits ks cs → cs.length = ks.length
  | [], [], _ => rfl
  | _ :: _, _ :: _, ⟨_, h⟩ => by simp [Fits.len h]
def flatFields (P : Program) (g : TypeId → Option (List Kd)) : Nat → List Field → Option (List Kd)
  | _, [] => some []
  | off, f :: fs => do
    let ks ← g f.type
    guard (f.offset = off ∧ ks.length = P.cellsOf f.type)
    let ls ← flatFields P g (off + ks.length) fs
    return ks ++ ls
def flat (P : Program) : Nat → TypeId → Option (List Kd)
  | 0, _ => none
  | n + 1, t => match P.underlying t with
    | some (.int k) => some [.inl k]
    | some .bool => some [.inr false]
    | some .string => some [.inr true]
    | some (.array m e) => do
      let ks ← flat P n e
      guard (ks.length = P.cellsOf e ∧ m * ks.length = P.cellsOf t)
      return (List.replicate m ks).flatten
    | some (.struct fs) => do
      let ks ← flatFields P (flat P n) 0 fs.toList
      guard (ks.length = P.cellsOf t)
      return ks
    | _ => none

section
variable {H : Type} {enc : TypeId × Value → H} {P : Program} {w : World} {base : Nat} {spare : Nat → Bool} {held : Bool}
theorem fits_fields {g : TypeId → Option (List Kd)} {cs : List Value} {n : Nat}
    (hg : ∀ t ks ds y, g t = some ks → DataW.trod enc P w base spare held n t ds = some y → Fits ks ds) :
    ∀ (fs : List Field) (off : Nat) (ks : List Kd), flatFields P g off fs = some ks →
      (∀ f ∈ fs, ∃ y, DataW.trod enc P w base spare held n f.type ((cs.drop f.offset).take (P.cellsOf f.type)) = some y) → Fits ks ((cs.drop off).take ks.length)
  | [], off, ks, h, _ => by
    simp only [flatFields, Option.some.injEq] at h
    subst h
    exact trivial
  | f :: fs, off, ks, h, hy => by
    simp only [flatFields, Option.bind_eq_bind, Option.bind_eq_some_iff, guard] at h
    obtain ⟨k1, e1, u, e2, k2, e3, e4⟩ := h
    split at e2
    · rename_i hc
      obtain ⟨c1, c2⟩ := hc
      simp only [pure, Option.some.injEq] at e4
      subst e4
      obtain ⟨y, hy1⟩ := hy f (by simp)
      rw [c1, ← c2] at hy1
      have h1 := hg _ _ _ _ e1 hy1
      have h2 := fits_fields hg fs (off + k1.length) k2 e3 (fun f' hf' => hy f' (by simp [hf']))
      rw [List.length_append, List.take_add, List.drop_drop]
      exact h1.append h2
    · simp [failure] at e2
theorem fits_rows {cs : List Value} {ks : List Kd} : ∀ (m i : Nat), (∀ j, i ≤ j → j < i + m → Fits ks ((cs.drop (j * ks.length)).take ks.length)) →
    Fits (List.replicate m ks).flatten ((cs.drop (i * ks.length)).take (m * ks.length))
  | 0, i, _ => by simp [Fits]
  | m + 1, i, h => by
    have h1 := h i (Nat.le_refl _) (by omega)
    have h2 := fits_rows m (i + 1) (fun j hj hj' => h j (by omega) (by omega))
    rw [List.replicate_succ, List.flatten_cons, Nat.succ_mul, Nat.add_comm (m * ks.length), List.take_add, List.drop_drop]
    rw [Nat.succ_mul] at h2
    exact h1.append h2
theorem fits_of : ∀ (F : Nat) (t : TypeId) (ks : List Kd) (fuel : Nat) (cs : List Value) (x : DataW H × List MemPlace), flat P F t = some ks → DataW.trod enc P w base spare held fuel t cs = some x → Fits ks cs
  | 0, _, _, _, _, _, h, _ => by simp [flat] at h
  | F + 1, t, ks, fuel, cs, x, h, hx => by
    unfold flat at h
    split at h
    · rename_i k ht
      obtain ⟨z, rfl, _, hw⟩ := DataW.trod_int ht hx
      simp only [Option.some.injEq] at h
      subst h
      exact ⟨⟨z, rfl, hw⟩, trivial⟩
    · rename_i ht
      obtain ⟨z, rfl, _⟩ := DataW.trod_bool ht hx
      simp only [Option.some.injEq] at h
      subst h
      exact ⟨⟨z, rfl⟩, trivial⟩
    · rename_i ht
      obtain ⟨z, rfl, _, hw⟩ := DataW.trod_string ht hx
      simp only [Option.some.injEq] at h
      subst h
      exact ⟨⟨z, rfl, hw⟩, trivial⟩
    · rename_i m e ht
      simp only [Option.bind_eq_bind, Option.bind_eq_some_iff, guard] at h
      obtain ⟨k1, e1, u, e2, e3⟩ := h
      split at e2
      · rename_i hc
        obtain ⟨c1, c2⟩ := hc
        simp only [pure, Option.some.injEq] at e3
        subst e3
        obtain ⟨xs, n, _, _, hl, hxl, hel⟩ := DataW.trod_array ht hx
        have := fits_rows (cs := cs) (ks := k1) m 0 (fun j _ hj => by
          have hj' : j < m := by omega
          have h1 := hel j hj'
          rw [List.getElem?_eq_getElem (by omega)] at h1
          rw [← c1] at h1
          exact fits_of F e k1 n _ _ e1 h1)
        rw [Nat.zero_mul, List.drop_zero, c2, ← hl, List.take_length] at this
        exact this
      · simp [failure] at e2
    · rename_i fs ht
      simp only [Option.bind_eq_bind, Option.bind_eq_some_iff, guard] at h
      obtain ⟨k1, e1, u, e2, e3⟩ := h
      split at e2
      · rename_i hc
        simp only [pure, Option.some.injEq] at e3
        subst e3
        obtain ⟨xs, n, _, _, hl, hxl, hf⟩ := DataW.trod_struct ht hx
        have := fits_fields (cs := cs) (n := n) (fun t' ks' ds y h1 h2 => fits_of F t' ks' n ds y h1 h2) fs.toList 0 k1 e1 (fun f hf' => by
          obtain ⟨j, hj, rfl⟩ := List.getElem_of_mem hf'
          have hj' : j < fs.size := by simpa using hj
          have h1 := hf j fs[j] (by simp [hj'])
          rw [List.getElem?_eq_getElem (by omega)] at h1
          exact ⟨_, by simpa using h1⟩)
        rw [List.drop_zero, hc, ← hl, List.take_length] at this
        exact this
      · simp [failure] at e2
    · simp at h
end
theorem list_choose {α : Type} (n : Nat) (p : Nat → α → Prop) (h : ∀ i, i < n → ∃ x, p i x) : ∃ l : List α, l.length = n ∧ ∀ i (hi : i < l.length), p i l[i] := by
  refine ⟨List.ofFn fun i : Fin n => Classical.choose (h i.1 i.2), by simp, fun i hi => ?_⟩
  rw [List.getElem_ofFn]
  exact Classical.choose_spec (h i (by simpa using hi))
end Go.Proofs.YtkajndonefkegaaDoor.Frame

namespace Go.Proofs.YtkajndonefkegaaDoor
open Go.RowKit
/-- The first cells of a block. -/
def Row (W : World) (b : Nat) (l : List Value) : Prop := ∀ i v, l[i]? = some v → W.cell? ⟨b, i, none⟩ = some v
theorem k_dr {W : World} {b : Nat} {l : List Value} (n : Nat) (h : Row W b l) : Row (W.drewN n) b l := h
theorem k_d1 {W : World} {b : Nat} {l : List Value} (h : Row W b l) : Row W.drew b l := h
theorem k_be {W W' : World} {b : Nat} {l : List Value} (hb : Below W.heap.size W W') (h : Row W b l) : Row W' b l := fun i v hv => c_be hb (h i v hv)
theorem k_al {W : World} {b : Nat} {l : List Value} (o : Obj) (h : Row W b l) : Row (W.alloc o) b l := fun i v hv => c_al o (h i v hv)
theorem k_set {W : World} {b : Nat} {l : List Value} {p : Addr} {u : Value} (hne : p.block ≠ b) (h : Row W b l) : Row (W.setCell p u) b l := fun i v hv => c_set hne (h i v hv)
theorem row_new {W : World} {cs : Array Value} {t : TypeId} {b : Nat} {l : List Value} (hb : b = W.heap.size) (hl : cs.toList = l) : Row (W.alloc (.cells cs t)) b l := fun i v hv => by
  subst hb hl
  simp [go_sem]
  simpa using hv
theorem row_nil {W : World} {b : Nat} : Row W b [] := fun i v hv => by simp at hv
theorem set_at {W : World} {b i j k : Nat} {u v : Value} (ho : Own W b k) (hi : i < k) (hv : if i = j then u = v else W.cell? ⟨b, j, none⟩ = some v) : (W.setCell ⟨b, i, none⟩ u).cell? ⟨b, j, none⟩ = some v := by
  by_cases h : i = j
  · subst h
    rw [if_pos rfl] at hv
    subst hv
    exact cell_same _ _ _ (ho.some i hi)
  · rw [if_neg h] at hv
    exact (World.cell?_setCell_other _ _ _ _ (fun e => h (congrArg Addr.off e))).trans hv
theorem row_store {W : World} {b n k : Nat} {l : List Value} {x y z : Value} (h : Row W b l) (ho : Own W b k) (hn : l.length = n) (hk : n + 3 ≤ k) :
    Row (((W.setCell ⟨b, n, none⟩ x).setCell ⟨b, n + 1, none⟩ y).setCell ⟨b, n + 2, none⟩ z) b (l ++ [x, y, z]) := by
  intro i v hv
  have h2 := hv
  rcases Nat.lt_or_ge i l.length with hi | hi
  · rw [List.getElem?_append_left hi] at hv
    refine set_at (o_set (o_set ho)) (by omega) ?_
    rw [if_neg (by omega)]
    refine set_at (o_set ho) (by omega) ?_
    rw [if_neg (by omega)]
    refine set_at ho (by omega) ?_
    rw [if_neg (by omega)]
    exact h i v hv
  · rw [List.getElem?_append_right hi] at hv
    obtain ⟨j, hj⟩ : ∃ j, i = n + j := ⟨i - n, by omega⟩
    subst hj
    rw [show n + j - l.length = j by omega] at hv
    refine set_at (o_set (o_set ho)) (by omega) ?_
    match j, hv with
    | 0, hv =>
      rw [if_neg (by omega)]
      refine set_at (o_set ho) (by omega) ?_
      rw [if_neg (by omega)]
      refine set_at ho (by omega) ?_
      rw [if_pos (by omega)]
      simpa using hv
    | 1, hv =>
      rw [if_neg (by omega)]
      refine set_at (o_set ho) (by omega) ?_
      rw [if_pos (by omega)]
      simpa using hv
    | 2, hv =>
      rw [if_pos (by omega)]
      simpa using hv
    | j + 3, hv => simp at hv
theorem rounds_abs {P : Program} {c : Code} {Q : Exit → Act → World → Prop} {n : Nat} {a : Act} {w : World} (C : World → Prop) (hC : C w) (h : ∀ w0, C w0 → Code.rounds P c Q n a w0) : Code.rounds P c Q n a w := h w hC
theorem wp_abs {P : Program} {c : Code} {Q : Exit → Act → World → Prop} {a : Act} {w : World} (C : World → Prop) (hC : C w) (h : ∀ w0, C w0 → c.wp P Q a w0) : c.wp P Q a w := h w hC
theorem behind_cell0 {w0 : World} {a : Addr} {v : Value} (h : w0.cell? a = some v) : ∀ y : Behind w0.heap.size w0, y.world.cell? a = some v := fun y => (y.below.cell (World.block_lt_of_cell? w0 a h)).trans h
theorem open_flat {H : Type} {enc : TypeId × Value → H} {P : Program} {W : World} {base : Nat} {t e : TypeId} {n : Nat} {v : Value} {d : DataW H} {ps : List MemPlace} {F : Nat} {ks : List Frame.Kd} (ht : P.underlying t = some (.array n e)) (hk : Frame.flat P F t = some ks)
    (hv : Value.okWide P W .any base t v) (h : DataW.Trod enc P W 0 (fun _ => true) true t v d ps) : ∃ cs : List Value, v = .agg cs.toArray ∧ Frame.Fits ks cs := by
  obtain ⟨cs, rfl, hsz, _⟩ : ∃ cs, v = .agg cs ∧ cs.size = P.cellsOf t ∧ Row.okWide P W .any base t cs := by
    simpa [Value.okWide, ht] using hv
  obtain ⟨fuel, hf⟩ := h
  exact ⟨cs.toList, by simp, Frame.fits_of F t ks fuel _ _ hk (by simpa [Value.cells] using hf)⟩
end Go.Proofs.YtkajndonefkegaaDoor

namespace Go.Proofs.YtkajndonefkegaaDoor
open Go.RowKit

theorem setCells_else (N : Nat) (l : List Value) (i : Nat) (W : World) (a : Addr) (v : Value) (hne : N ≠ a.block) (h : W.cell? a = some v) : (W.setCells N i l).cell? a = some v :=
  (World.cell?_setCells_out N l i W a (fun e _ => absurd e.symm hne)).trans h
theorem setCells_size (N : Nat) : ∀ (l : List Value) (i : Nat) (W : World), (W.setCells N i l).heap.size = W.heap.size
  | [], _, _ => rfl
  | v :: l, i, W => by rw [World.setCells, setCells_size N l]; exact s_set _ _
theorem c_sc {W : World} {b o : Nat} {l : List Value} {a : Addr} {v : Value} (hne : b ≠ a.block) (h : W.cell? a = some v) : (W.setCells b o l).cell? a = some v := setCells_else b l o W a v hne h
theorem bw_sc {w : World} {b : Nat} : ∀ {a : World} {o : Nat} (l : List Value), w.heap.size ≤ b → Below w.heap.size w a → Below w.heap.size w (a.setCells b o l)
  | _, _, [], _, h => h
  | _, o, v :: l, hb, h => by
    rw [World.setCells]
    exact bw_sc l hb (bw_set (p := ⟨b, o, none⟩) hb h v)
theorem o_sc {W : World} {b k b2 o : Nat} {l : List Value} (h : Own W b k) : Own (W.setCells b2 o l) b k := fun i hi => by
  have := World.there_setCells (w := W) (b' := b) (o' := 0) (n := k) (fun j hj => by rw [Nat.zero_add]; exact h j hj) b2 o l i hi
  rw [Nat.zero_add] at this
  exact this
theorem th_own {W : World} {b k : Nat} (h : Own W b k) : W.there b 0 k := fun j hj => by rw [Nat.zero_add]; exact h j hj
theorem row_sc {W : World} {b : Nat} {l : List Value} (h : W.there b 0 l.length) : Row (W.setCells b 0 l) b l := fun i v hv => by
  have := World.rangeAt_setCells_same W b 0 l h i v hv
  rw [Nat.zero_add] at this
  exact this
theorem k_sc {W : World} {b b2 o : Nat} {l m : List Value} (hne : b2 ≠ b) (h : Row W b l) : Row (W.setCells b2 o m) b l := fun i v hv => c_sc hne (h i v hv)

theorem there_else (W : World) (ob : Obj) (b o n : Nat) (h : ltB b W.heap.size = true) : (W.alloc ob).there b o n = W.there b o n := by
  have hb : b < W.heap.size := of_decide_eq_true h
  have e1 := fun j => World.cell?_alloc_lt W ob ⟨b, o + j, none⟩ hb
  have e2 := fun j => World.frozen?_alloc_old W ob ⟨b, o + j, none⟩ (by show b ≠ _; omega)
  unfold World.there
  exact forall_congr fun j => by rw [e1 j, e2 j]
theorem there_be {m : Nat} {w w' : World} (h : Below m w w') : ∀ b o n : Nat, ltB b m = true → w'.there b o n = w.there b o n := fun b o n hb => by
  have e1 := fun j => h.cell (p := ⟨b, o + j, none⟩) (of_decide_eq_true hb)
  have e2 := fun j => h.frozen (p := ⟨b, o + j, none⟩) (of_decide_eq_true hb)
  unfold World.there
  exact forall_congr fun j => by rw [e1 j, e2 j]
theorem there_sc (W : World) (b o b2 o2 n : Nat) (l : List Value) (h : W.there b2 o2 n) : (W.setCells b o l).there b2 o2 n := World.there_setCells h b o l
theorem there_new {W : World} {cs : Array Value} {t : TypeId} {b n : Nat} (hk : n ≤ cs.size) (hb : W.heap.size = b) : (W.alloc (.cells cs t)).there b 0 n := th_own (o_new hb.symm hk)
theorem size_al (W : World) (ob : Obj) : (W.alloc ob).heap.size = W.heap.size + 1 := s_al ob
theorem or_t (b : Bool) : (b || true) = true := Bool.or_true b
theorem t_or (b : Bool) : (true || b) = true := Bool.true_or b
theorem f_or (b : Bool) : (false || b) = b := Bool.false_or b
theorem lt_one (a : Nat) : decide (a < a + 1) = true := decide_eq_true (Nat.lt_succ_self a)

end Go.Proofs.YtkajndonefkegaaDoor

namespace Go.Proofs.YtkajndonefkegaaDoor
open Go.RowKit

theorem below_sc {b : Nat} : ∀ {a : World} {o : Nat} (l : List Value), Below b a (a.setCells b o l)
  | _, _, [] => Below.refl _ _
  | a, o, v :: l => by
    rw [World.setCells]
    exact ((Below.refl b a).setCell (p := ⟨b, o, none⟩) (Nat.le_refl _) v).trans (below_sc l)
theorem wpList_store_row {P : Program} {ops : Array Oper} {rest : List Oper} {op : Oper} {a : Act} {w : World} {Q : Exit → Act → World → Prop} (hgd : op.guard = none) (ty : TypeId) (x y : Operand) (ho : op.op = .store ty x y)
    (b n : Nat) (cells : Array Value) (hx : a.eval x = .pointer (some ⟨b, 0, none⟩)) (hy : a.eval y = .agg cells) (hn : cells.size = n)
    (ht : Own w b n) (hi : (P.info? ty).map (·.size) = some n) (h1 : cells.all (·.oneCell') = true)
    (h : ∀ W', Row W' b cells.toList → Below b w W' → Own W' b n → W'.heap.size = w.heap.size → (∀ a v, a.block ≠ b → w.cell? a = some v → W'.cell? a = some v) → wpList P ops Q rest (a.put op.dst undef) W') : wpList P ops Q (op :: rest) a w := by
  subst hn
  exact wpList_store_mid hgd ty x y ho b 0 cells hx hy (th_own ht) hi h1 (h _ (row_sc (by simpa using th_own ht)) (below_sc _) (o_sc ht) (setCells_size _ _ _ _) (fun a v hne hv => c_sc (fun e => hne e.symm) hv))
end Go.Proofs.YtkajndonefkegaaDoor
