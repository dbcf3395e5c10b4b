/-
  Texts laid one behind the other: Words, Quiet, Grows, Keep, LawFrame, More, DoorFrame, DoorShaped.
  Words of 64 bits (BitVec 64) as the numbers of the model: each operation of Go on uint64, int64 and int, told as the one on words. No Go text here.
  The form of a contract of a function that only computes: it answers a value, and turns nothing but the count of what was drawn. No program text here.
  Contracts of functions that make memory of their own: what was there stays; and the facts that a walk needs behind such a call, as rules. No program text here.
  What a cell holds stays: behind a draw, behind new memory, behind a store into another block, behind a call that keeps what was there; rules for a walk, one step each. No program text here.
  The frame of every law of this seat: if the call answers true and turns nothing that was there, for all arguments that can be read, then the law's row holds. No program text here.
  More rules for a walk, to be imported by the texts of new layers: rows of cells, worlds made letters, arrays of structs by value. No program text here.
  The frame of every law whose row lists package variables: what the listed variables hold, cell by cell; and from the walk to the row. No program text here.
  The frame of a law whose row lists package variables and whose road reads a variable of the library's own that holds some number: the world's shape besides. No program text here.
-/
import Derived.Laws.BitsAllLaws
import Derived.Laws.BitsLemmas
import Derived.WalkKit
import Derived.Test.YtlommbeokbicjaaGreatDoorRows
import Derived.WalkSpells
import Derived.WalkLawsBesides
import Derived.Deep.QuietTactic
import Derived.BigQuiet
import Derived.ProofKit
import Derived.OpenShut
import Derived.LaidMore
import Derived.MakeChecks
import Derived.Stop.Joined
import Derived.SevenTiedAt
import Derived.HandedShaped
namespace Go.Proofs.YtlommbeokbicjaaGreatDoor.Words
open Go

/-! words as numbers -/
theorem toNat_lt (x : BitVec 64) : x.toNat < 18446744073709551616 := x.isLt
theorem ofInt_toNat (x : BitVec 64) : BitVec.ofInt 64 (x.toNat : Int) = x := by
  rw [BitVec.ofInt_natCast]; simp
theorem ofInt_toInt (x : BitVec 64) : BitVec.ofInt 64 x.toInt = x := BitVec.ofInt_toInt ..
theorem wrap_u64_bv (n : Int) : IntKind.u64.wrap n = ((BitVec.ofInt 64 n).toNat : Int) := by
  rw [IntKind.wrap_u64, BitVec.toNat_ofInt]
  simp
  omega
theorem wrap_i64_bv (n : Int) : IntKind.i64.wrap n = (BitVec.ofInt 64 n).toInt := by
  rw [BitVec.toInt_ofInt]
  simp only [IntKind.wrap_i64, Int.bmod]
  simp
  split <;> omega
theorem and_bv (x y : BitVec 64) : bits .and .u64 (x.toNat : Int) (y.toNat : Int) = ((x &&& y).toNat : Int) := by
  rw [u64_and_nat _ _ (toNat_lt x) (toNat_lt y), BitVec.toNat_and]
theorem or_bv (x y : BitVec 64) : bits .or .u64 (x.toNat : Int) (y.toNat : Int) = ((x ||| y).toNat : Int) := by
  rw [u64_or_nat _ _ (toNat_lt x) (toNat_lt y), BitVec.toNat_or]
theorem xor_bv (x y : BitVec 64) : bits .xor .u64 (x.toNat : Int) (y.toNat : Int) = ((x ^^^ y).toNat : Int) := by
  rw [u64_xor_nat _ _ (toNat_lt x) (toNat_lt y), BitVec.toNat_xor]
theorem andNot_bv (x y : BitVec 64) : bits .andNot .u64 (x.toNat : Int) (y.toNat : Int) = ((x &&& ~~~y).toNat : Int) := by
  rw [u64_andNot_nat _ _ (toNat_lt x) (toNat_lt y), BitVec.toNat_and, BitVec.toNat_not]
theorem shr_bv (x : BitVec 64) (n : Nat) : ((x.toNat : Int) / 2 ^ n) = ((x >>> n).toNat : Int) := by
  rw [BitVec.toNat_ushiftRight, Nat.shiftRight_eq_div_pow]
  simp
theorem shl_bv (x : BitVec 64) (n : Nat) : IntKind.u64.wrap ((x.toNat : Int) * 2 ^ n) = ((x <<< n).toNat : Int) := by
  rw [IntKind.wrap_u64, BitVec.toNat_shiftLeft, Nat.shiftLeft_eq]
  simp
theorem wrap64_bv (x : BitVec 64) : RowKit.wrap64 (x.toNat : Int) = x.toInt := by
  have := toNat_lt x
  rw [BitVec.toInt_eq_toNat_cond]
  simp only [RowKit.wrap64]
  split <;> omega
theorem sar_bv (x : BitVec 64) (n : Nat) : x.toInt / 2 ^ n = (x.sshiftRight n).toInt := by
  rw [BitVec.toInt_sshiftRight, Int.shiftRight_eq_div_pow]; simp
theorem wrap_toInt (x : BitVec 64) : IntKind.u64.wrap x.toInt = (x.toNat : Int) := by rw [wrap_u64_bv, ofInt_toInt]
theorem ext64 {x y : BitVec 64} (h : ∀ i, i < 64 → x.getLsbD i = y.getLsbD i) : x = y := BitVec.eq_of_getLsbD_eq h
theorem bv_eq_iff (x y : BitVec 64) : ((x.toNat : Int) == (y.toNat : Int)) = (x == y) := by
  rw [Bool.eq_iff_iff]; simp; norm_cast; exact BitVec.toNat_inj
theorem low63 (a : Int) : 0 ≤ bits .and .i64 a 63 ∧ bits .and .i64 a 63 ≤ 63 := by
  have h : bits .and .i64 a 63 = IntKind.i64.wrap ((BitVec.ofInt 64 a &&& BitVec.ofInt 64 63).toNat : Int) := rfl
  have hl : (BitVec.ofInt 64 a &&& BitVec.ofInt 64 63).toNat ≤ 63 := by
    rw [BitVec.toNat_and]
    exact Nat.le_trans Nat.and_le_right (by decide)
  rw [h, IntKind.wrap_i64]
  omega

end Go.Proofs.YtlommbeokbicjaaGreatDoor.Words

namespace Go.Proofs.YtlommbeokbicjaaGreatDoor
open Go.RowKit

theorem hide {p : Prop} (h : p) : Hid p := h
/-- The call answers v, and turns nothing but the count of what was drawn. -/
def Quiet (v : Value) (w : World) (e : Ending) (w' : World) : Prop := e = .returned v ∧ ∃ n, w' = w.drewN n
theorem Quiet.mk0 {v : Value} {w : World} : Quiet v w (.returned v) w := ⟨rfl, 0, rfl⟩
theorem Quiet.mkN {v : Value} {w : World} {n : Nat} : Quiet v w (.returned v) (w.drewN n) := ⟨rfl, n, rfl⟩
theorem Quiet.region {f : FuncId} {args : Array Value} {v : Value} (c : ∀ W : World, Calls Tryz.prog f args W (Quiet v W)) {w : World} {n : Nat} :
    Calls Tryz.prog f args (w.drewN n) fun e w'' => e = .returned v ∧ ∃ m, w'' = w.drewN m :=
  (c _).mono fun _ _ ⟨he, m, hm⟩ => ⟨he, n + m, by rw [hm, World.drewN_drewN]⟩
theorem Quiet.regionAdd {f : FuncId} {args : Array Value} {v : Value} (c : ∀ W : World, Calls Tryz.prog f args W (Quiet v W)) {w : World} {a n : Nat} :
    Calls Tryz.prog f args (w.drewN (a + n)) fun e w'' => e = .returned v ∧ ∃ m, w'' = w.drewN (a + m) :=
  (c _).mono fun _ _ ⟨he, m, hm⟩ => ⟨he, n + m, by rw [hm, World.drewN_drewN, Nat.add_assoc]⟩
theorem ret_int {k : IntKind} {a b : Int} (h : a = b) : Ending.returned (.int k a) = .returned (.int k b) := by rw [h]
theorem ret_bool {a b : Bool} (h : a = b) : Ending.returned (.bool a) = .returned (.bool b) := by rw [h]

/-- A world in which what lay below n lies as it lay in w. -/
structure Behind (n : Nat) (w : World) where
  world : World
  below : Below n w world
theorem Behind.any (w : World) : Nonempty (Behind w.heap.size w) := ⟨⟨w, Below.refl _ _⟩⟩
/-- A region that draws its order, and calls what makes memory of its own (but hands back one value in every world), walked once in the order of the text. -/
theorem wp_region_behind {P : Program} {id : Nat} {Q : Exit → Act → World → Prop} {a : Act} {w : World} {l : List Oper} (w0 : World) (hm : P.follows .mixedOrders = true) (hB : Region.lexB .any l.toArray = true) (hC : Below w0.heap.size w0 w)
    (h : wpQuiet P l.toArray (fun w' => ∃ y : Behind w0.heap.size w0, w' = y.world) (fun a' => ∀ w', (∃ y : Behind w0.heap.size w0, w' = y.world) → Q .normal a' w') l a) : (Code.region id l.toArray true).wp P Q a w :=
  wp_region_quiet (C := fun w' => ∃ y : Behind w0.heap.size w0, w' = y.world) hm hB ⟨⟨w.drew, hC.drew⟩, rfl⟩ h
/-- A call's contract at a world of the class. -/
theorem Behind.call {P : Program} {f : FuncId} {args : Array Value} {v : Value} {w0 : World} (c : ∀ W : World, Calls P f args W fun e W' => e = .returned v ∧ Below W.heap.size W W') (y : Behind w0.heap.size w0) :
    Calls P f args y.world fun e w'' => e = .returned v ∧ ∃ z : Behind w0.heap.size w0, w'' = z.world :=
  (c _).mono fun _ _ ⟨he, hb⟩ => ⟨he, ⟨_, y.below.trans (hb.mono y.below.size)⟩, rfl⟩

end Go.Proofs.YtlommbeokbicjaaGreatDoor

namespace Go.Proofs.YtlommbeokbicjaaGreatDoor
open Go.RowKit

/-- The call answers v; what was there stays; it may make memory. -/
def Makes (v : Value) (w : World) (e : Ending) (w' : World) : Prop := e = .returned v ∧ Below w.heap.size w w'

theorem below_grew {n : Nat} {w w' : World} (h : Below n w w') : ∃ m, w'.heap.size = w.heap.size + m := ⟨w'.heap.size - w.heap.size, by have := h.size; omega⟩
/-- 'a < b', in a form that a walk reckons addend by addend. -/
def ltB (a b : Nat) : Bool := decide (a < b)
theorem ltB_add : ∀ a b c : Nat, ltB a (b + c) = (ltB a b || decide (a < b + c)) := fun a b c => by
  unfold ltB
  by_cases h : a < b
  · have h2 : a < b + c := by omega
    simp [h, h2]
  · simp [h]
theorem ltB_self : ∀ a : Nat, ltB a a = false := fun a => by unfold ltB; simp
theorem below_reads {n : Nat} {w w' : World} (h : Below n w w') : ∀ b i, ltB b n = true → w'.cell? ⟨b, i, none⟩ = w.cell? ⟨b, i, none⟩ := fun _ _ hb => h.cell (of_decide_eq_true hb)
theorem below_holds {n : Nat} {w w' : World} (h : Below n w w') : ∀ b i, ltB b n = true → w'.frozen? ⟨b, i, none⟩ = w.frozen? ⟨b, i, none⟩ := fun _ _ hb => h.frozen (of_decide_eq_true hb)
theorem alloc_reads : ∀ (w : World) (o : Obj) (b i : Nat), ltB b w.heap.size = true → (w.alloc o).cell? ⟨b, i, none⟩ = w.cell? ⟨b, i, none⟩ := fun w o _ _ hb => World.cell?_alloc_lt w o _ (of_decide_eq_true hb)
theorem alloc_holds : ∀ (w : World) (o : Obj) (b i : Nat), ltB b w.heap.size = true → (w.alloc o).frozen? ⟨b, i, none⟩ = w.frozen? ⟨b, i, none⟩ := fun w o _ _ hb => World.frozen?_alloc_old w o _ (by have := of_decide_eq_true hb; simp; omega)
/-- A cell that is there reads what was stored. -/
theorem cell_same : ∀ (w : World) (a : Addr) (v : Value), (w.cell? a).isSome = true → (w.setCell a v).cell? a = some v := fun w a v h => by
  obtain ⟨u, hu⟩ := Option.isSome_iff_exists.1 h
  exact World.cell?_setCell_same _ _ _ hu
theorem quiet_makes {v : Value} {w : World} {e : Ending} {w' : World} (h : Quiet v w e w') : Makes v w e w' := by
  obtain ⟨he, n, rfl⟩ := h
  exact ⟨he, below_drewN (Below.refl _ _) n⟩
theorem below_alloc {n : Nat} {a w : World} (h : Below n a w) (hn : n ≤ a.heap.size) (o : Obj) : Below n a (w.alloc o) := h.alloc (Nat.le_trans hn h.size) o
theorem below_behind {n : Nat} {w a b : World} (h : Below n w a) (hn : n ≤ w.heap.size) (k : Below a.heap.size a b) : Below n w b := h.trans (k.mono (Nat.le_trans hn h.size))
/-! What was there when the call began lies as it lay: step by step, no side goal but what a walk pays. -/
theorem bw_alloc {w a : World} (h : Below w.heap.size w a) (o : Obj) : Below w.heap.size w (a.alloc o) := below_alloc h (Nat.le_refl _) o
theorem bw_set {w a : World} {p : Addr} (hp : w.heap.size ≤ p.block) (h : Below w.heap.size w a) (v : Value) : Below w.heap.size w (a.setCell p v) := h.setCell hp v
theorem bw_behind {w a b : World} (k : Below a.heap.size a b) (h : Below w.heap.size w a) : Below w.heap.size w b := below_behind h (Nat.le_refl _) k
end Go.Proofs.YtlommbeokbicjaaGreatDoor

namespace Go.Proofs.YtlommbeokbicjaaGreatDoor
open Go.RowKit
theorem c_dr {W : World} {a : Addr} {v : Value} (k : Nat) (h : W.cell? a = some v) : (W.drewN k).cell? a = some v := h
theorem c_d1 {W : World} {a : Addr} {v : Value} (h : W.cell? a = some v) : W.drew.cell? a = some v := h
theorem c_al {W : World} {a : Addr} {v : Value} (o : Obj) (h : W.cell? a = some v) : (W.alloc o).cell? a = some v := (World.cell?_alloc_lt W o a (World.block_lt_of_cell? W a h)).trans h
theorem c_set {W : World} {a p : Addr} {v u : Value} (hne : p.block ≠ a.block) (h : W.cell? a = some v) : (W.setCell p u).cell? a = some v := by
  exact (World.cell?_setCell_other _ _ _ _ (fun e => hne (congrArg Addr.block e))).trans h
theorem c_be {W W' : World} {a : Addr} {v : Value} (hb : Below W.heap.size W W') (h : W.cell? a = some v) : W'.cell? a = some v := (hb.cell (World.block_lt_of_cell? W a h)).trans h
/-- The first k cells of a block are there, and may be written. -/
def Own (W : World) (b k : Nat) : Prop := ∀ i, i < k → (W.cell? ⟨b, i, none⟩).isSome = true ∧ W.frozen? ⟨b, i, none⟩ = false
theorem o_new {W : World} {cs : Array Value} {t : TypeId} {b k : Nat} (hb : b = W.heap.size) (hk : k ≤ cs.size) : Own (W.alloc (.cells cs t)) b k := fun i hi => by
  subst hb
  have : i < cs.size := Nat.lt_of_lt_of_le hi hk
  constructor
  · simp [go_sem, this]
  · simp [go_sem]
theorem o_dr {W : World} {b k : Nat} (n : Nat) (h : Own W b k) : Own (W.drewN n) b k := h
theorem o_d1 {W : World} {b k : Nat} (h : Own W b k) : Own W.drew b k := h
theorem o_be {W W' : World} {b k : Nat} (hb : Below W.heap.size W W') (h : Own W b k) : Own W' b k := fun i hi => by
  obtain ⟨v, hv⟩ := Option.isSome_iff_exists.1 (h i hi).1
  have hlt : b < W.heap.size := World.block_lt_of_cell? W _ hv
  exact ⟨by rw [hb.cell (p := ⟨b, i, none⟩) hlt]; exact (h i hi).1, by rw [hb.frozen (p := ⟨b, i, none⟩) hlt]; exact (h i hi).2⟩
theorem o_al {W : World} {b k : Nat} (o : Obj) (h : Own W b k) : Own (W.alloc o) b k := o_be (below_alloc (Below.refl _ _) (Nat.le_refl _) o) h
theorem o_set {W : World} {b k : Nat} {p : Addr} {u : Value} (h : Own W b k) : Own (W.setCell p u) b k := fun i hi => by
  obtain ⟨v, hv⟩ := Option.isSome_iff_exists.1 (h i hi).1
  obtain ⟨v', hv'⟩ := RowKit.cell?_setCell_some (p := p) (x := u) hv
  exact ⟨by rw [hv']; rfl, by rw [World.frozen?_setCell]; exact (h i hi).2⟩
theorem Own.some {W : World} {b k : Nat} (h : Own W b k) (i : Nat) (hi : i < k) : (W.cell? ⟨b, i, none⟩).isSome = true := (h i hi).1
theorem Own.val {W : World} {b k : Nat} (h : Own W b k) (i : Nat) (hi : i < k) : ∃ v, W.cell? ⟨b, i, none⟩ = .some v := Option.isSome_iff_exists.1 (h i hi).1
theorem Own.free {W : World} {b k : Nat} (h : Own W b k) (i : Nat) (hi : i < k) : W.frozen? ⟨b, i, none⟩ = false := (h i hi).2
theorem s_dr {W : World} (n : Nat) : (W.drewN n).heap.size = W.heap.size := rfl
theorem s_d1 {W : World} : W.drew.heap.size = W.heap.size := rfl
theorem s_al {W : World} (o : Obj) : (W.alloc o).heap.size = W.heap.size + 1 := by simp
theorem s_set {W : World} (p : Addr) (v : Value) : (W.setCell p v).heap.size = W.heap.size := by simp
end Go.Proofs.YtlommbeokbicjaaGreatDoor

namespace Go.Proofs.YtlommbeokbicjaaGreatDoor.Frame
open Go.ChangeShapes Go.WideShapes Go.ChangeAt Go.RowKit

theorem own : ownKnob Tryz.prog.godebug = none := by kernel_rfl
theorem laidOut : laidOutB Tryz.prog = true := by kernel_rfl

section
variable {H : Type} {enc : TypeId × Value → H} {P : Program}
theorem below_all (hl : laidOutB P = true) {W W' : World} (hb : Below W.heap.size W W') :
    ∀ (ts : List TypeId) (vs : List Value) (ds : List (DataW H)) (ps : List MemPlace), ts.all (fun t => P.readableRec t && decide (t < P.types.size)) = true →
      DataW.TrodAll enc P W 0 (fun _ => true) true ts vs ds ps → (∀ x ∈ ps, x.block < W.heap.size) → DataW.TrodAll enc P W' 0 (fun b => decide (b < W.heap.size)) true ts vs ds ps
  | [], [], [], ps, _, h, _ => h
  | t :: ts, v :: vs, d :: ds, ps, hr, ⟨p, q, h1, h2, e⟩, hlt => by
    simp only [List.all_cons, Bool.and_eq_true, decide_eq_true_eq] at hr
    exact ⟨p, q, Below.trod hl hr.1.1 hr.1.2 h1 hb (fun x hx => hlt x (by rw [e]; simp [hx])),
      below_all hl hb ts vs ds q hr.2 h2 (fun x hx => hlt x (by rw [e]; simp [hx])), e⟩
theorem trodAll_length {w : World} {base : Nat} {spare : Nat → Bool} {held : Bool} :
    ∀ (ts : List TypeId) (vs : List Value) (ds : List (DataW H)) (ps : List MemPlace), DataW.TrodAll enc P w base spare held ts vs ds ps → ds.length = ts.length
  | [], [], [], _, _ => rfl
  | _ :: ts, _ :: vs, _ :: ds, _, ⟨_, q, _, h2, _⟩ => by simp [trodAll_length ts vs ds q h2]
end

/-- A law's call, of all arguments that can be read: true, and nothing that was there turns. -/
def Walks (f : FuncId) (fn : Func) : Prop :=
  ∀ (H : Type) (enc : TypeId × Value → H) (W : World) (base : Nat) (args : Array Value) (ds : List (DataW H)) (ps : List MemPlace),
    (∀ (j : Nat) t v, fn.params[j]? = some t → args[j]? = some v → Value.okWide Tryz.prog W .any base t v) →
    DataW.TrodAll enc Tryz.prog W 0 (fun _ => true) true fn.params.toList args.toList ds ps →
    Calls Tryz.prog f args W fun e W' => e = .returned (.bool true) ∧ Below W.heap.size W W'

set_option maxRecDepth 100000 in
theorem lift (os : Os) (started : os.Started) (H : Type) (enc : TypeId × Value → H) (f : FuncId) (fn : Func) (s : ChangeSpec) (tb : TypeId)
    (noInit : Tryz.checked.prog.inits.idxOf? f = none) (hfn : Tryz.prog.funcs[f]? = some fn) (hb : Tryz.prog.underlying tb = some .bool) (hres : fn.resultTypes = #[tb]) (hvars : s.vars = [])
    (hread : fn.params.toList.all (fun t => Tryz.prog.readableRec t && decide (t < Tryz.prog.types.size)) = true)
    (hspec : ∀ ds : List (DataW H), ds.length = fn.params.toList.length → (s.fn H ds).results = [.lit (.bool true)] ∧ (s.fn H ds).args = ds ∧ (s.fn H ds).vars = [])
    (witness : ∃ (w : World) (tape : Tape) (i : Input), w.os = os ∧ (w.forCall tape i).Shaped Tryz.checked.prog ∧ i.vars = [] ∧ Input.okWide Tryz.checked.prog (w.forCall tape i) .any w.heap.size f i ∧
      s.pre6 enc Tryz.checked.prog fn [] false (w.forCall tape i).memory i.args ∧ Assume.holds {} Tryz.checked.prog (lone (Frame.enter Tryz.checked.prog f i.args .normal) [] (w.forCall tape i)))
    (walk : Walks f fn) :
    ReturnsInHanded {} Tryz.checked os f .any (s.pre6 enc Tryz.prog fn [] false) (s.post enc Tryz.prog fn false true false false) := by
  refine returnsInHanded_of_change (C := Tryz.checked) own started noInit hfn witness ?_
  intro W base args ds gs before hval hW _ _
  have hW' := hW
  obtain ⟨p, q, hA, hV, rfl, hfz, hnd⟩ := hW
  have hlen := trodAll_length _ _ _ _ hA
  obtain ⟨rfl, rfl⟩ : gs = [] ∧ q = [] := by
    rw [hvars] at hV
    cases gs with
    | nil => exact ⟨rfl, hV⟩
    | cons g gs => exact absurd hV (by simp [DataW.TrodVars])
  obtain ⟨e1, e2, e3⟩ := hspec ds hlen
  refine (walk H enc W base args ds p hval hA).mono fun e W' ⟨he, bel⟩ => ?_
  subst he
  have hlt : ∀ x ∈ p, x.block < W.heap.size := fun x hx => hW'.lt x (by simp [hx])
  refine ⟨_, rfl, ds, [], p ++ [], [], p, [], hW', ?_, ?_, ?_, bel.frame _, fun h => by cases h⟩
  · rw [List.append_nil, e1, hres]
    exact trodAll_mk1 (shut_bool hb true)
  · rw [List.append_nil, e2]
    exact below_all laidOut bel _ _ _ _ hread hA hlt
  · rw [List.append_nil, e3, hvars]
    exact rfl

/-- One call behind the other. -/
theorem below_then {w a b : World} (h : Below w.heap.size w a) (k : Below a.heap.size a b) : Below w.heap.size w b := h.trans (k.mono h.size)

/-! arguments, opened -/
theorem list_of {α β : Type} (f : β → α) (p : β → Prop) : ∀ l : List α, (∀ i, i < l.length → ∃ z, l[i]? = some (f z) ∧ p z) → ∃ zs : List β, l = zs.map f ∧ ∀ z ∈ zs, p z
  | [], _ => ⟨[], rfl, by simp⟩
  | x :: l, h => by
    obtain ⟨z, hz, hp⟩ := h 0 (by simp)
    obtain ⟨zs, rfl, hzs⟩ := list_of f p l (fun i hi => by simpa using h (i + 1) (by simpa using hi))
    refine ⟨z :: zs, by simp at hz; simp [hz], ?_⟩
    intro y hy
    rcases List.mem_cons.1 hy with rfl | hy
    · exact hp
    · exact hzs y hy
section
variable {H : Type} {enc : TypeId × Value → H} {P : Program} {W : World} {base : Nat} {t e : TypeId} {k : IntKind} {n : Nat} {v : Value} {d : DataW H} {ps : List MemPlace}
/-- An array of integers by value. -/
theorem open_arr (ht : P.underlying t = some (.array n e)) (he : P.underlying e = some (.int k)) (hce : P.cellsOf e = 1) (hct : P.cellsOf t = n)
    (hv : Value.okWide P W .any base t v) (h : DataW.Trod enc P W 0 (fun _ => true) true t v d ps) :
    ∃ zs : List Int, v = .agg (zs.map (Value.int k)).toArray ∧ zs.length = n ∧ ∀ z ∈ zs, (Lit.int k z).wf = true := by
  obtain ⟨cs, rfl, hsz, _⟩ : ∃ cs, v = .agg cs ∧ cs.size = P.cellsOf t ∧ Row.okWide P W .any base t cs := by
    simpa [Value.okWide, ht] using hv
  obtain ⟨fuel, hf⟩ := h
  obtain ⟨xs, m, _, _, hl, hxl, hel⟩ := DataW.trod_array ht hf
  simp only [Value.cells] at hl hel
  obtain ⟨l⟩ := cs
  simp only [hct] at hl hsz
  have hln : l.length = n := hl
  obtain ⟨zs, hzs, hp⟩ := list_of (Value.int k) (fun z => (Lit.int k z).wf = true) l (fun i hi => by
    have hi' : i < n := by omega
    have := hel i hi'
    rw [hce, Nat.mul_one] at this
    have e1 : (l.drop i).take 1 = [l[i]] := by
      rw [List.drop_eq_getElem_cons hi]; rfl
    have e2 : i < xs.length := by omega
    rw [e1, List.getElem?_eq_getElem e2] at this
    obtain ⟨z, ez, _, hw⟩ := DataW.trod_int he this
    exact ⟨z, by rw [List.getElem?_eq_getElem hi]; simpa using ez, hw⟩)
  exact ⟨zs, by rw [hzs], by rw [hzs] at hln; simpa using hln, hp⟩
end
theorem arr2 {zs : List Int} (h : zs.length = 2) : ∃ a b, zs = [a, b] := by
  match zs, h with | [a, b], _ => exact ⟨a, b, rfl⟩
theorem arr3 {zs : List Int} (h : zs.length = 3) : ∃ a b c, zs = [a, b, c] := by
  match zs, h with | [a, b, c], _ => exact ⟨a, b, c, rfl⟩
theorem arr4 {zs : List Int} (h : zs.length = 4) : ∃ a b c d, zs = [a, b, c, d] := by
  match zs, h with | [a, b, c, d], _ => exact ⟨a, b, c, d, rfl⟩
theorem wf_i64 {x : Int} (h : (Lit.int .i64 x).wf = true) : -9223372036854775808 ≤ x ∧ x < 9223372036854775808 := by
  have := bounds_i64 h; omega
theorem wf_u64 {x : Int} (h : (Lit.int .u64 x).wf = true) : ∃ X : BitVec 64, x = (X.toNat : Int) := by
  have := bounds_u64 h
  refine ⟨BitVec.ofNat 64 x.toNat, ?_⟩
  rw [BitVec.toNat_ofNat, Nat.mod_eq_of_lt (by omega)]
  omega

/-! Values without pointers (integers, bools, strings, and structs and arrays of these): which cells a reading of them has. -/
/-- An integer of a kind (.inl k), a bool (.inr false), a string (.inr true). -/
abbrev Kd := IntKind ⊕ Bool
def Fit : Kd → Value → Prop
  | .inl k, c => ∃ z, c = .int k z ∧ (Lit.int k z).wf = true
  | .inr false, c => ∃ z, c = .bool z
  | .inr true, c => ∃ z : ByteArray, c = .string z ∧ z.size ≤ maxLen
def Fits : List Kd → List Value → Prop
  | [], [] => True
  | k :: ks, c :: cs => Fit k c ∧ Fits ks cs
  | _, _ => False
theorem Fits.append : ∀ {ks ls : List Kd} {cs es : List Value}, Fits ks cs → Fits ls es → Fits (ks ++ ls) (cs ++ es)
  | [], _, [], _, _, h => h
  | _ :: _, _, _ :: _, _, ⟨h1, h2⟩, h => ⟨h1, Fits.append h2 h⟩
theorem Fits.len : ∀ {ks : List Kd} {cs : List Value}, Fits ks cs → cs.length = ks.length
  | [], [], _ => rfl
  | _ :: _, _ :: _, ⟨_, h⟩ => by simp [Fits.len h]
def flatFields (P : Program) (g : TypeId → Option (List Kd)) : Nat → List Field → Option (List Kd)
  | _, [] => some []
  | off, f :: fs => do
    let ks ← g f.type
    guard (f.offset = off ∧ ks.length = P.cellsOf f.type)
    let ls ← flatFields P g (off + ks.length) fs
    return ks ++ ls
def flat (P : Program) : Nat → TypeId → Option (List Kd)
  | 0, _ => none
  | n + 1, t => match P.underlying t with
    | some (.int k) => some [.inl k]
    | some .bool => some [.inr false]
    | some .string => some [.inr true]
    | some (.array m e) => do
      let ks ← flat P n e
      guard (ks.length = P.cellsOf e ∧ m * ks.length = P.cellsOf t)
      return (List.replicate m ks).flatten
    | some (.struct fs) => do
      let ks ← flatFields P (flat P n) 0 fs.toList
      guard (ks.length = P.cellsOf t)
      return ks
    | _ => none

section
variable {H : Type} {enc : TypeId × Value → H} {P : Program} {w : World} {base : Nat} {spare : Nat → Bool} {held : Bool}
theorem fits_fields {g : TypeId → Option (List Kd)} {cs : List Value} {n : Nat}
    (hg : ∀ t ks ds y, g t = some ks → DataW.trod enc P w base spare held n t ds = some y → Fits ks ds) :
    ∀ (fs : List Field) (off : Nat) (ks : List Kd), flatFields P g off fs = some ks →
      (∀ f ∈ fs, ∃ y, DataW.trod enc P w base spare held n f.type ((cs.drop f.offset).take (P.cellsOf f.type)) = some y) → Fits ks ((cs.drop off).take ks.length)
  | [], off, ks, h, _ => by
    simp only [flatFields, Option.some.injEq] at h
    subst h
    exact trivial
  | f :: fs, off, ks, h, hy => by
    simp only [flatFields, Option.bind_eq_bind, Option.bind_eq_some_iff, guard] at h
    obtain ⟨k1, e1, u, e2, k2, e3, e4⟩ := h
    split at e2
    · rename_i hc
      obtain ⟨c1, c2⟩ := hc
      simp only [pure, Option.some.injEq] at e4
      subst e4
      obtain ⟨y, hy1⟩ := hy f (by simp)
      rw [c1, ← c2] at hy1
      have h1 := hg _ _ _ _ e1 hy1
      have h2 := fits_fields hg fs (off + k1.length) k2 e3 (fun f' hf' => hy f' (by simp [hf']))
      rw [List.length_append, List.take_add, List.drop_drop]
      exact h1.append h2
    · simp [failure] at e2
theorem fits_rows {cs : List Value} {ks : List Kd} : ∀ (m i : Nat), (∀ j, i ≤ j → j < i + m → Fits ks ((cs.drop (j * ks.length)).take ks.length)) →
    Fits (List.replicate m ks).flatten ((cs.drop (i * ks.length)).take (m * ks.length))
  | 0, i, _ => by simp [Fits]
  | m + 1, i, h => by
    have h1 := h i (Nat.le_refl _) (by omega)
    have h2 := fits_rows m (i + 1) (fun j hj hj' => h j (by omega) (by omega))
    rw [List.replicate_succ, List.flatten_cons, Nat.succ_mul, Nat.add_comm (m * ks.length), List.take_add, List.drop_drop]
    rw [Nat.succ_mul] at h2
    exact h1.append h2
theorem fits_of : ∀ (F : Nat) (t : TypeId) (ks : List Kd) (fuel : Nat) (cs : List Value) (x : DataW H × List MemPlace), flat P F t = some ks → DataW.trod enc P w base spare held fuel t cs = some x → Fits ks cs
  | 0, _, _, _, _, _, h, _ => by simp [flat] at h
  | F + 1, t, ks, fuel, cs, x, h, hx => by
    unfold flat at h
    split at h
    · rename_i k ht
      obtain ⟨z, rfl, _, hw⟩ := DataW.trod_int ht hx
      simp only [Option.some.injEq] at h
      subst h
      exact ⟨⟨z, rfl, hw⟩, trivial⟩
    · rename_i ht
      obtain ⟨z, rfl, _⟩ := DataW.trod_bool ht hx
      simp only [Option.some.injEq] at h
      subst h
      exact ⟨⟨z, rfl⟩, trivial⟩
    · rename_i ht
      obtain ⟨z, rfl, _, hw⟩ := DataW.trod_string ht hx
      simp only [Option.some.injEq] at h
      subst h
      exact ⟨⟨z, rfl, hw⟩, trivial⟩
    · rename_i m e ht
      simp only [Option.bind_eq_bind, Option.bind_eq_some_iff, guard] at h
      obtain ⟨k1, e1, u, e2, e3⟩ := h
      split at e2
      · rename_i hc
        obtain ⟨c1, c2⟩ := hc
        simp only [pure, Option.some.injEq] at e3
        subst e3
        obtain ⟨xs, n, _, _, hl, hxl, hel⟩ := DataW.trod_array ht hx
        have := fits_rows (cs := cs) (ks := k1) m 0 (fun j _ hj => by
          have hj' : j < m := by omega
          have h1 := hel j hj'
          rw [List.getElem?_eq_getElem (by omega)] at h1
          rw [← c1] at h1
          exact fits_of F e k1 n _ _ e1 h1)
        rw [Nat.zero_mul, List.drop_zero, c2, ← hl, List.take_length] at this
        exact this
      · simp [failure] at e2
    · rename_i fs ht
      simp only [Option.bind_eq_bind, Option.bind_eq_some_iff, guard] at h
      obtain ⟨k1, e1, u, e2, e3⟩ := h
      split at e2
      · rename_i hc
        simp only [pure, Option.some.injEq] at e3
        subst e3
        obtain ⟨xs, n, _, _, hl, hxl, hf⟩ := DataW.trod_struct ht hx
        have := fits_fields (cs := cs) (n := n) (fun t' ks' ds y h1 h2 => fits_of F t' ks' n ds y h1 h2) fs.toList 0 k1 e1 (fun f hf' => by
          obtain ⟨j, hj, rfl⟩ := List.getElem_of_mem hf'
          have hj' : j < fs.size := by simpa using hj
          have h1 := hf j fs[j] (by simp [hj'])
          rw [List.getElem?_eq_getElem (by omega)] at h1
          exact ⟨_, by simpa using h1⟩)
        rw [List.drop_zero, hc, ← hl, List.take_length] at this
        exact this
      · simp [failure] at e2
    · simp at h
end
theorem list_choose {α : Type} (n : Nat) (p : Nat → α → Prop) (h : ∀ i, i < n → ∃ x, p i x) : ∃ l : List α, l.length = n ∧ ∀ i (hi : i < l.length), p i l[i] := by
  refine ⟨List.ofFn fun i : Fin n => Classical.choose (h i.1 i.2), by simp, fun i hi => ?_⟩
  rw [List.getElem_ofFn]
  exact Classical.choose_spec (h i (by simpa using hi))
end Go.Proofs.YtlommbeokbicjaaGreatDoor.Frame

namespace Go.Proofs.YtlommbeokbicjaaGreatDoor
open Go.RowKit
/-- The first cells of a block. -/
def Row (W : World) (b : Nat) (l : List Value) : Prop := ∀ i v, l[i]? = some v → W.cell? ⟨b, i, none⟩ = some v
theorem k_dr {W : World} {b : Nat} {l : List Value} (n : Nat) (h : Row W b l) : Row (W.drewN n) b l := h
theorem k_d1 {W : World} {b : Nat} {l : List Value} (h : Row W b l) : Row W.drew b l := h
theorem k_be {W W' : World} {b : Nat} {l : List Value} (hb : Below W.heap.size W W') (h : Row W b l) : Row W' b l := fun i v hv => c_be hb (h i v hv)
theorem k_al {W : World} {b : Nat} {l : List Value} (o : Obj) (h : Row W b l) : Row (W.alloc o) b l := fun i v hv => c_al o (h i v hv)
theorem k_set {W : World} {b : Nat} {l : List Value} {p : Addr} {u : Value} (hne : p.block ≠ b) (h : Row W b l) : Row (W.setCell p u) b l := fun i v hv => c_set hne (h i v hv)
theorem row_new {W : World} {cs : Array Value} {t : TypeId} {b : Nat} {l : List Value} (hb : b = W.heap.size) (hl : cs.toList = l) : Row (W.alloc (.cells cs t)) b l := fun i v hv => by
  subst hb hl
  simp [go_sem]
  simpa using hv
theorem row_nil {W : World} {b : Nat} : Row W b [] := fun i v hv => by simp at hv
theorem set_at {W : World} {b i j k : Nat} {u v : Value} (ho : Own W b k) (hi : i < k) (hv : if i = j then u = v else W.cell? ⟨b, j, none⟩ = some v) : (W.setCell ⟨b, i, none⟩ u).cell? ⟨b, j, none⟩ = some v := by
  by_cases h : i = j
  · subst h
    rw [if_pos rfl] at hv
    subst hv
    exact cell_same _ _ _ (ho.some i hi)
  · rw [if_neg h] at hv
    exact (World.cell?_setCell_other _ _ _ _ (fun e => h (congrArg Addr.off e))).trans hv
theorem row_store {W : World} {b n k : Nat} {l : List Value} {x y z : Value} (h : Row W b l) (ho : Own W b k) (hn : l.length = n) (hk : n + 3 ≤ k) :
    Row (((W.setCell ⟨b, n, none⟩ x).setCell ⟨b, n + 1, none⟩ y).setCell ⟨b, n + 2, none⟩ z) b (l ++ [x, y, z]) := by
  intro i v hv
  have h2 := hv
  rcases Nat.lt_or_ge i l.length with hi | hi
  · rw [List.getElem?_append_left hi] at hv
    refine set_at (o_set (o_set ho)) (by omega) ?_
    rw [if_neg (by omega)]
    refine set_at (o_set ho) (by omega) ?_
    rw [if_neg (by omega)]
    refine set_at ho (by omega) ?_
    rw [if_neg (by omega)]
    exact h i v hv
  · rw [List.getElem?_append_right hi] at hv
    obtain ⟨j, hj⟩ : ∃ j, i = n + j := ⟨i - n, by omega⟩
    subst hj
    rw [show n + j - l.length = j by omega] at hv
    refine set_at (o_set (o_set ho)) (by omega) ?_
    match j, hv with
    | 0, hv =>
      rw [if_neg (by omega)]
      refine set_at (o_set ho) (by omega) ?_
      rw [if_neg (by omega)]
      refine set_at ho (by omega) ?_
      rw [if_pos (by omega)]
      simpa using hv
    | 1, hv =>
      rw [if_neg (by omega)]
      refine set_at (o_set ho) (by omega) ?_
      rw [if_pos (by omega)]
      simpa using hv
    | 2, hv =>
      rw [if_pos (by omega)]
      simpa using hv
    | j + 3, hv => simp at hv
theorem rounds_abs {P : Program} {c : Code} {Q : Exit → Act → World → Prop} {n : Nat} {a : Act} {w : World} (C : World → Prop) (hC : C w) (h : ∀ w0, C w0 → Code.rounds P c Q n a w0) : Code.rounds P c Q n a w := h w hC
theorem wp_abs {P : Program} {c : Code} {Q : Exit → Act → World → Prop} {a : Act} {w : World} (C : World → Prop) (hC : C w) (h : ∀ w0, C w0 → c.wp P Q a w0) : c.wp P Q a w := h w hC
theorem behind_cell0 {w0 : World} {a : Addr} {v : Value} (h : w0.cell? a = some v) : ∀ y : Behind w0.heap.size w0, y.world.cell? a = some v := fun y => (y.below.cell (World.block_lt_of_cell? w0 a h)).trans h
theorem open_flat {H : Type} {enc : TypeId × Value → H} {P : Program} {W : World} {base : Nat} {t e : TypeId} {n : Nat} {v : Value} {d : DataW H} {ps : List MemPlace} {F : Nat} {ks : List Frame.Kd} (ht : P.underlying t = some (.array n e)) (hk : Frame.flat P F t = some ks)
    (hv : Value.okWide P W .any base t v) (h : DataW.Trod enc P W 0 (fun _ => true) true t v d ps) : ∃ cs : List Value, v = .agg cs.toArray ∧ Frame.Fits ks cs := by
  obtain ⟨cs, rfl, hsz, _⟩ : ∃ cs, v = .agg cs ∧ cs.size = P.cellsOf t ∧ Row.okWide P W .any base t cs := by
    simpa [Value.okWide, ht] using hv
  obtain ⟨fuel, hf⟩ := h
  exact ⟨cs.toList, by simp, Frame.fits_of F t ks fuel _ _ hk (by simpa [Value.cells] using hf)⟩
end Go.Proofs.YtlommbeokbicjaaGreatDoor

namespace Go.Proofs.YtlommbeokbicjaaGreatDoor.Frame
open Go.ChangeShapes Go.WideShapes Go.ChangeAt Go.RowKit

/-! A datum without pointers, flat: its literals, and the cells that say them. -/
def lits {H : Type} : Nat → DataW H → List Lit
  | 0, _ => []
  | _ + 1, .lit l => [l]
  | n + 1, .agg ps => ps.flatMap (lits n)
  | _, _ => []
def Say : Lit → Value → Prop
  | .int k z, c => c = .int k z
  | .bool b, c => c = .bool b
  | .string l, c => ∃ s : ByteArray, c = .string s ∧ s.data.toList = l
  | _, _ => False
def Says : List Lit → List Value → Prop
  | [], [] => True
  | l :: ls, c :: cs => Say l c ∧ Says ls cs
  | _, _ => False
theorem Says.append : ∀ {ks ls : List Lit} {cs es : List Value}, Says ks cs → Says ls es → Says (ks ++ ls) (cs ++ es)
  | [], _, [], _, _, h => h
  | _ :: _, _, _ :: _, _, ⟨h1, h2⟩, h => ⟨h1, Says.append h2 h⟩
section
variable {H : Type} {enc : TypeId × Value → H} {P : Program} {w : World} {base : Nat} {spare : Nat → Bool} {held : Bool}
theorem says_fields {g : TypeId → Option (List Kd)} {L : DataW H → List Lit} {cs : List Value} {n : Nat}
    (hg : ∀ t ks ds y, g t = some ks → DataW.trod enc P w base spare held n t ds = some y → Says (L y.1) ds) :
    ∀ (fs : List Field) (xs : List (DataW H × List MemPlace)) (off : Nat) (ks : List Kd), flatFields P g off fs = some ks → xs.length = fs.length →
      (∀ (i : Nat) (f : Field), fs[i]? = some f → DataW.trod enc P w base spare held n f.type ((cs.drop f.offset).take (P.cellsOf f.type)) = xs[i]?) → Says ((xs.map (·.1)).flatMap L) ((cs.drop off).take ks.length)
  | [], xs, off, ks, h, hl, _ => by
    simp only [flatFields, Option.some.injEq] at h
    subst h
    obtain rfl : xs = [] := List.length_eq_zero_iff.1 hl
    exact trivial
  | f :: fs, [], off, ks, h, hl, _ => by simp at hl
  | f :: fs, x :: xs, off, ks, h, hl, hy => by
    simp only [flatFields, Option.bind_eq_bind, Option.bind_eq_some_iff, guard] at h
    obtain ⟨k1, e1, u, e2, k2, e3, e4⟩ := h
    split at e2
    · rename_i hc
      obtain ⟨c1, c2⟩ := hc
      simp only [pure, Option.some.injEq] at e4
      subst e4
      have hy1 := hy 0 f rfl
      rw [c1, ← c2] at hy1
      have h1 := hg _ _ _ _ e1 (by simpa using hy1)
      have h2 := says_fields hg fs xs (off + k1.length) k2 e3 (by simpa using hl) (fun i f' hf' => by simpa using hy (i + 1) f' (by simpa using hf'))
      rw [List.length_append, List.take_add, List.drop_drop, List.map_cons, List.flatMap_cons]
      exact h1.append h2
    · simp [failure] at e2
theorem says_rows {L : DataW H → List Lit} {c : Nat} : ∀ (xs : List (DataW H × List MemPlace)) (cs : List Value), (∀ (i : Nat) (h : i < xs.length), Says (L xs[i].1) ((cs.drop (i * c)).take c)) →
    Says ((xs.map (·.1)).flatMap L) (cs.take (xs.length * c))
  | [], cs, _ => by simp [Says]
  | x :: xs, cs, h => by
    have h1 := h 0 (by simp)
    have h2 := says_rows xs (cs.drop c) (fun i hi => by
      have := h (i + 1) (by simpa using hi)
      rw [List.drop_drop, show c + i * c = (i + 1) * c by rw [Nat.succ_mul, Nat.add_comm]]
      exact this)
    rw [List.length_cons, Nat.succ_mul, Nat.add_comm (xs.length * c), List.take_add, List.map_cons, List.flatMap_cons]
    exact Says.append (by simpa using h1) h2
theorem says_of : ∀ (F : Nat) (t : TypeId) (ks : List Kd) (fuel : Nat) (cs : List Value) (x : DataW H × List MemPlace), flat P F t = some ks → DataW.trod enc P w base spare held fuel t cs = some x → Says (lits F x.1) cs
  | 0, _, _, _, _, _, h, _ => by simp [flat] at h
  | F + 1, t, ks, fuel, cs, x, h, hx => by
    unfold flat at h
    split at h
    · rename_i k ht
      obtain ⟨z, rfl, rfl, _⟩ := DataW.trod_int ht hx
      exact ⟨rfl, trivial⟩
    · rename_i ht
      obtain ⟨z, rfl, rfl⟩ := DataW.trod_bool ht hx
      exact ⟨rfl, trivial⟩
    · rename_i ht
      obtain ⟨z, rfl, rfl, _⟩ := DataW.trod_string ht hx
      exact ⟨⟨z, rfl, rfl⟩, trivial⟩
    · rename_i m e ht
      simp only [Option.bind_eq_bind, Option.bind_eq_some_iff, guard] at h
      obtain ⟨k1, e1, u, e2, e3⟩ := h
      split at e2
      · rename_i hc
        obtain ⟨c1, c2⟩ := hc
        obtain ⟨xs, n, _, rfl, hl, hxl, hel⟩ := DataW.trod_array ht hx
        have := says_rows (L := lits F) (c := P.cellsOf e) xs cs (fun i hi => by
          have h1 := hel i (by omega)
          rw [List.getElem?_eq_getElem hi] at h1
          exact says_of F e k1 n _ _ e1 h1)
        rw [hxl, ← c1, c2, ← hl, List.take_length] at this
        exact this
      · simp [failure] at e2
    · rename_i fs ht
      simp only [Option.bind_eq_bind, Option.bind_eq_some_iff, guard] at h
      obtain ⟨k1, e1, u, e2, e3⟩ := h
      split at e2
      · rename_i hc
        obtain ⟨xs, n, _, rfl, hl, hxl, hf⟩ := DataW.trod_struct ht hx
        have := says_fields (L := lits F) (cs := cs) (n := n) (fun t' ks' ds y h1 h2 => says_of F t' ks' n ds y h1 h2) fs.toList xs 0 k1 e1 (by simpa using hxl) (fun i f hf' => hf i f (by simpa using hf'))
        rw [List.drop_zero, hc, ← hl, List.take_length] at this
        exact this
      · simp [failure] at e2
    · simp at h
end

section
variable {H : Type} {enc : TypeId × Value → H} {P : Program} {W : World} {base : Nat} {t : TypeId} {v : Value} {d : DataW H} {ps : List MemPlace}
/-- A struct of integers, bools, strings (and structs and arrays of these) by value. -/
theorem open_struct {F : Nat} {ks : List Kd} {fs : Array Field} (ht : P.underlying t = some (.struct fs)) (hk : flat P F t = some ks)
    (hv : Value.okWide P W .any base t v) (h : DataW.Trod enc P W 0 (fun _ => true) true t v d ps) : ∃ cs : List Value, v = .agg cs.toArray ∧ Fits ks cs := by
  obtain ⟨cs, rfl, hsz, _⟩ : ∃ cs, v = .agg cs ∧ cs.size = P.cellsOf t ∧ Row.okWide P W .any base t cs := by
    simpa [Value.okWide, ht] using hv
  obtain ⟨fuel, hf⟩ := h
  exact ⟨cs.toList, by simp, fits_of F t ks fuel _ _ hk (by simpa [Value.cells] using hf)⟩
end

/-- A law's call, where the listed variables hold what the row says: true, and nothing that was there turns. -/
def WalksLaid (L : List (String × DataW Unit)) (f : FuncId) (fn : Func) : Prop :=
  ∀ (H : Type) (enc : TypeId × Value → H) (W : World) (base : Nat) (args : Array Value) (ds : List (DataW H)) (ps : List MemPlace), laidMetH Tryz.prog L W →
    (∀ (j : Nat) t v, fn.params[j]? = some t → args[j]? = some v → Value.okWide Tryz.prog W .any base t v) →
    DataW.TrodAll enc Tryz.prog W 0 (fun _ => true) true fn.params.toList args.toList ds ps →
    Calls Tryz.prog f args W fun e W' => e = .returned (.bool true) ∧ Below W.heap.size W W'

set_option maxRecDepth 100000 in
theorem liftLaid (L : List (String × DataW Unit)) (os : Os) (started : os.Started) (H : Type) (enc : TypeId × Value → H) (f : FuncId) (fn : Func) (s : ChangeSpec) (tb : TypeId)
    (noInit : Tryz.checked.prog.inits.idxOf? f = none) (hfn : Tryz.prog.funcs[f]? = some fn) (hb : Tryz.prog.underlying tb = some .bool) (hres : fn.resultTypes = #[tb]) (hvars : s.vars = [])
    (hread : fn.params.toList.all (fun t => Tryz.prog.readableRec t && decide (t < Tryz.prog.types.size)) = true)
    (hspec : ∀ ds : List (DataW H), ds.length = fn.params.toList.length → (s.fn H ds).results = [.lit (.bool true)] ∧ (s.fn H ds).args = ds ∧ (s.fn H ds).vars = [])
    (witness : ∃ (w : World) (tape : Tape) (i : Input), w.os = os ∧ (w.forCall tape i).Shaped Tryz.checked.prog ∧ i.vars = [] ∧ Input.okWide Tryz.checked.prog (w.forCall tape i) .any w.heap.size f i ∧
      ((s.pre enc Tryz.checked.prog fn [] false (w.forCall tape i).memory i.args ∧ laidMetH Tryz.prog L (w.forCall tape i).memory) ∧ sizedMet enc Tryz.checked.prog fn (OpenSpec.ofChange s) false (w.forCall tape i).memory i.args) ∧ Assume.holds {} Tryz.checked.prog (lone (Frame.enter Tryz.checked.prog f i.args .normal) [] (w.forCall tape i)))
    (walk : WalksLaid L f fn) :
    ReturnsInHanded {} Tryz.checked os f .any (fun w args => (s.pre enc Tryz.prog fn [] false w args ∧ laidMetH Tryz.prog L w) ∧ sizedMet enc Tryz.prog fn (OpenSpec.ofChange s) false w args) (s.post enc Tryz.prog fn false true false false) := by
  refine returnsInHanded_of_change_and (C := Tryz.checked) (X := fun w _ => laidMetH Tryz.prog L w) (fun _ _ _ hh h => h.of_heap hh) own started noInit hfn witness ?_
  intro W base args ds gs before hval hW _ _ hL _
  have hW' := hW
  obtain ⟨p, q, hA, hV, rfl, hfz, hnd⟩ := hW
  have hlen := trodAll_length _ _ _ _ hA
  obtain ⟨rfl, rfl⟩ : gs = [] ∧ q = [] := by
    rw [hvars] at hV
    cases gs with
    | nil => exact ⟨rfl, hV⟩
    | cons g gs => exact absurd hV (by simp [DataW.TrodVars])
  obtain ⟨e1, e2, e3⟩ := hspec ds hlen
  refine (walk H enc W base args ds p hL hval hA).mono fun e W' ⟨he, bel⟩ => ?_
  subst he
  have hlt : ∀ x ∈ p, x.block < W.heap.size := fun x hx => hW'.lt x (by simp [hx])
  refine ⟨_, rfl, ds, [], p ++ [], [], p, [], hW', ?_, ?_, ?_, bel.frame _, fun h => by cases h⟩
  · rw [List.append_nil, e1, hres]
    exact trodAll_mk1 (shut_bool hb true)
  · rw [List.append_nil, e2]
    exact below_all laidOut bel _ _ _ _ hread hA hlt
  · rw [List.append_nil, e3, hvars]
    exact rfl
end Go.Proofs.YtlommbeokbicjaaGreatDoor.Frame

namespace Go.Proofs.YtlommbeokbicjaaGreatDoor.Frame
open Go.ChangeShapes Go.WideShapes Go.ChangeAt Go.RowKit

/-- A law's call, where the listed variables hold what the row says, in a world of the program's shape: true, and nothing that was there turns. -/
def WalksShaped (L : List (String × DataW Unit)) (f : FuncId) (fn : Func) : Prop :=
  ∀ (H : Type) (enc : TypeId × Value → H) (W : World) (base : Nat) (args : Array Value) (ds : List (DataW H)) (ps : List MemPlace), laidMetH Tryz.prog L W → W.ShapedOpen Tryz.prog →
    (∀ (j : Nat) t v, fn.params[j]? = some t → args[j]? = some v → Value.okWide Tryz.prog W .any base t v) →
    DataW.TrodAll enc Tryz.prog W 0 (fun _ => true) true fn.params.toList args.toList ds ps →
    Calls Tryz.prog f args W fun e W' => e = .returned (.bool true) ∧ Below W.heap.size W W'

set_option maxRecDepth 100000 in
theorem liftShaped (L : List (String × DataW Unit)) (os : Os) (started : os.Started) (H : Type) (enc : TypeId × Value → H) (f : FuncId) (fn : Func) (s : ChangeSpec) (tb : TypeId)
    (noInit : Tryz.checked.prog.inits.idxOf? f = none) (hfn : Tryz.prog.funcs[f]? = some fn) (hb : Tryz.prog.underlying tb = some .bool) (hres : fn.resultTypes = #[tb]) (hvars : s.vars = [])
    (hread : fn.params.toList.all (fun t => Tryz.prog.readableRec t && decide (t < Tryz.prog.types.size)) = true)
    (hspec : ∀ ds : List (DataW H), ds.length = fn.params.toList.length → (s.fn H ds).results = [.lit (.bool true)] ∧ (s.fn H ds).args = ds ∧ (s.fn H ds).vars = [])
    (witness : ∃ (w : World) (tape : Tape) (i : Input), w.os = os ∧ (w.forCall tape i).Shaped Tryz.checked.prog ∧ i.vars = [] ∧ Input.okWide Tryz.checked.prog (w.forCall tape i) .any w.heap.size f i ∧
      ((s.pre enc Tryz.checked.prog fn [] false (w.forCall tape i).memory i.args ∧ laidMetH Tryz.prog L (w.forCall tape i).memory) ∧ sizedMet enc Tryz.checked.prog fn (OpenSpec.ofChange s) false (w.forCall tape i).memory i.args) ∧ Assume.holds {} Tryz.checked.prog (lone (Frame.enter Tryz.checked.prog f i.args .normal) [] (w.forCall tape i)))
    (walk : WalksShaped L f fn) :
    ReturnsInHanded {} Tryz.checked os f .any (fun w args => (s.pre enc Tryz.prog fn [] false w args ∧ laidMetH Tryz.prog L w) ∧ sizedMet enc Tryz.prog fn (OpenSpec.ofChange s) false w args) (s.post enc Tryz.prog fn false true false false) := by
  refine returnsInHanded_of_calls (C := Tryz.checked) own started noInit witness ?_
  intro w tape i _ hsh _ hok hpre hholds
  obtain ⟨_, _, _, fn', hfn', _, _, _, _, hval⟩ := hok
  have e : fn' = fn := Option.some.inj (hfn'.symm.trans hfn)
  subst e
  obtain ⟨⟨⟨ds, gs, before, hw, hc⟩, hx⟩, hz⟩ := hpre
  have hW := DataW.Whole.of_heap (w' := w.forCall tape i) (by rfl) hw
  have hL := hx.of_heap (w' := w.forCall tape i) (by rfl)
  have hW' := hW
  obtain ⟨p, q, hA, hV, rfl, hfz, hnd⟩ := hW
  have hlen := trodAll_length _ _ _ _ hA
  obtain ⟨rfl, rfl⟩ : gs = [] ∧ q = [] := by
    rw [hvars] at hV
    cases gs with
    | nil => exact ⟨rfl, hV⟩
    | cons g gs => exact absurd hV (by simp [DataW.TrodVars])
  obtain ⟨e1, e2, e3⟩ := hspec ds hlen
  refine (walk H enc (w.forCall tape i) w.heap.size i.args ds p hL hsh hval hA).mono fun e W' ⟨he, bel⟩ => ?_
  subst he
  have hlt : ∀ x ∈ p, x.block < (w.forCall tape i).heap.size := fun x hx => hW'.lt x (by simp [hx])
  refine ChangeSpec.post_blind (v := .bool true) ?_
  refine ⟨ds, [], p ++ [], [], p, [], hW', ?_, ?_, ?_, bel.frame _, fun h => by cases h⟩
  · rw [List.append_nil, e1, hres]
    exact trodAll_mk1 (shut_bool hb true)
  · rw [List.append_nil, e2]
    exact below_all laidOut bel _ _ _ _ hread hA hlt
  · rw [List.append_nil, e3, hvars]
    exact rfl
end Go.Proofs.YtlommbeokbicjaaGreatDoor.Frame
