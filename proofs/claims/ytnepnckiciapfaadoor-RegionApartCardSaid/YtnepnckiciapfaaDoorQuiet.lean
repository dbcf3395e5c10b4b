/-
  The form of a contract of a function that only computes: it answers a value, and turns nothing but the count of what was drawn. No program text here.
-/
import Derived.Test.YtnepnckiciapfaaDoorRows
import Derived.WalkKit
import Derived.WalkSpells
import Derived.WalkLawsBesides
import Derived.Deep.QuietTactic
import Derived.BigQuiet
namespace Go.Proofs.YtnepnckiciapfaaDoor
open Go.RowKit

theorem hide {p : Prop} (h : p) : Hid p := h
/-- The call answers v, and turns nothing but the count of what was drawn. -/
def Quiet (v : Value) (w : World) (e : Ending) (w' : World) : Prop := e = .returned v ∧ ∃ n, w' = w.drewN n
theorem Quiet.mk0 {v : Value} {w : World} : Quiet v w (.returned v) w := ⟨rfl, 0, rfl⟩
theorem Quiet.mkN {v : Value} {w : World} {n : Nat} : Quiet v w (.returned v) (w.drewN n) := ⟨rfl, n, rfl⟩
theorem Quiet.region {f : FuncId} {args : Array Value} {v : Value} (c : ∀ W : World, Calls Tryd.prog f args W (Quiet v W)) {w : World} {n : Nat} :
    Calls Tryd.prog f args (w.drewN n) fun e w'' => e = .returned v ∧ ∃ m, w'' = w.drewN m :=
  (c _).mono fun _ _ ⟨he, m, hm⟩ => ⟨he, n + m, by rw [hm, World.drewN_drewN]⟩
theorem Quiet.regionAdd {f : FuncId} {args : Array Value} {v : Value} (c : ∀ W : World, Calls Tryd.prog f args W (Quiet v W)) {w : World} {a n : Nat} :
    Calls Tryd.prog f args (w.drewN (a + n)) fun e w'' => e = .returned v ∧ ∃ m, w'' = w.drewN (a + m) :=
  (c _).mono fun _ _ ⟨he, m, hm⟩ => ⟨he, n + m, by rw [hm, World.drewN_drewN, Nat.add_assoc]⟩
theorem ret_int {k : IntKind} {a b : Int} (h : a = b) : Ending.returned (.int k a) = .returned (.int k b) := by rw [h]
theorem ret_bool {a b : Bool} (h : a = b) : Ending.returned (.bool a) = .returned (.bool b) := by rw [h]

/-- A world in which what lay below n lies as it lay in w. -/
structure Behind (n : Nat) (w : World) where
  world : World
  below : Below n w world
theorem Behind.any (w : World) : Nonempty (Behind w.heap.size w) := ⟨⟨w, Below.refl _ _⟩⟩
/-- A region that draws its order, and calls what makes memory of its own (but hands back one value in every world), walked once in the order of the text. -/
theorem wp_region_behind {P : Program} {id : Nat} {Q : Exit → Act → World → Prop} {a : Act} {w : World} {l : List Oper} (w0 : World) (hm : P.follows .mixedOrders = true) (hB : Region.lexB .any l.toArray = true) (hC : Below w0.heap.size w0 w)
    (h : wpQuiet P l.toArray (fun w' => ∃ y : Behind w0.heap.size w0, w' = y.world) (fun a' => ∀ w', (∃ y : Behind w0.heap.size w0, w' = y.world) → Q .normal a' w') l a) : (Code.region id l.toArray true).wp P Q a w :=
  wp_region_quiet (C := fun w' => ∃ y : Behind w0.heap.size w0, w' = y.world) hm hB ⟨⟨w.drew, hC.drew⟩, rfl⟩ h
/-- A call's contract at a world of the class. -/
theorem Behind.call {P : Program} {f : FuncId} {args : Array Value} {v : Value} {w0 : World} (c : ∀ W : World, Calls P f args W fun e W' => e = .returned v ∧ Below W.heap.size W W') (y : Behind w0.heap.size w0) :
    Calls P f args y.world fun e w'' => e = .returned v ∧ ∃ z : Behind w0.heap.size w0, w'' = z.world :=
  (c _).mono fun _ _ ⟨he, hb⟩ => ⟨he, ⟨_, y.below.trans (hb.mono y.below.size)⟩, rfl⟩

end Go.Proofs.YtnepnckiciapfaaDoor
