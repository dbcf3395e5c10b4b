/-
  What the laws over the table want: a call behind a world that is a letter; the small play.
-/
import Derived.Test.YtholamocbkfcmaaDoorAlu4
import Derived.Test.YtholamocbkfcmaaDoorAluOne
import Derived.Test.YtholamocbkfcmaaDoorMore
namespace Go.Proofs.YtholamocbkfcmaaDoor
open Go.RowKit Words FieldMath
theorem behind_one1 {f : FuncId} {args : Array Value} {v : Value} {w0 : World} (c : ∀ W, Calls Tryd.prog f args W (Makes v W)) (y : Behind w0.heap.size w0) :
    Calls Tryd.prog f args y.world fun e w'' => e = .returned v ∧ ∃ z : Behind w0.heap.size w0, w'' = z.world :=
  (c _).mono fun _ _ ⟨he, hb⟩ => ⟨he, ⟨_, y.below.trans (hb.mono y.below.size)⟩, rfl⟩
theorem behind_tab1 {f : FuncId} {args : Array Value} {v : Value} {w0 : World} (c : ∀ W, Tab W → Calls Tryd.prog f args W (Makes v W)) (hT : Tab w0) (y : Behind w0.heap.size w0) :
    Calls Tryd.prog f args y.world fun e w'' => e = .returned v ∧ ∃ z : Behind w0.heap.size w0, w'' = z.world :=
  (c _ (hT.behind y.below)).mono fun _ _ ⟨he, hb⟩ => ⟨he, ⟨_, y.below.trans (hb.mono y.below.size)⟩, rfl⟩
end Go.Proofs.YtholamocbkfcmaaDoor
