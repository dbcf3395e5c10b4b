/-
  Rules for a walk over registers: a context loaded and stored whole, one of its capabilities loaded and stored.
-/
import Derived.Test.YtnbfjaocakghkaaDoorRegMath
import Derived.Test.YtnbfjaocakghkaaDoorRegIn
import Derived.Deep.RegionHeld3
import Derived.DeepKeys
namespace Go.Proofs.YtnbfjaocakghkaaDoor
open Go.RowKit

/-- The two types of contexts. -/
def IsCtxT (t : TypeId) : Prop := t = 27 ∨ t = 32
def IsCapT (t : TypeId) : Prop := t = 24 ∨ t = 29
theorem ctx_p : IsCtxT 27 := .inl rfl
theorem ctx_d : IsCtxT 32 := .inr rfl
theorem cap_p : IsCapT 24 := .inl rfl
theorem cap_d : IsCapT 29 := .inr rfl
theorem ctx_info {t : TypeId} (h : IsCtxT t) : (Tryd.prog.info? t).map (·.size) = some 99 := by rcases h with rfl | rfl <;> kernel_rfl
theorem cap_info {t : TypeId} (h : IsCapT t) : (Tryd.prog.info? t).map (·.size) = some 3 := by rcases h with rfl | rfl <;> kernel_rfl
theorem ctx_row {t : TypeId} (h : IsCtxT t) : ∃ d, Tryd.prog.underlying t = some d ∧ d.isRow = true := by
  rcases h with rfl | rfl
  · exact ⟨_, Tryd.underlying27, rfl⟩
  · exact ⟨_, Tryd.underlying32, rfl⟩
theorem cap_row {t : TypeId} (h : IsCapT t) : ∃ d, Tryd.prog.underlying t = some d ∧ d.isRow = true := by
  rcases h with rfl | rfl
  · exact ⟨_, Tryd.underlying24, rfl⟩
  · exact ⟨_, Tryd.underlying29, rfl⟩
theorem own_bn {n b k : Nat} {W W' : World} (hb : Below n W W') (hn : b < n) (h : Own W b k) : Own W' b k := fun i hi => by
  rw [hb.cell (p := ⟨b, i, none⟩) hn, hb.frozen (p := ⟨b, i, none⟩) hn]; exact h i hi
/-- A store at which a walk is to stand. -/
theorem holdS {P : Program} {ops : Array Oper} {rest : List Oper} {op : Oper} {a : Act} {w : World} {Q : Exit → Act → World → Prop} {ty : TypeId} {x y : Operand} (_ho : op.op = .store ty x y) (h : Hid (wpList P ops Q (op :: rest) a w)) : wpList P ops Q (op :: rest) a w := h.out
theorem wpList_abs {P : Program} {ops : Array Oper} {l : List Oper} {Q : Exit → Act → World → Prop} {a : Act} {w : World} (C : World → Prop) (hC : C w) (h : ∀ w0, C w0 → wpList P ops Q l a w0) : wpList P ops Q l a w := h w hC
theorem wpListIn_abs {F : Fence} {n : Nat} {P : Program} {ops : Array Oper} {l : List Oper} {Q : Exit → Act → World → Prop} {a : Act} {w : World} (C : World → Prop) (hC : C w) (h : ∀ w0, C w0 → wpListIn F n P ops Q l a w0) : wpListIn F n P ops Q l a w := h w hC
theorem wpIn_abs {F : Fence} {n : Nat} {P : Program} {c : Code} {Q : Exit → Act → World → Prop} {a : Act} {w : World} (C : World → Prop) (hC : C w) (h : ∀ w0, C w0 → c.wpIn F n P Q a w0) : c.wpIn F n P Q a w := h w hC
theorem wpList_load_ctx {ops : Array Oper} {rest : List Oper} {op : Oper} {a : Act} {w : World} {Q : Exit → Act → World → Prop} (hgd : op.guard = none) {ty : TypeId} (hT : IsCtxT ty) {x : Operand} (ho : op.op = .load ty x)
    {b : Nat} (hx : a.eval x = .pointer (some ⟨b, 0, none⟩)) {R : Nat → C3} (hc : Ctx w b R) (h : wpList Tryd.prog ops Q rest (a.put op.dst (.agg (ctxA R))) w) : wpList Tryd.prog ops Q (op :: rest) a w := by
  obtain ⟨d, hu, hd⟩ := ctx_row hT
  exact wpList_load_mid hgd ty x ho b 0 hx (ctxL R) d hc.all hu hd (by rw [ctxL_length]; exact ctx_info hT) h
theorem wpList_store_ctx {ops : Array Oper} {rest : List Oper} {op : Oper} {a : Act} {w : World} {Q : Exit → Act → World → Prop} (hgd : op.guard = none) {ty : TypeId} (hT : IsCtxT ty) {x y : Operand} (ho : op.op = .store ty x y)
    {b : Nat} {R : Nat → C3} (hx : a.eval x = .pointer (some ⟨b, 0, none⟩)) (hy : a.eval y = .agg (ctxA R)) (hc : Own w b 99) (h : wpList Tryd.prog ops Q rest (a.put op.dst undef) (w.setCells b 0 (ctxL R))) : wpList Tryd.prog ops Q (op :: rest) a w :=
  wpList_store_mid hgd ty x y ho b 0 (ctxA R) hx hy (by rw [ctxA_size]; exact th_own hc) (by rw [ctxA_size]; exact ctx_info hT) (ctxA_one R) h
theorem wpList_store_ctxE {ops : Array Oper} {rest : List Oper} {op : Oper} {a : Act} {w : World} {Q : Exit → Act → World → Prop} (hgd : op.guard = none) {ty : TypeId} (hT : IsCtxT ty) {x y : Operand} (ho : op.op = .store ty x y)
    {b : Nat} {R : Nat → C3} {cs : Array Value} (hx : a.eval x = .pointer (some ⟨b, 0, none⟩)) (hy : a.eval y = .agg cs) (hcs : ctxA R = cs) (hc : Own w b 99) (h : wpList Tryd.prog ops Q rest (a.put op.dst undef) (w.setCells b 0 (ctxL R))) : wpList Tryd.prog ops Q (op :: rest) a w := by
  subst hcs
  exact wpList_store_ctx hgd hT ho hx hy hc h
theorem wpList_load_cap {ops : Array Oper} {rest : List Oper} {op : Oper} {a : Act} {w : World} {Q : Exit → Act → World → Prop} (hgd : op.guard = none) {ty : TypeId} (hT : IsCapT ty) {x : Operand} (ho : op.op = .load ty x)
    {b o : Nat} (hx : a.eval x = .pointer (some ⟨b, o, none⟩)) {R : Nat → C3} (n : Nat) (hn : n < 33) (hon : o = 3 * n) (hc : Ctx w b R) (h : wpList Tryd.prog ops Q rest (a.put op.dst (capV (R n))) w) : wpList Tryd.prog ops Q (op :: rest) a w := by
  obtain ⟨d, hu, hd⟩ := cap_row hT
  subst hon
  exact wpList_load_mid hgd ty x ho b (3 * n) hx (capL (R n)) d (hc.at_ n hn) hu hd (cap_info hT) h
theorem wpList_store_cap {ops : Array Oper} {rest : List Oper} {op : Oper} {a : Act} {w : World} {Q : Exit → Act → World → Prop} (hgd : op.guard = none) {ty : TypeId} (hT : IsCapT ty) {x y : Operand} (ho : op.op = .store ty x y)
    {b o : Nat} {R : Nat → C3} (c : C3) (n : Nat) (hx : a.eval x = .pointer (some ⟨b, o, none⟩)) (hy : a.eval y = capV c) (hn : n < 33) (hon : o = 3 * n) (hc : Ctx w b R)
    (h : wpList Tryd.prog ops Q rest (a.put op.dst undef) (w.setCells b (3 * n) (capL c))) : wpList Tryd.prog ops Q (op :: rest) a w := by
  subst hon
  exact wpList_store_mid hgd ty x y ho b (3 * n) #[.bool c.1, .int .u64 (c.2.1 : Int), .int .u64 (c.2.2 : Int)] hx hy (hc.there n hn) (cap_info hT) (by simp [Value.oneCell']) h
theorem loadVar_ctx {t : TypeId} (hT : IsCtxT t) {W : World} {b : Nat} {R : Nat → C3} (h : Ctx W b R) : (loadVar t ⟨b, 0, none⟩).run Tryd.prog W = .ok (.agg (ctxA R)) W := by
  obtain ⟨d, hu, hd⟩ := ctx_row hT
  exact run_loadVar_mid W b 0 t (ctxL R) d h.all hu hd (by rw [ctxL_length]; exact ctx_info hT)
theorem loadAt_ctx {t : TypeId} (hT : IsCtxT t) {W : World} {b : Nat} {R : Nat → C3} (h : Ctx W b R) : (Instr.loadAt t (.pointer (some ⟨b, 0, none⟩))).run Tryd.prog W = .ok (.agg (ctxA R)) W := by
  obtain ⟨d, hu, hd⟩ := ctx_row hT
  exact run_loadAt_mid W b 0 t (ctxL R) d h.all hu hd (by rw [ctxL_length]; exact ctx_info hT)
theorem storeAt_ctx {t : TypeId} (hT : IsCtxT t) {W : World} {b : Nat} (h : Own W b 99) (R : Nat → C3) : (Instr.storeAt t (.pointer (some ⟨b, 0, none⟩)) (.agg (ctxA R))).run Tryd.prog W = .ok () (W.setCells b 0 (ctxL R)) :=
  run_storeAt_mid W b 0 t (ctxA R) (by rw [ctxA_size]; exact th_own h) (by rw [ctxA_size]; exact ctx_info hT) (ctxA_one R)
theorem exec_store_ctx {o : Oper} {t : TypeId} (hT : IsCtxT t) {x y : Operand} (ho : o.op = .store t x y) {a : Act} {w : World} {b : Nat} {R : Nat → C3} (hx : a.eval x = .pointer (some ⟨b, 0, none⟩)) (hy : a.eval y = .agg (ctxA R)) (h : Own w b 99) :
    (execOp a.eval o).run Tryd.prog w = .ok .skip (w.setCells b 0 (ctxL R)) := by
  have h1 := storeAt_ctx hT h R
  unfold execOp
  simp only [ho, hx, hy, Sem.run_bind, Sem.run_pure, Result.andThen_ok, h1]
theorem results_ctx {fn : Func} {k : Tmp} {t : TypeId} (h : fn.results = #[.cell k t]) (hT : IsCtxT t) {tmps : Array Value} {W : World} {b : Nat} {R : Nat → C3} (hp : tmps.getD k undef = .pointer (some ⟨b, 0, none⟩)) (hc : Ctx W b R) :
    (results fn tmps).run Tryd.prog W = .ok (.agg (ctxA R)) W := by
  have h1 : (tmps[k]?).getD undef = .pointer (some ⟨b, 0, none⟩) := by rw [← hp]; simp
  simp [results, h, h1, asAddr, loadVar_ctx hT hc]
theorem results_ctx2 {fn : Func} {k j : Tmp} {t : TypeId} (h : fn.results = #[.cell k t, .tmp j]) (hT : IsCtxT t) {tmps : Array Value} {W : World} {b : Nat} {R : Nat → C3} (hp : tmps.getD k undef = .pointer (some ⟨b, 0, none⟩)) (hc : Ctx W b R) :
    (results fn tmps).run Tryd.prog W = .ok (.tuple #[.agg (ctxA R), tmps.getD j undef]) W := by
  have h1 : (tmps[k]?).getD undef = .pointer (some ⟨b, 0, none⟩) := by rw [← hp]; simp
  simp [results, h, h1, asAddr, loadVar_ctx hT hc]
/-- The zero of a type of contexts; one that is built of its last capability alone. -/
theorem ctx_zero {t : TypeId} (h : IsCtxT t) : ∃ Z : Array Value, (∀ W, (zeroValue t).run Tryd.prog W = .ok (.agg Z) W) ∧ Z = ctxA (fun _ => zC) := by
  have h1 : ((Tryd.prog.info? t).bind (·.zero)).map (fun z => z.cells.toList) = some (ctxL (fun _ => zC)) := by rcases h with rfl | rfl <;> kernel_rfl
  have h2 : ((Tryd.prog.info? t).bind (·.zero)).map (fun z => match z with | .agg _ => true | _ => false) = some true := by rcases h with rfl | rfl <;> kernel_rfl
  obtain ⟨z, hz0, hl⟩ := Option.map_eq_some_iff.1 h1
  obtain ⟨i, hi, hz⟩ := Option.bind_eq_some_iff.1 hz0
  rw [hz0] at h2
  cases z with
  | agg cs => exact ⟨cs, fun W => by simp [zeroValue, typeInfo, hi, hz], by rw [ctxA, ← hl]; simp [Value.cells]⟩
  | _ => simp at h2
theorem ctx_build (c : C3) {t : TypeId} (h : IsCtxT t) (W : World) : (Instr.build t #[(1, capV c)]).run Tryd.prog W = .ok (.agg (ctxA (updC (fun _ => zC) 32 c))) W := by
  have h1 : (Tryd.prog.built t [(1, capV c)]).map (·.toList) = some (ctxL (updC (fun _ => zC) 32 c)) := by rcases h with rfl | rfl <;> kernel_rfl
  obtain ⟨Z, h2, h3⟩ := Option.map_eq_some_iff.1 h1
  have h4 : Z = ctxA (updC (fun _ => zC) 32 c) := by rw [ctxA, ← h3]
  subst h4
  exact run_build W t _ _ (by simpa using h2)
theorem wpListIn_load_ctx {F : Fence} {n : Nat} {ops : Array Oper} {rest : List Oper} {op : Oper} {a : Act} {w : World} {Q : Exit → Act → World → Prop} (hgd : op.guard = none) {ty : TypeId} (hT : IsCtxT ty) {x : Operand} (ho : op.op = .load ty x)
    {b : Nat} (hx : a.eval x = .pointer (some ⟨b, 0, none⟩)) {R : Nat → C3} (hc : Ctx w b R) (h : wpListIn F n Tryd.prog ops Q rest (a.put op.dst (.agg (ctxA R))) w) : wpListIn F n Tryd.prog ops Q (op :: rest) a w := by
  obtain ⟨d, hu, hd⟩ := ctx_row hT
  exact wpListIn_load_mid hgd ty x ho b 0 hx (ctxL R) d hc.all hu hd (by rw [ctxL_length]; exact ctx_info hT) h
theorem wpListIn_store_ctx {F : Fence} {n : Nat} {ops : Array Oper} {rest : List Oper} {op : Oper} {a : Act} {w : World} {Q : Exit → Act → World → Prop} (hgd : op.guard = none) {ty : TypeId} (hT : IsCtxT ty) {x y : Operand} (ho : op.op = .store ty x y)
    {b : Nat} {R : Nat → C3} (hx : a.eval x = .pointer (some ⟨b, 0, none⟩)) (hy : a.eval y = .agg (ctxA R)) (hc : Own w b 99) (h : wpListIn F n Tryd.prog ops Q rest (a.put op.dst undef) (w.setCells b 0 (ctxL R))) : wpListIn F n Tryd.prog ops Q (op :: rest) a w :=
  wpListIn_store_mid hgd ty x y ho b 0 (ctxA R) hx hy (by rw [ctxA_size]; exact th_own hc) (by rw [ctxA_size]; exact ctx_info hT) (ctxA_one R) h
/-- A context loaded, in a region that draws its order. -/
theorem quiet_load_ctx {ops : Array Oper} {C : World → Prop} {Q : Act → Prop} {rest : List Oper} {op : Oper} {a : Act} (hgd : op.guard = none) {ty : TypeId} (hT : IsCtxT ty) {x : Operand} (ho : op.op = .load ty x)
    {b : Nat} (hx : a.eval x = .pointer (some ⟨b, 0, none⟩)) {R : Nat → C3} (hc : ∀ w, C w → Ctx w b R) (h : wpQuiet Tryd.prog ops C Q rest (a.put op.dst (.agg (ctxA R)))) : wpQuiet Tryd.prog ops C Q (op :: rest) a := by
  unfold wpQuiet
  rw [if_pos (by simp [Region.wanted, hgd])]
  refine ⟨.agg (ctxA R), fun w hw => ?_, h⟩
  unfold Oper.quietAt execOp
  simp only [ho, hx, Instr.loadAt, Instr.sureAddr, Sem.run_bind, Sem.run_pure, Result.andThen_ok, loadVar_ctx hT (hc w hw)]
  exact ⟨rfl, rfl⟩
theorem behind_c {w0 : World} {b : Nat} {R : Nat → C3} (h : Ctx w0 b R) : ∀ w, (∃ y : Behind w0.heap.size w0, w = y.world) → Ctx w b R := fun _ ⟨y, hy⟩ => by rw [hy]; exact h.be y.below
end Go.Proofs.YtnbfjaocakghkaaDoor
